/- drover/value.Show: the walk. -/
import Derived.Test.YtfobmlicmbelnaaDoorShow1
import Derived.Test.YtfobmlicmbelnaaDoorRight2
import Derived.Test.YtfobmlicmbelnaaDoorBound
import Derived.Laws.EntriesVeiled
namespace Go.Proofs.YtfobmlicmbelnaaDoor
open Go.RowKit

/-- The text that Show tells. -/
def showT (t : Va) : List Nat := if right t = true then shw 16 t else [63]
theorem byteCells_bv (l : List Nat) (h8 : ∀ x ∈ l, x < 256) : Lib.byteCells (l.map UInt8.ofNat) = bv l := by
  unfold Lib.byteCells bv
  rw [List.map_map]
  refine List.map_congr_left fun x hx => ?_
  have := h8 x hx
  simp [UInt8.toNat_ofNat', Nat.mod_eq_of_lt this]
theorem jn_bytes : ∀ l : List (List Nat), (∀ x ∈ l, ∀ y ∈ x, y < 256) → ∀ y ∈ jn l, y < 256
  | [], _, y, hy => by simp [jn] at hy
  | x :: r, h, y, hy => by
    simp only [jn, List.mem_append, List.mem_flatMap] at hy
    rcases hy with hy | ⟨z, hz, hy⟩
    · exact h x (by simp) y hy
    · simp only [List.mem_cons] at hy
      rcases hy with rfl | rfl | hy
      · omega
      · omega
      · exact h z (by simp [hz]) y hy
theorem shw_bytes : ∀ (L : Nat) (t : Va), Ok L t → ∀ y ∈ shw L t, y < 256
  | 0, _, _, y, hy => by simp [shw] at hy
  | L + 1, .mk k n s l, h, y, hy => by
    simp only [shw] at hy
    split at hy
    · exact itoaN_bytes n y hy
    · split at hy
      · split at hy <;> simp at hy <;> omega
      · split at hy
        · exact quo_bytes s h.2.2.2.1 y hy
        · split at hy
          · rw [shT_jn] at hy
            simp only [List.mem_cons, List.mem_append] at hy
            rcases hy with rfl | hy | hy | hy
            · omega
            · refine jn_bytes _ ?_ y hy
              intro x hx
              obtain ⟨t, ht, rfl⟩ := List.mem_map.1 hx
              exact shw_bytes L t (h.2.2.2.2 t ht)
            · split at hy
              · simp at hy; omega
              · simp at hy
            · simp at hy; omega
          · split at hy
            · rcases List.mem_cons.1 hy with rfl | hy
              · omega
              · exact itoaN_bytes n y hy
            · simp at hy
theorem bu_new (w : World) (base g : Nat) (hg : g = w.heap.size) (hb : base ≤ g) : BuF base g (bv []) (w.alloc (.cells #[.pointer none, .slice none 0 0] 61)) :=
  .inl ⟨hb, .slice none 0 0, by subst hg; exact heap_new _ _, World.ownsRowF_of (World.ownsRow_nil _ _ _ _), by simp [Value.ownBlock]⟩

set_option maxRecDepth 100000 in
set_option maxHeartbeats 800000 in
theorem show_any (t : Va) (v : Value) (w : World) (B : Nat) (h : Rep w B v t) (hB : B ≤ w.heap.size) (htab : Tab w w.heap.size) :
    Calls Tryd.prog 19 #[v] w fun e w' => e = .returned (.string (strOf (showT t))) ∧ Below w.heap.size w w' := by
  have h0 := h
  have hok := h.ok 16
  obtain ⟨k, n, s, p⟩ := t
  obtain ⟨y0, y1, y2, y3, rfl⟩ := h.form
  obtain ⟨A', c', rfl, rfl, rfl, rfl, -⟩ := h.parts
  clear h
  have h8 := Lib.hid (shw_bytes 16 _ hok)
  cases hr : right (.mk k n s p) with
  | false =>
    have HT : Hid (showT (.mk k n s p) = [63]) := by show _ = _; rw [showT, if_neg (by rw [hr]; simp)]
    have HR := Lib.hid hr
    clear hr
    go_enter Tryd.func19, Tryd.ntmps19
    go_wp2_with fail
    refine (right_any _ _ _ B (h0.under ((Below.refl _ _).alloc hB _)) (by simp; omega)).mono ?_
    rintro e w1 ⟨rfl, hb1⟩
    rw [HR.out]
    have hb2 := nxt ((Below.refl w.heap.size w).alloc (Nat.le_refl _) _) hb1
    clear hb1
    go_wp2_with fail
    go_ret
    rw [HT.out]
    exact ⟨rfl, hb2⟩
  | true =>
    have HT : Hid (showT (.mk k n s p) = shw 16 (.mk k n s p)) := by show _ = _; rw [showT, if_pos hr]
    have HR := Lib.hid hr
    obtain ⟨m, hm⟩ : ∃ m, rgt 16 (.mk k n s p) 256 = some m := Option.isSome_iff_exists.1 hr
    have hrt := (rgt_rt 16 _ 256 m hm).1
    clear hm hr
    go_enter Tryd.func19, Tryd.ntmps19
    go_wp2_with fail
    refine (right_any _ _ _ B (h0.under ((Below.refl _ _).alloc hB _)) (by simp; omega)).mono ?_
    rintro e w1 ⟨rfl, hb1⟩
    rw [HR.out]
    have hb2 := nxt ((Below.refl w.heap.size w).alloc (Nat.le_refl _) _) hb1
    have hbox := heap_below (heap_new _ _) hb1
    obtain ⟨d0, d1, d2, d3⟩ := box4 hbox
    have hsz := lt_heap hbox
    clear hb1
    go_wp2_with fail
    have hsz1 := hb2.size
    have hbt : Below w1.heap.size w1 ((w1.alloc (.cells #[.pointer none, .slice none 0 0] 61)).alloc (.cells #[.func (.func 44) #[] #[.pointer (some ⟨w1.heap.size, 0, none⟩), .pointer (some ⟨w1.heap.size + 1, 0, none⟩)]] 69)) := two _ _ _
    refine (show1_any 16 _ [] _ _ B w.heap.size w1.heap.size (w1.heap.size + 1) hrt hok (h0.under ((hb2.mono hB).trans (hbt.mono (by omega)))) hB (by have := hbt.size; omega) (by omega) ((bu_new w1 w.heap.size w1.heap.size rfl (by omega)).mid ((Below.refl _ _).alloc (Nat.le_refl _) _)) (heap_new' _ _ _ (by simp)) (htab.below (hb2.trans (hbt.mono (by omega)))) (by have := shw_short HR.out hok; simp; omega)).mono ?_
    rintro e w3 ⟨rfl, hbu3, hb5, hot5⟩
    rw [List.nil_append, ← byteCells_bv _ h8.out] at hbu3
    have hb6 : Below w.heap.size w w3 := hb2.trans ((hbt.mono (by omega)).trans hb5)
    clear hbt hb5 hot5 d0 d1 d2 d3 hbox
    go_wp2_with fail
    refine (Tryd.Builder_String_any_k w.heap.size w1.heap.size _ w3 hbu3 hb6.size).mono ?_
    rintro e w4 ⟨rfl, _, hb7, _⟩
    go_wp2_with fail
    go_ret
    rw [HT.out]
    exact ⟨rfl, hb6.trans hb7⟩
end Go.Proofs.YtfobmlicmbelnaaDoor
