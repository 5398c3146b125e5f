/- slices.Clone at bytes, drover/value.Put: the walks. -/
import Derived.Test.YtfobmlicmbelnaaDoorQuote
import Derived.Test.YtfobmlicmbelnaaDoorRight2
import Derived.Test.YtfobmlicmbelnaaDoorBound
import Derived.Laws.EntriesVeiled
import Derived.WalkSpells
namespace Go.Proofs.YtfobmlicmbelnaaDoor
open Go.RowKit

set_option maxHeartbeats 400000 in
set_option maxRecDepth 100000 in
theorem clone_any (v : Value) (l : List Nat) (w : World) (h : Bs w v l) (hn : l.length ≤ 1099511627776) :
    Calls Tryd.prog 37 #[v] w fun e w' => ∃ u, e = .returned u ∧ Own w' w.heap.size u l ∧ Below w.heap.size w w' := by
  obtain ⟨⟨A, c, rfl, hc, ha⟩, h8⟩ := h
  cases A with
  | none =>
    have hl : l = [] := by
      cases l with
      | nil => rfl
      | cons x r => obtain ⟨b, o, e, _⟩ := ha (by simp [bv]); cases e
    subst hl
    have hnil := Lib.run_eql_slice_nil (P := Tryd.prog) w 32 5 none 0 c 0 0 Tryd.underlying32
    go_enter Tryd.func37, Tryd.ntmps37
    go_wp2_with fail
    go_ret
    exact ⟨_, rfl, Own.nil _ _, Below.refl _ _⟩
  | some a =>
    have hnil := Lib.run_eql_slice_nil (P := Tryd.prog) w 32 5 (some a) l.length c 0 0 Tryd.underlying32
    go_enter Tryd.func37, Tryd.ntmps37
    go_wp2_with (at_builtin
                 refine wpList_app rfl (.tmp 5) (.tmp 6) rfl rfl (own_new w [] 0 _ _ rfl rfl rfl rfl) rfl (ha.alloc (Nat.le_refl _) _) rfl (by simp; omega) (by simp) ?_
                 intro v2 w2 hown2 hb2 _ _)
    go_ret
    exact ⟨_, rfl, hown2, ((Below.refl _ _).alloc (Nat.le_refl _) _).trans hb2⟩

def OutPut (v : Va) (l : List Nat) (w : World) (e : Ending) (w' : World) : Prop := Below w.heap.size w w' ∧
  (right v = false → e = .returned (.tuple #[.slice none 0 0, .int .i64 13])) ∧
  (right v = true → ∃ u, e = .returned (.tuple #[u, .int .i64 0]) ∧ Own w' w.heap.size u (l ++ enc 16 v))
theorem right_rgt {v : Va} (h : right v = true) : ∃ m, rgt 16 v 256 = some m := Option.isSome_iff_exists.1 h
set_option maxRecDepth 100000 in
set_option maxHeartbeats 800000 in
theorem put_any (t : Va) (v vo : Value) (l : List Nat) (w : World) (B : Nat) (h : Rep w B v t) (hB : B ≤ w.heap.size) (ho : Bs w vo l) (hn : l.length ≤ 549755813888) :
    Calls Tryd.prog 17 #[vo, v] w (OutPut t l w) := by
  have h0 := h
  have hok := h.ok 16
  obtain ⟨⟨A, c, rfl, hc, ha⟩, h8⟩ := id ho
  obtain ⟨k, n, s, p⟩ := t
  obtain ⟨y0, y1, y2, y3, rfl⟩ := h.form
  obtain ⟨A', c', rfl, rfl, rfl, rfl, -⟩ := h.parts
  have H8 := Lib.hid h8
  clear h h8
  have HR : ∀ b, right (.mk k n s p) = b → Hid (right (.mk k n s p) = b) := fun _ h => h
  cases hr : right (.mk k n s p) with
  | false =>
    have HR := Lib.hid hr
    go_enter Tryd.func17, Tryd.ntmps17
    go_wp2_with fail
    refine (right_any _ _ _ B (h0.under ((Below.refl _ _).alloc hB _)) (by simp; omega)).mono ?_
    rintro e w1 ⟨rfl, hb1⟩
    rw [HR.out]
    have hb2 := nxt ((Below.refl w.heap.size w).alloc (Nat.le_refl _) _) hb1
    clear hr hb1
    go_wp2_with fail
    go_ret2
    exact ⟨hb2, fun _ => rfl, fun h => by rw [HR.out] at h; cases h⟩
  | true =>
    have HR := Lib.hid hr
    obtain ⟨m, hm⟩ := right_rgt hr
    have hrt := (rgt_rt 16 _ 256 m hm).1
    clear hm hr
    go_enter Tryd.func17, Tryd.ntmps17
    go_wp2_with fail
    refine (right_any _ _ _ B (h0.under ((Below.refl _ _).alloc hB _)) (by simp; omega)).mono ?_
    rintro e w1 ⟨rfl, hb1⟩
    rw [HR.out]
    have hb2 := nxt ((Below.refl w.heap.size w).alloc (Nat.le_refl _) _) hb1
    have hbox := heap_below (heap_new _ _) hb1
    obtain ⟨d0, d1, d2, d3⟩ := box4 hbox
    have hsz := lt_heap hbox
    clear hb1
    go_wp2_with fail
    refine (clone_any _ l _ (ho.below hb2) (by omega)).mono ?_
    rintro e w2 ⟨u, rfl, hown, hb3⟩
    have hb4 := nxt hb2 hb3
    have hbox2 := heap_below hbox hb3
    obtain ⟨d0, d1, d2, d3⟩ := box4 hbox2
    have hsz2 := lt_heap hbox2
    obtain ⟨Au, cu, rfl, hcu, _, _, _, _⟩ := hown.form
    go_wp2_with fail
    have hsz1 := hb2.size
    have hsz3 := hb3.size
    have hbt : Below w2.heap.size w2 ((w2.alloc (.cells #[.slice Au l.length cu] 32)).alloc (.cells #[.func (.func 38) #[] #[.pointer (some ⟨w2.heap.size, 0, none⟩), .pointer (some ⟨w2.heap.size + 1, 0, none⟩)]] 69)) := two _ _ _
    refine (put1_any 16 _ l _ _ B w.heap.size w2.heap.size (w2.heap.size + 1) hrt hok (h0.under ((hb4.mono hB).trans (hbt.mono (by omega)))) hB (by omega) (by have := hbt.size; omega) (by omega) ⟨_, heap_old (heap_new _ _) _, ((hown.alloc _).alloc _).mono (by omega)⟩ (heap_new' _ _ _ (by simp)) (by have := enc_short HR.out; omega)).mono ?_
    rintro e w3 ⟨rfl, ⟨v3, hv3, hown3⟩, hb5, hot5⟩
    have hb6 : Below w.heap.size w w3 := hb4.trans ((hbt.mono (by omega)).trans hb5)
    have c9 := cell_of_one hv3
    obtain ⟨A3, cp3, rfl, hcp3, _, _, _, _⟩ := id hown3.form
    clear hbt hb5 hot5 d0 d1 d2 d3 hbox hbox2
    go_wp2_with fail
    go_ret2
    rw [show (l ++ enc 16 (.mk k n s p)).length = l.length + (enc 16 (.mk k n s p)).length by simp] at hown3
    exact ⟨hb6, (fun h => by rw [HR.out] at h; cases h), fun _ => ⟨_, rfl, hown3⟩⟩
end Go.Proofs.YtfobmlicmbelnaaDoor
