/- droverlaw07.nothing, got, packets: the walks. -/
import Derived.Test.YtjhopajhcmkllaaSk
namespace Go.Proofs.Ytjhopajhcmkllaa
open Go.RowKit
set_option linter.unusedVariables false

section
variable {w w' : World} {base q : Nat} {r r' : Option Nat} {p p' : Se}
set_option maxHeartbeats 800000 in
theorem nothing_any (h : SeAt w base q r p) (v : Value) (b : List Nat) (hv : Bs w v b) (hn : b.length ≤ 1099511627776) (hbase : base ≤ w.heap.size) (hr : p.recv b = (p', none, 0)) :
    Calls Try.prog 11 #[.pointer (some ⟨q, 0, none⟩), v] w fun e w' => e = .returned (.bool true) ∧ AfterS w base q r p' w' := by
  have HR := Lib.hid (receive_any h v b hv hn hbase)
  have HH := Lib.hid h
  have HRR := Lib.hid hr
  clear h hv hr
  go_enter Try.func11, Try.ntmps11
  go_wp2_with fail
  refine HR.out.mono ?_
  intro e w1 hO
  unfold RecvP at hO
  rw [HRR.out] at hO
  obtain ⟨⟨r1, hs1, hk1, hw1⟩, he⟩ := hO
  unfold ZI at he
  dsimp only at he
  subst he
  have q1 := heap_new w1 (.cells #[.int .i64 0, .slice none 0 0] 27)
  have e0 := cell_block q1 0
  have e1 := cell_block q1 1
  have hb1 := (Below.refl w1.heap.size w1).alloc (Nat.le_refl _) (.cells #[.int .i64 0, .slice none 0 0] 27)
  have HS := Lib.hid hs1
  have HK := Lib.hid hk1
  have HX := Lib.hid hw1
  clear hs1 hk1 hw1 q1
  rw [show (((0 : Nat)) : Int) = 0 from rfl]
  go_wp2_with fail
  refine (sameitem_any 0 0 _ _ [] [] _ (Bs.nil _) (Bs.nil _) true (by simp)).mono ?_
  rintro e w2 ⟨rfl, hb2⟩
  go_wp2_with fail
  go_ret
  exact ⟨rfl, r1, (HS.out.below hb1).below hb2, HK.out.trans (.inl rfl) (Kr.of_below (nxt hb1 hb2)), HX.out⟩
set_option maxHeartbeats 800000 in
theorem got_any (h : SeAt w base q r p) (v : Value) (b : List Nat) (hv : Bs w v b) (hn : b.length ≤ 1099511627776) (hbase : base ≤ w.heap.size) (s : Nat) (d : List Nat) (hr : p.recv b = (p', some (s, d), 0)) :
    Calls Try.prog 12 #[.pointer (some ⟨q, 0, none⟩), v, .int .i64 (s : Int), .string (strOf d)] w fun e w' => e = .returned (.bool true) ∧ AfterS w base q r p' w' := by
  have HR := Lib.hid (receive_any h v b hv hn hbase)
  have HH := Lib.hid h
  have HRR := Lib.hid hr
  clear h hv hr
  obtain ⟨st, hst⟩ : ∃ st, Hid (st = strOf d) := ⟨_, Lib.hid rfl⟩
  rw [← hst.out]
  go_enter Try.func12, Try.ntmps12
  go_wp2_with fail
  refine HR.out.mono ?_
  intro e w1 hO
  unfold RecvP at hO
  rw [HRR.out] at hO
  obtain ⟨⟨r1, hs1, hk1, hw1⟩, he⟩ := hO
  dsimp only at he
  obtain ⟨A, c, rfl, ho, hbs⟩ := he
  have q1 := heap_new w1 (.cells #[.int .i64 (s : Int), .slice A d.length c] 27)
  have e0 := cell_block q1 0
  have e1 := cell_block q1 1
  have hb1 := (Below.refl w1.heap.size w1).alloc (Nat.le_refl _) (.cells #[.int .i64 (s : Int), .slice A d.length c] 27)
  obtain ⟨hcc, hnn, hat, h8⟩ := (hbs.below hb1).parts
  have s1 := run_strOf (w1.alloc (.cells #[.int .i64 (s : Int), .slice A d.length c] 27)) _ A c d hat h8
  rw [← hst.out] at s1
  have k1 : ((s : Int) == (s : Int)) = true := by simp
  have k2 : (st.toList == st.toList) = true := by simp
  have HS := Lib.hid hs1
  have HK := Lib.hid hk1
  have HX := Lib.hid hw1
  clear hs1 hk1 hw1 q1 ho hbs hat h8 hcc
  go_wp2_with fail
  go_ret
  exact ⟨rfl, r1, HS.out.below hb1, HK.out.trans (.inl rfl) (Kr.of_below hb1), HX.out⟩
end
/-- A row of blobs that is read. -/
def BAt (w : World) (A : Option Addr) (ll : List (List Nat)) : Prop := ll ≠ [] → ∃ g, A = some ⟨g, 0, none⟩ ∧ g < w.heap.size ∧ ∀ (i : Nat) (x : List Nat), ll[i]? = some x → ∃ A' c', w.cell? ⟨g, i, none⟩ = some (.slice A' x.length c') ∧ Bs w (.slice A' x.length c') x
section
variable {w w' : World} {base : Nat} {A : Option Addr} {ll : List (List Nat)}
theorem BAt.below (h : BAt w A ll) (hb : Below w.heap.size w w') : BAt w' A ll := fun hn => by
  obtain ⟨g, h1, h2, h3⟩ := h hn
  have hs := hb.size
  refine ⟨g, h1, by omega, fun i x hx => ?_⟩
  obtain ⟨A', c', k1, k2⟩ := h3 i x hx
  exact ⟨A', c', (hb.cell (p := ⟨g, i, none⟩) h2).trans k1, k2.below hb⟩
theorem BAt.drew (h : BAt w A ll) : BAt w.drew A ll := h
theorem RB.bat {n c : Nat} (h : RB w base (.slice A n c) ll) : BAt w A ll := fun hn => by
  have h0 : 0 < ll.length := List.length_pos_iff.2 hn
  obtain ⟨g, A1, c1, rfl, hg, -, -⟩ := h.cell (i := 0) (List.getElem?_eq_getElem h0)
  refine ⟨g, rfl, hg, fun i x hx => ?_⟩
  obtain ⟨g', A', c', he, -, k1, k2⟩ := h.cell hx
  injection he with he
  injection he with he _
  subst he
  exact ⟨A', c', k1, k2.bs⟩
theorem BAt.take (h : BAt w A ll) (k : Nat) : BAt w A (ll.take k) := fun hn => by
  obtain ⟨g, h1, h2, h3⟩ := h (fun e => hn (by rw [e]; simp))
  refine ⟨g, h1, h2, fun i x hx => h3 i x ?_⟩
  have hi := (List.getElem?_eq_some_iff.1 hx).1
  rw [List.length_take] at hi
  rw [List.getElem?_take_of_lt (by omega)] at hx
  exact hx
end
set_option maxRecDepth 100000 in
set_option maxHeartbeats 1600000 in
/-- Two lists of the same blobs. -/
theorem packets7_any (A A' : Option Addr) (n c c' : Nat) (ll : List (List Nat)) (w : World) (hl : ll.length = n) (hn : n ≤ 100000) (ha : BAt w A ll) (ha' : BAt w A' ll) :
    Calls Try.prog 35 #[.slice A n c, .slice A' n c'] w fun e w' => e = .returned (.bool true) ∧ Below w.heap.size w w' := by
  have HL := Lib.hid hl
  have HA := Lib.hid ha
  have HA' := Lib.hid ha'
  have k3 : ((n : Int) != (n : Int)) = false := by simp
  clear hl ha ha'
  go_enter Try.func35, Try.ntmps35
  go_wp2_with fail
  clear k3
  go_loopw [5] (fun i wr => ∃ j : Nat, j ≤ n ∧ i = .int .i64 (j : Int) ∧ Below w.heap.size w wr) (fun i _ => n - (intOf i).toNat)
  case atStart => exact ⟨0, by omega, rfl, Below.refl _ _⟩
  case round =>
    obtain ⟨j, hj, rfl, hbr⟩ := hrel
    by_cases hlt : j < n
    · have hjl : j < ll.length := by have := HL.out; omega
      obtain ⟨x, hx⟩ : ∃ x, Hid (ll[j]? = some x) := ⟨ll[j], Lib.hid (List.getElem?_eq_getElem hjl)⟩
      have hne : ll ≠ [] := fun h => by rw [h] at hjl; simp at hjl
      obtain ⟨g, hAg, hgl, hcell⟩ := (HA.out.below hbr) hne
      obtain ⟨g', hAg', hgl', hcell'⟩ := (HA'.out.below hbr) hne
      obtain ⟨A1, c1, x0, hs1⟩ := hcell j x hx.out
      obtain ⟨A2, c2, x1, hs2⟩ := hcell' j x hx.out
      have HC := Lib.hid (fun (w : World) (hu : Bs w _ x) (hu' : Bs w _ x) => same_bs (.slice A1 x.length c1) (.slice A2 x.length c2) x x true w hu hu' (by simp))
      have HG := Lib.hid hAg
      have HG' := Lib.hid hAg'
      rw [HG.out, HG'.out]
      clear hcell hcell' hne hjl hAg hAg'
      go_wp2_with fail
      go_region_held3 (fun w' => w'.cell? ⟨g, j, none⟩ = some (.slice A1 x.length c1) ∧ w'.cell? ⟨g', j, none⟩ = some (.slice A2 x.length c2)) (go_keep)
        (first
          | (go_at_call 54
             refine (HC.out _ hs1.drew hs2.drew).mono ?_
             rintro e w2 ⟨rfl, rfl⟩)
          | (fail))
      all_goals
        clear x0 x1
        go_wp2_with fail
        go_roundw
        case rel => exact ⟨j + 1, by omega, by go_num, hbr.drew⟩
        case measure => simp [intOf]; omega
    · obtain rfl : j = n := by omega
      go_wp2_with fail
      go_ret
      exact ⟨rfl, hbr⟩
end Go.Proofs.Ytjhopajhcmkllaa
