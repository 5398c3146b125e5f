/- droverlaw07.begins, fair. -/
import Derived.Test.YtjhopajhcmkllaaOg
import Derived.Deep.LoopGhost
namespace Go.Proofs.Ytjhopajhcmkllaa
open Go.RowKit
set_option linter.unusedVariables false

set_option maxRecDepth 100000 in
set_option maxHeartbeats 1600000 in
theorem begins_any (A A' : Option Addr) (n m c c' : Nat) (la lb : List (List Nat)) (w : World) (hl : la.length = n) (hm : lb.length = m) (hp : la <+: lb) (hm' : m ≤ 100000) (hc : m ≤ c') (hc' : c' ≤ maxLen) (ha : BAt w A la) (hb : BAt w A' lb) :
    Calls Try.prog 33 #[.slice A n c, .slice A' m c'] w fun e w' => e = .returned (.bool true) ∧ Below w.heap.size w w' := by
  have hnm : n ≤ m := by have := hp.length_le; omega
  have htk : lb.take n = la := by rw [← hl]; exact (List.prefix_iff_eq_take.1 hp).symm
  have HP := Lib.hid (fun w' (hbw : Below w.heap.size w w') => packets7_any A A' n c c' la w' hl (by omega) (ha.below hbw) (htk ▸ (hb.below hbw).take n))
  have hx : decide ((m : Int) < (n : Int)) = false := decide_eq_false (by omega)
  have hc1 : c' ≤ 9223372036854775807 := by unfold maxLen at hc'; omega
  clear ha hb hp htk hl hm
  go_enter Try.func33, Try.ntmps33
  go_wp2_with fail
  all_goals
    refine (HP.out _ (by first | exact Below.refl _ _ | assumption)).mono ?_
    rintro e w1 ⟨rfl, hb1⟩
    go_wp2_with fail
    go_ret
    exact ⟨rfl, hb1⟩
/-- What both ends are, on the way of fair. -/
def FairI (w : World) (B g : Nat) (x y : En) (j : Nat) (wr : World) : Prop := ∃ x1 y1 : En, Arena wr B g 0 x1 y1 ∧ EpOk 0 x1.e y1.e ∧ EpOk 1 y1.e x1.e ∧ x1.e.S = x.e.S ∧ y1.e.S = y.e.S ∧ x1.e.p.life = x.e.p.life ∧ y1.e.p.life = y.e.p.life ∧ Prog j x1.e y1.e ∧ Below B w wr
/-- So many of what the one sends now have come to the other. -/
def FairJ (w : World) (B g o : Nat) (s r : En) (v : Value) (t : Nat) (wz : World) : Prop := ∃ (r1 : En) (b : Nat), r1.e = r.e.gots (s.e.outs.take t) ∧ Arena wz B g o r1 s ∧ RB wz b v s.e.p.packets ∧ (∀ u ∈ r1.rows, Apart v.ownBlock u.ownBlock) ∧ Below B w wz
section
variable {w wz w' : World} {B g o : Nat} {s r : En} {v : Value} {t k : Nat}
theorem FairJ.start (h : Arena wz B g o r s) (hv : RB w' wz.heap.size v s.e.p.packets) (hb : Below wz.heap.size wz w') (hw : Below B w wz) (hB : B ≤ wz.heap.size) : FairJ w B g o s r v 0 w' :=
  ⟨r, _, by rw [List.take_zero]; rfl, h.below hb, hv, fun u hu j h1 h2 => by
    have := (hv.blk h1).1
    have := h.a.lt u hu j h2
    omega, hw.trans (hb.mono hB)⟩
theorem FairJ.take {A : Option Addr} {n c : Nat} (h : FairJ w B g o s r (.slice A n c) t wz) (hE : EpOk k r.e s.e) (hE' : EpOk (1 - k) s.e r.e) (hk : k ≤ 1) (hl : s.e.p.life ≤ 1000) (hS : s.e.S.length ≤ 1000) (hS' : r.e.S.length ≤ 1000) (hB : B ≤ w.heap.size) (ht : t < s.e.p.items.length) :
    ∃ (g2 : Nat) (Ax : Option Addr) (l cx : Nat), A = some ⟨g2, 0, none⟩ ∧ g2 < wz.heap.size ∧ wz.cell? ⟨g2, t, none⟩ = some (.slice Ax l cx) ∧
      Calls Try.prog 28 #[.pointer (some ⟨g, o, none⟩), .slice Ax l cx, .bool true] wz fun e w' => e = .returned (.bool true) ∧ FairJ w B g o s r (.slice A n c) (t + 1) w' := by
  obtain ⟨r1, b, h1, h2, h3, h4, h5⟩ := h
  obtain ⟨i1, i2, i3, i4, i5, -, -, -⟩ := gots_ok hE hE' hk t (by omega)
  rw [← h1] at i1 i2 i3 i4 i5
  have hy : s.e.p.items[t]? = some s.e.p.items[t] := List.getElem?_eq_getElem ht
  generalize s.e.p.items[t] = y at hy
  have hpk := send_ok7 i2 hy
  have hD := pre_len i2
  rw [i3] at hD
  have hr : pright (s.e.p.pkt y.1 y.2) = true := hpk.right (by omega) hl hS (by omega) i2.short
  have hx : s.e.p.packets[t]? = some (pkb (s.e.p.pkt y.1 y.2)) := by
    rw [Se.packets_items, List.getElem?_map, hy]
    rfl
  obtain ⟨g2, Ax, cx, hA, hg, hc, hb⟩ := h3.cell hx
  refine ⟨g2, Ax, _, cx, hA, hg, hc, (take_one h2 i1 i2 hk hpk hr _ hb.zero true (by rw [i3]; exact hS') hS (Nat.le_trans hB h5.size)).mono ?_⟩
  rintro e w' ⟨rfl, x', e1, -, a1, f1⟩
  refine ⟨rfl, x', b, ?_, a1, Fr.rb h2 f1 h3 h4, Fr.apart f1 h3 h4, h5.trans (Fr.low h2 f1)⟩
  have ho : s.e.outs[t]? = some (s.e.p.pkt y.1 y.2) := by
    unfold Ep.outs
    rw [List.getElem?_map, hy]
    rfl
  have hol := List.getElem?_eq_some_iff.1 ho
  rw [e1, List.take_succ_eq_append_getElem hol.1, hol.2, gots_snoc, h1]
theorem FairJ.fin (h : FairJ w B g o s r v t wz) (hE : EpOk k r.e s.e) (hE' : EpOk (1 - k) s.e r.e) (hk : k ≤ 1) (hS : s.e.S.length ≤ 1000) (hB : B ≤ w.heap.size) (ht : t = s.e.p.items.length) :
    Calls Try.prog 31 #[.pointer (some ⟨g, o, none⟩)] wz fun e w' => e = .returned (.bool true) ∧ ∃ r2 : En, r2.e = r.e.round s.e ∧ Arena w' B g o r2 s ∧ Below B w w' := by
  obtain ⟨r1, b, h1, h2, h3, h4, h5⟩ := h
  obtain ⟨i1, i2, -, -, -, -, -, -⟩ := gots_ok hE hE' hk t (by omega)
  rw [← h1] at i1 i2
  refine (finish_one h2 i1 hS (Nat.le_trans hB h5.size)).mono ?_
  rintro e w' ⟨rfl, x', e1, -, a1, f1⟩
  refine ⟨rfl, x', ?_, a1, h5.trans (Fr.low h2 f1)⟩
  rw [e1, h1]
  unfold Ep.round
  rw [List.take_of_length_le (by unfold Ep.outs; simp; omega)]
end
set_option maxRecDepth 100000 in
set_option maxHeartbeats 3200000 in
theorem fair_any {w : World} {B g : Nat} {x y : En} (h : Arena w B g 0 x y) (hE : EpOk 0 x.e y.e) (hE' : EpOk 1 y.e x.e) (hl : x.e.p.life ≤ 1000) (hl' : y.e.p.life ≤ 1000) (hS : x.e.S.length ≤ 1000) (hS' : y.e.S.length ≤ 1000) (hB : B ≤ w.heap.size) :
    Calls Try.prog 34 #[.pointer (some ⟨g, 0, none⟩)] w fun e w' => e = .returned (.bool true) ∧ FairI w B g x y 400 w' := by
  have H0 : Hid (FairI w B g x y 0 w) := Lib.hid ⟨x, y, h, hE, hE', rfl, rfl, rfl, rfl, prog_zero _ _, Below.refl _ _⟩
  have HHS := Lib.hid (And.intro hS hS')
  have HHL := Lib.hid (And.intro hl hl')
  clear h hE hE' hl hl' hS hS'
  go_enter Try.func34, Try.ntmps34
  go_wp2_with fail
  go_loopw [3] (fun i wr => ∃ j : Nat, j ≤ 400 ∧ i = .int .i64 (j : Int) ∧ Hid (FairI w B g x y j wr)) (fun i _ => 400 - (intOf i).toNat)
  case atStart => exact ⟨0, by omega, rfl, H0⟩
  case round =>
    obtain ⟨j, hj, rfl, hF⟩ := hrel
    by_cases hlt : j < 400
    · have HLT := Lib.hid hlt
      obtain ⟨x1, y1, hA1, hE1, hE1', hS1, hS1', hl1, hl1', hP1, hb1⟩ := hF.out
      have HHE := Lib.hid (And.intro hE1 hE1')
      have HA := Lib.hid hA1
      have HQ := Lib.hid (And.intro hS1 (And.intro hS1' (And.intro hl1 hl1')))
      have HP := Lib.hid hP1
      have HB := Lib.hid hb1
      obtain ⟨c0, -, -, -, -⟩ := hA1.cells
      obtain ⟨c5, -, -, -, -⟩ := hA1.symm.cells
      rw [show 5 - 0 = 5 from rfl] at c5
      have hrem : (j : Int).tmod 2 = ((j % 2 : Nat) : Int) := by rw [Int.tmod_eq_emod_of_nonneg (by omega)]; omega
      clear hF hA1 hE1 hE1' hS1 hS1' hl1 hl1' hP1 hb1
      rcases (show j % 2 = 0 ∨ j % 2 = 1 by omega) with hj2 | hj2
      · rw [hj2] at hrem
        have HSS : Hid (x1.e.S.length ≤ 1000) := Lib.hid (by rw [HQ.out.1]; exact HHS.out.1)
        have HSR : Hid (y1.e.S.length ≤ 1000) := Lib.hid (by rw [HQ.out.2.1]; exact HHS.out.2)
        have HSL : Hid (x1.e.p.life ≤ 1000) := Lib.hid (by rw [HQ.out.2.2.1]; exact HHL.out.1)
        go_wp2_with fail
        refine (packets_any HA.out.a.s).mono ?_
        rintro e w1 ⟨v, rfl, hv1, hb1⟩
        obtain ⟨A1, c1, rfl, -, -⟩ := hv1.slice
        have HJ : Hid (FairJ w B g 5 x1 y1 (.slice A1 x1.e.p.packets.length c1) 0 w1) := Lib.hid (FairJ.start HA.out.symm hv1 hb1 HB.out (Nat.le_trans hB HB.out.size))
        obtain ⟨m, hm⟩ : ∃ m, Hid (x1.e.p.packets.length = m) := ⟨_, Lib.hid rfl⟩
        have hmi : Hid (x1.e.p.items.length = m) := Lib.hid (by have := hm.out; rwa [Se.packets_items, List.length_map] at this)
        have hm8 : m ≤ 9 := by have := hmi.out; have := Se.items_len x1.e.p; omega
        rw [hm.out] at HJ ⊢
        clear hv1 hb1 c0 c5 hrem
        go_wp2_with fail
        go_loopw [21] (fun i wz => ∃ t : Nat, t ≤ m ∧ i = .int .i64 (t : Int) ∧ Hid (FairJ w B g 5 x1 y1 (.slice A1 m c1) t wz)) (fun i _ => m - (intOf i).toNat)
        case atStart => exact ⟨0, by omega, rfl, HJ⟩
        case round =>
          obtain ⟨t, ht, rfl, hJ⟩ := hrel
          by_cases htm : t < m
          · obtain ⟨g2, Ax, l, cx, hA, hg2, hc2, htk⟩ := hJ.out.take HHE.out.2 HHE.out.1 (by omega) HSL.out HSS.out HSR.out hB (by have := hmi.out; omega)
            have HT := Lib.hid htk
            have HTM := Lib.hid htm
            clear htk
            subst hA
            go_wp2_with fail
            refine HT.out.mono ?_
            rintro e w2 ⟨rfl, hJ2⟩
            have HJ2 := Lib.hid hJ2
            clear hJ2 hc2
            go_wp2_with fail
            go_roundw
            case rel => exact ⟨t + 1, HTM.out, by have := HTM.out; go_num, HJ2⟩
            case measure => have := HTM.out; simp [intOf]; omega
          · obtain rfl : t = m := by omega
            have HFN := Lib.hid (hJ.out.fin HHE.out.2 HHE.out.1 (by omega) HSS.out hB hmi.out.symm)
            go_wp2_with fail
            refine HFN.out.mono ?_
            rintro e w3 ⟨rfl, y2, er, ar, br⟩
            have HE3 := Lib.hid (And.intro er (And.intro ar br))
            clear er ar br
            go_wp2_with fail
            go_roundw
            case rel =>
              obtain ⟨er, ar, br⟩ := HE3.out
              obtain ⟨r1, r2, r3, -, r5, -⟩ := round_ok HHE.out.2 HHE.out.1 (Nat.le_refl 1)
              have hpr := prog_even HHE.out.1 HHE.out.2 hj2 HP.out
              rw [← er] at r1 r2 r3 r5 hpr
              exact ⟨j + 1, by have := HLT.out; omega, by go_num, Lib.hid ⟨x1, y2, ar.symm, r2, r1, HQ.out.1, r3.trans HQ.out.2.1, HQ.out.2.2.1, r5.trans HQ.out.2.2.2, hpr, br⟩⟩
            case measure => have := HLT.out; simp [intOf]; omega
      · rw [hj2] at hrem
        have HSS : Hid (y1.e.S.length ≤ 1000) := Lib.hid (by rw [HQ.out.2.1]; exact HHS.out.2)
        have HSR : Hid (x1.e.S.length ≤ 1000) := Lib.hid (by rw [HQ.out.1]; exact HHS.out.1)
        have HSL : Hid (y1.e.p.life ≤ 1000) := Lib.hid (by rw [HQ.out.2.2.2]; exact HHL.out.2)
        go_wp2_with fail
        refine (packets_any HA.out.symm.a.s).mono ?_
        rintro e w1 ⟨v, rfl, hv1, hb1⟩
        obtain ⟨A1, c1, rfl, -, -⟩ := hv1.slice
        have HJ : Hid (FairJ w B g 0 y1 x1 (.slice A1 y1.e.p.packets.length c1) 0 w1) := Lib.hid (FairJ.start HA.out hv1 hb1 HB.out (Nat.le_trans hB HB.out.size))
        obtain ⟨m, hm⟩ : ∃ m, Hid (y1.e.p.packets.length = m) := ⟨_, Lib.hid rfl⟩
        have hmi : Hid (y1.e.p.items.length = m) := Lib.hid (by have := hm.out; rwa [Se.packets_items, List.length_map] at this)
        have hm8 : m ≤ 9 := by have := hmi.out; have := Se.items_len y1.e.p; omega
        rw [hm.out] at HJ ⊢
        clear hv1 hb1 c0 c5 hrem
        go_wp2_with fail
        go_loopw [21] (fun i wz => ∃ t : Nat, t ≤ m ∧ i = .int .i64 (t : Int) ∧ Hid (FairJ w B g 0 y1 x1 (.slice A1 m c1) t wz)) (fun i _ => m - (intOf i).toNat)
        case atStart => exact ⟨0, by omega, rfl, HJ⟩
        case round =>
          obtain ⟨t, ht, rfl, hJ⟩ := hrel
          by_cases htm : t < m
          · obtain ⟨g2, Ax, l, cx, hA, hg2, hc2, htk⟩ := hJ.out.take HHE.out.1 HHE.out.2 (by omega) HSL.out HSS.out HSR.out hB (by have := hmi.out; omega)
            have HT := Lib.hid htk
            have HTM := Lib.hid htm
            clear htk
            subst hA
            go_wp2_with fail
            refine HT.out.mono ?_
            rintro e w2 ⟨rfl, hJ2⟩
            have HJ2 := Lib.hid hJ2
            clear hJ2 hc2
            go_wp2_with fail
            go_roundw
            case rel => exact ⟨t + 1, HTM.out, by have := HTM.out; go_num, HJ2⟩
            case measure => have := HTM.out; simp [intOf]; omega
          · obtain rfl : t = m := by omega
            have HFN := Lib.hid (hJ.out.fin HHE.out.1 HHE.out.2 (by omega) HSS.out hB hmi.out.symm)
            go_wp2_with fail
            refine HFN.out.mono ?_
            rintro e w3 ⟨rfl, x2, er, ar, br⟩
            have HE3 := Lib.hid (And.intro er (And.intro ar br))
            clear er ar br
            go_wp2_with fail
            go_roundw
            case rel =>
              obtain ⟨er, ar, br⟩ := HE3.out
              obtain ⟨r1, r2, r3, -, r5, -⟩ := round_ok HHE.out.1 HHE.out.2 (Nat.zero_le 1)
              have hpr := prog_odd HHE.out.1 HHE.out.2 hj2 HP.out
              rw [← er] at r1 r2 r3 r5 hpr
              exact ⟨j + 1, by have := HLT.out; omega, by go_num, Lib.hid ⟨x2, y1, ar, r1, r2, r3.trans HQ.out.1, HQ.out.2.1, r5.trans HQ.out.2.2.1, HQ.out.2.2.2, hpr, br⟩⟩
            case measure => have := HLT.out; simp [intOf]; omega
    · obtain rfl : j = 400 := by omega
      rw [show (((400 : Nat)) : Int) = 400 from rfl]
      clear hlt
      have d1 : decide ((400 : Int) < 400) = false := by decide
      go_wp2_with fail
      go_ret
      exact ⟨rfl, hF.out⟩
end Go.Proofs.Ytjhopajhcmkllaa
