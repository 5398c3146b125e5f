/- Package tree: roles, Right: the walks. -/
import Derived.Test.YtpakjjefbholdaaGreatDoorUef
import Derived.Test.YtpakjjefbholdaaGreatDoorTuv
namespace Go.Proofs.YtpakjjefbholdaaGreatDoor
open Go.RowKit
set_option linter.unusedVariables false

set_option maxRecDepth 100000 in
set_option maxHeartbeats 8000000 in
theorem roleC_any (wb : World) (hwb : Wt wb) (qc : Nat) (hqb : wb.heap.size ≤ qc) (x : Rl) (c : Nat) (w : World) (S : Nat → Prop) (v : Value) (hb : Below wb.heap.size wb w) (hS : ∀ b, S b → b < w.heap.size ∧ b ≠ qc) (hr : Rd w S x.nd v) (hc : Ct w qc (c : Int)) (hc2 : c ≤ 2000) :
    Calls Tryz.prog 58 #[at0 qc, v] w (OutR qc w (roleR x c)) := by
  obtain ⟨s, ps, l, ln⟩ := x
  obtain ⟨yp, ys, rfl, h8, hl8, hp, hs⟩ := (hd_rd s ps 4 (l.map Bd.nd) ln v).1 hr
  obtain ⟨A1, n1, c1, rfl⟩ := hp.row_form
  rw [Rd] at hs
  obtain ⟨A, cp, rfl, hcp, hcpm, hs⟩ := hs
  rw [List.length_map] at hcp ⊢
  obtain ⟨n, hnn⟩ : ∃ n, Hid (l.length = n) := ⟨_, Lib.hid rfl⟩
  rw [hnn.out] at hcp ⊢
  have HBB := Lib.hid hb
  have HSS := Lib.hid hS
  have HC := Lib.hid hc
  have HCL0 := Lib.hid hc2
  have HWB := Lib.hid hwb
  have HR := Lib.hid hs
  have HQ := Lib.hid (heap_new w (.cells #[.string (strOf s), .slice A1 n1 c1, .slice A n cp, .int .i64 ln] 87))
  have hbel : ∀ o, Below w.heap.size w (w.alloc o) := fun o => (Below.refl _ w).alloc (Nat.le_refl _) o
  have HH := Lib.hid (fun o => rightHead_any s ps S (.slice A1 n1 c1) (w.alloc o) (hwb.below (hb.trans ((hbel o).mono hb.size))) h8 hl8 (fun b hb => by have := (hS b hb).1; simp; omega) (Rd.keep (fun p hp => (hbel o).cell (hS _ hp).1) (fun _ h => h) _ _ hp))
  have hqn0 : ¬ w.heap.size = qc := by have := lt_heap hc; omega
  have HBL := Lib.hid hbel
  obtain ⟨r, HRR0⟩ : ∃ r, Hid (roleR ⟨s, ps, l, ln⟩ c = r) := ⟨_, Lib.hid rfl⟩
  rw [HRR0.out]
  unfold maxLen at hcpm
  clear hr hp hs hb hS hc hwb hbel
  by_cases hg : headR s ps = true ∧ n ≤ 60
  · rw [hg.1] at HH
    have hgn : ¬ (n : Int) > 60 := by have := hg.2; omega
    have hgn2 : ¬ (60 : Int) < (n : Int) := by have := hg.2; omega
    have HRR : Hid (bodiesR l c = r) := Lib.hid (by
      rw [← HRR0.out]
      unfold roleR
      rw [if_pos (by rw [hg.1, hnn.out, decide_eq_true hg.2]; rfl)])
    clear hg HRR0
    unfold at0 at *
    go_enter Tryz.func58, Tryz.ntmps58
    go_wp2_with (first
      | (go_at_call 100
         refine (HH.out _).mono ?_
         rintro e w1 ⟨rfl, hb1⟩
         have hb' : Below w.heap.size w w1 := (HBL.out _).trans (hb1.mono (by simp))
         have HC1 := Lib.hid (show Ct w1 qc (c : Int) from heap_below HC.out hb')
         have HK1 := Lib.hid (Kp.of_below (b := qc) hb')
         obtain ⟨⟨z0, z1, z2, z3⟩, -⟩ := box4f (heap_below HQ.out hb1)
         clear hb1 hb')
      | (fail))
    go_loopg [22] n (fun g i wr => ∃ (j cj : Nat), j + g = n ∧ i = .int .i64 (j : Int) ∧ Hid (bodiesR (l.drop j) cj = r) ∧ Hid (cj ≤ 2000) ∧ Hid (Ct wr qc (cj : Int)) ∧ Hid (Kp qc w wr))
    case atStart => exact ⟨0, c, by omega, rfl, Lib.hid (by rw [List.drop_zero]; exact HRR.out), HCL0, HC1, HK1⟩
    case round =>
      obtain ⟨j, cj, hj, rfl, HF, HCL, HCJ, HKJ⟩ := hrel
      cases gk with
      | zero =>
        have h1 : ¬ (j : Int) < (n : Int) := by omega
        have HE : Hid (some cj = r) := Lib.hid (by rw [← HF.out, List.drop_eq_nil_of_le (by rw [hnn.out]; omega), bodiesR])
        clear HF
        go_wp2_with fail
        go_ret
        exact ⟨by rw [← HE.out]; rfl, ⟨_, HCJ.out, fun c' h => by rw [← HE.out] at h; cases h; rfl⟩, HKJ.out⟩
      | succ g =>
        have h1 : (j : Int) < (n : Int) := by omega
        have h2 : j < n := by omega
        have hjl : j < l.length := by rw [hnn.out]; exact h2
        obtain ⟨b, o, vs, rfl, hSb, hvl, hrg, hx⟩ := HR.out.at j (Bd.nd l[j]) (by simp [hjl])
        have HD := Lib.hid (List.drop_eq_getElem_cons hjl)
        generalize hxg : l[j] = x at *
        have hx0 := hx
        obtain ⟨s1, ps1, st1, ln1⟩ := x
        obtain ⟨y, y', hv, -, -, hy, hy1⟩ := (hd_rd s1 ps1 6 _ ln1 _).1 hx
        obtain ⟨A3, n3, c3, rfl⟩ := hy.row_form
        obtain ⟨A4, n4, c4, rfl⟩ := hy1.row_form
        have hv2 : vs = [.string (strOf s1), .slice A3 n3 c3, .slice A4 n4 c4, .int .i64 ln1] := by
          injection hv with hv
          have := congrArg Array.toList hv
          simpa using this
        subst hv2
        have hcell : ∀ i u, ([.string (strOf s1), .slice A3 n3 c3, .slice A4 n4 c4, .int .i64 ln1] : List Value)[i]? = some u → wr.cell? ⟨b, o + j * 4 + i, none⟩ = some u := fun i u hu => by
          have := hrg i u hu
          rw [Nat.zero_add] at this
          exact ((Kp.trans (Kp.refl qc w) HKJ.out).cellq (p := ⟨b, o + j * 4 + i, none⟩) (HSS.out b hSb).1 (HSS.out b hSb).2).trans this
        have y0 : wr.cell? ⟨b, o + j * 4, none⟩ = some (.string (strOf s1)) := hcell 0 _ rfl
        have y1 := hcell 1 _ rfl
        have y2 := hcell 2 _ rfl
        have y3 := hcell 3 _ rfl
        have HY := Lib.hid hx0
        have HF2 := Lib.hid (HF.out.symm.trans (by rw [HD.out, bodiesR_cons]))
        have hqr : qc < wr.heap.size := lt_heap HCJ.out
        have hqn : ¬ wr.heap.size = qc := by omega
        have hbr : b < wr.heap.size := Nat.lt_of_lt_of_le (HSS.out b hSb).1 (Kp.trans (Kp.refl qc w) HKJ.out).size
        have HBD := Lib.hid (bodyC_any wb HWB.out qc hqb ⟨s1, ps1, st1, ln1⟩ cj (wr.alloc (.cells #[.string (strOf s1), .slice A3 n3 c3, .slice A4 n4 c4, .int .i64 ln1] 55)) S (.agg #[.string (strOf s1), .slice A3 n3 c3, .slice A4 n4 c4, .int .i64 ln1]) (HBB.out.trans (((Kp.trans (Kp.refl qc w) HKJ.out).alloc _).below hqb HBB.out.size)) (fun b hb => ⟨Nat.lt_of_lt_of_le (HSS.out b hb).1 ((Kp.trans (Kp.refl qc w) HKJ.out).alloc _).size, (HSS.out b hb).2⟩) (Rd.keep (fun p hp => ((Kp.trans (Kp.refl qc w) HKJ.out).alloc _).cellq (HSS.out _ hp).1 (HSS.out _ hp).2) (fun _ h => h) _ _ HY.out) (heap_old HCJ.out _) HCL.out)
        have HL := Lib.hid (bodyR_le ⟨s1, ps1, st1, ln1⟩ cj)
        clear hrg hx hx0 hv hy hy1 HF HD hjl hcell hxg
        generalize bodyR ⟨s1, ps1, st1, ln1⟩ cj = r1 at *
        cases r1 with
        | none =>
          have HE : Hid (none = r) := Lib.hid HF2.out.symm
          clear HF2 HL
          go_wp2_with (first
            | (go_at_call 57
               refine HBD.out.mono ?_
               rintro e w1 ⟨rfl, ⟨z, hz, hz2⟩, hk1⟩
               have HZ := Lib.hid hz
               have HK1 := Lib.hid (HKJ.out.trans (((Kp.refl qc wr).alloc _).trans hk1))
               clear hz hz2 hk1)
            | (fail))
          go_ret
          exact ⟨by rw [← HE.out]; rfl, ⟨_, HZ.out, fun c' h => by rw [← HE.out] at h; cases h⟩, HK1.out⟩
        | some c8 =>
          have HL8 : Hid (c8 ≤ 2000) := Lib.hid (by have := HL.out c8 rfl; have := HCL.out; omega)
          have HF6 : Hid (bodiesR (l.drop (j + 1)) c8 = r) := Lib.hid HF2.out.symm
          clear HF2 HL
          go_wp2_with (first
            | (go_at_call 57
               refine HBD.out.mono ?_
               rintro e w1 ⟨rfl, ⟨z, hz, hz2⟩, hk1⟩
               have HZ := Lib.hid hz
               have HZ2 := Lib.hid hz2
               have HK1 := Lib.hid (HKJ.out.trans (((Kp.refl qc wr).alloc _).trans hk1))
               clear hz hz2 hk1)
            | (fail))
          go_roundg g
          case measure => omega
          case rel => exact ⟨j + 1, c8, by omega, by go_num, HF6, HL8, Lib.hid (by rw [← HZ2.out c8 rfl]; exact HZ.out), HK1⟩
  · have HE : Hid (none = r) := Lib.hid (by
      rw [← HRR0.out]
      unfold roleR
      rw [if_neg (by
        intro hh
        rw [Bool.and_eq_true] at hh
        exact hg ⟨hh.1, by have := of_decide_eq_true hh.2; rw [hnn.out] at this; exact this⟩)])
    clear HRR0
    cases hh : headR s ps with
    | false =>
      rw [hh] at HH
      clear hh hg
      unfold at0 at *
      go_enter Tryz.func58, Tryz.ntmps58
      go_wp2_with (first
        | (go_at_call 100
           refine (HH.out _).mono ?_
           rintro e w1 ⟨rfl, hb1⟩
           have hb' : Below w.heap.size w w1 := (HBL.out _).trans (hb1.mono (by simp))
           have HC1 := Lib.hid (show Ct w1 qc (c : Int) from heap_below HC.out hb')
           have HK1 := Lib.hid (Kp.of_below (b := qc) hb')
           clear hb1 hb')
        | (fail))
      go_ret
      exact ⟨by rw [← HE.out]; rfl, ⟨_, HC1.out, fun c' h => by rw [← HE.out] at h; cases h⟩, HK1.out⟩
    | true =>
      have hn60 : 60 < n := by
        have : ¬ n ≤ 60 := fun h => hg ⟨hh, h⟩
        omega
      have hgn : (n : Int) > 60 := by omega
      have hgn2 : (60 : Int) < (n : Int) := by omega
      rw [hh] at HH
      clear hh hg hn60
      unfold at0 at *
      go_enter Tryz.func58, Tryz.ntmps58
      go_wp2_with (first
        | (go_at_call 100
           refine (HH.out _).mono ?_
           rintro e w1 ⟨rfl, hb1⟩
           have hb' : Below w.heap.size w w1 := (HBL.out _).trans (hb1.mono (by simp))
           have HC1 := Lib.hid (show Ct w1 qc (c : Int) from heap_below HC.out hb')
           have HK1 := Lib.hid (Kp.of_below (b := qc) hb')
           obtain ⟨⟨z0, z1, z2, z3⟩, -⟩ := box4f (heap_below HQ.out hb1)
           clear hb1 hb')
        | (fail))
      go_ret
      exact ⟨by rw [← HE.out]; rfl, ⟨_, HC1.out, fun c' h => by rw [← HE.out] at h; cases h⟩, HK1.out⟩
def nxP (l : List Rl) : Option Nat → Bool
  | none => false
  | some c => (rolesR l c).isSome
theorem rightP_eq (a : List Bd) (b : List Rl) (h : ¬ 60 < a.length + b.length) : rightP ⟨a, b⟩ = nxP b (bodiesR a 2000) := by
  unfold rightP
  rw [if_neg h]
  cases bodiesR a 2000 <;> rfl
set_option maxRecDepth 100000 in
set_option maxHeartbeats 8000000 in
theorem right_any (w0 : World) (hw0 : Wt w0) : RightOk w0 := by
  intro x w S v hlen hb0 hS0 hr
  obtain ⟨l, l2⟩ := x
  obtain ⟨ys, yt, rfl, hs, ht⟩ := (Pg.rd ⟨l, l2⟩ v).1 hr
  have hs' : Rd w S (.row 4 (l.map Bd.nd)) ys := hs
  have ht' : Rd w S (.row 4 (l2.map Rl.nd)) yt := ht
  rw [Rd] at hs' ht'
  obtain ⟨A, cp, rfl, hcp, hcpm, hs'⟩ := hs'
  obtain ⟨A2, cp2, rfl, hcp2, hcpm2, ht'⟩ := ht'
  rw [List.length_map] at hcp hcp2 ⊢
  rw [List.length_map]
  obtain ⟨n, hnn⟩ : ∃ n, Hid (l.length = n) := ⟨_, Lib.hid rfl⟩
  obtain ⟨m, hnm⟩ : ∃ m, Hid (l2.length = m) := ⟨_, Lib.hid rfl⟩
  rw [hnn.out] at hcp ⊢
  rw [hnm.out] at hcp2 ⊢
  have HR := Lib.hid hs'
  have HR2 := Lib.hid ht'
  have HWB := Lib.hid (hw0.below hb0)
  have HBB := Lib.hid (Below.refl w.heap.size w)
  have HSS := Lib.hid (show ∀ b, S b → b < w.heap.size ∧ b ≠ w.heap.size + 1 from fun b h => ⟨hS0 b h, by have := hS0 b h; omega⟩)
  have HCL0 : Hid (2000 ≤ 2000) := Lib.hid (Nat.le_refl _)
  have hqb : w.heap.size ≤ w.heap.size + 1 := Nat.le_succ _
  obtain ⟨rp, HRP0⟩ : ∃ r, Hid (rightP ⟨l, l2⟩ = r) := ⟨_, Lib.hid rfl⟩
  rw [HRP0.out]
  unfold maxLen at hcpm hcpm2
  have hnm1 : n + m ≤ 1000000 := by rw [← hnn.out, ← hnm.out]; exact hlen
  have hnm2 : n ≤ 1000000 ∧ m ≤ 1000000 := by omega
  obtain ⟨hnm3, hnm4⟩ := hnm2
  clear hlen hr hs ht hs' ht' hb0 hS0 hw0
  by_cases hg : 60 < n + m
  · have hg2 : (n : Int) + (m : Int) > 60 := by omega
    have hg3 : (60 : Int) < (n : Int) + (m : Int) := by omega
    have t1 : decide ((60 : Int) < (n : Int) + (m : Int)) = true := decide_eq_true hg3
    have t2 : decide ((n : Int) + (m : Int) > 60) = true := decide_eq_true hg2
    have HE : Hid (false = rp) := Lib.hid (by rw [← HRP0.out]; unfold rightP; rw [if_pos (by rw [hnn.out, hnm.out]; exact hg)])
    clear HRP0 hg
    go_enter Tryz.func22, Tryz.ntmps22
    go_wp2_with fail
    go_ret
    exact ⟨by rw [← HE.out]; rfl, (Below.refl _ w).alloc (Nat.le_refl _) _⟩
  · have hg2 : ¬ (n : Int) + (m : Int) > 60 := by omega
    have hg3 : ¬ (60 : Int) < (n : Int) + (m : Int) := by omega
    obtain ⟨r, HRR⟩ : ∃ r, Hid (bodiesR l 2000 = r) := ⟨_, Lib.hid rfl⟩
    have HRP : Hid (nxP l2 r = rp) := Lib.hid (by rw [← HRP0.out, rightP_eq l l2 (by rw [hnn.out, hnm.out]; exact hg), HRR.out])
    clear HRP0 hg
    have HC1 : Hid (Ct ((w.alloc (.cells #[.slice A n cp, .slice A2 m cp2] 26)).alloc (.cells #[.int .i64 2000] 104)) (w.heap.size + 1) ((2000 : Nat) : Int)) := Lib.hid (by
      unfold Ct
      have := heap_new (w.alloc (.cells #[.slice A n cp, .slice A2 m cp2] 26)) (.cells #[.int .i64 2000] 104)
      simpa using this)
    have HK0 : Hid (Kp (w.heap.size + 1) w ((w.alloc (.cells #[.slice A n cp, .slice A2 m cp2] 26)).alloc (.cells #[.int .i64 2000] 104))) := Lib.hid (((Kp.refl _ w).alloc _).alloc _)
    have HQP := Lib.hid (heap_old (heap_new w (.cells #[.slice A n cp, .slice A2 m cp2] 26)) (.cells #[.int .i64 2000] 104))
    go_enter Tryz.func22, Tryz.ntmps22
    go_wp2_with fail
    go_loopg [21] n (fun g i wr => ∃ (j cj : Nat), j + g = n ∧ i = .int .i64 (j : Int) ∧ Hid (bodiesR (l.drop j) cj = r) ∧ Hid (cj ≤ 2000) ∧ Hid (Ct wr (w.heap.size + 1) (cj : Int)) ∧ Hid (Kp (w.heap.size + 1) ((w.alloc (.cells #[.slice A n cp, .slice A2 m cp2] 26)).alloc (.cells #[.int .i64 2000] 104)) wr))
    case atStart => exact ⟨0, 2000, by omega, rfl, Lib.hid (by rw [List.drop_zero]; exact HRR.out), HCL0, HC1, (Lib.hid (Kp.refl _ _))⟩
    case round =>
      obtain ⟨j, cj, hj, rfl, HF, HCL, HCJ, HKJ⟩ := hrel
      cases gk with
      | zero =>
        have h1 : ¬ (j : Int) < (n : Int) := by omega
        have HE : Hid (some cj = r) := Lib.hid (by rw [← HF.out, List.drop_eq_nil_of_le (by rw [hnn.out]; omega), bodiesR])
        clear HF
        have hQJ := HKJ.out.heap HQP.out (Nat.ne_of_lt (Nat.lt_succ_self _))
        obtain ⟨⟨p0, p1⟩, -⟩ := bx2 hQJ
        have HKJ2 := Lib.hid (HK0.out.trans HKJ.out)
        have HCL0 := HCL
        obtain ⟨r2, HRR2⟩ : ∃ r, Hid (rolesR l2 cj = r) := ⟨_, Lib.hid rfl⟩
        have HRP2 : Hid (r2.isSome = rp) := Lib.hid (by rw [← HRP.out, ← HE.out, ← HRR2.out]; rfl)
        clear HRR HRP HE hQJ HKJ
        go_wp2_with fail
        go_loopg [33] m (fun g i wr => ∃ (j cj : Nat), j + g = m ∧ i = .int .i64 (j : Int) ∧ Hid (rolesR (l2.drop j) cj = r2) ∧ Hid (cj ≤ 2000) ∧ Hid (Ct wr (w.heap.size + 1) (cj : Int)) ∧ Hid (Kp (w.heap.size + 1) w wr))
        case atStart => exact ⟨0, cj, by omega, rfl, Lib.hid (by rw [List.drop_zero]; exact HRR2.out), HCL0, HCJ, HKJ2⟩
        case round =>
          obtain ⟨j, cj, hj, rfl, HF, HCL, HCJ, HKJ⟩ := hrel
          cases gk with
          | zero =>
            have h1 : ¬ (j : Int) < (m : Int) := by omega
            have HE : Hid (some cj = r2) := Lib.hid (by rw [← HF.out, List.drop_eq_nil_of_le (by rw [hnm.out]; omega), rolesR])
            clear HF
            go_wp2_with fail
            go_ret
            exact ⟨by rw [← HRP2.out, ← HE.out]; rfl, HKJ.out.below (Nat.le_succ _) (Nat.le_refl _)⟩
          | succ g =>
            have h1 : (j : Int) < (m : Int) := by omega
            have h2 : j < m := by omega
            have hjl : j < l2.length := by rw [hnm.out]; exact h2
            obtain ⟨b, o, vs, rfl, hSb, hvl, hrg, hx⟩ := HR2.out.at j (Rl.nd l2[j]) (by simp [hjl])
            have HD := Lib.hid (List.drop_eq_getElem_cons hjl)
            generalize hxg : l2[j] = x at *
            have hx0 := hx
            obtain ⟨s1, ps1, st1, ln1⟩ := x
            obtain ⟨y, y', hv, -, -, hy, hy1⟩ := (hd_rd s1 ps1 4 _ ln1 _).1 hx
            obtain ⟨A3, n3, c3, rfl⟩ := hy.row_form
            obtain ⟨A4, n4, c4, rfl⟩ := hy1.row_form
            have hv2 : vs = [.string (strOf s1), .slice A3 n3 c3, .slice A4 n4 c4, .int .i64 ln1] := by
              injection hv with hv
              have := congrArg Array.toList hv
              simpa using this
            subst hv2
            have hcell : ∀ i u, ([.string (strOf s1), .slice A3 n3 c3, .slice A4 n4 c4, .int .i64 ln1] : List Value)[i]? = some u → wr.cell? ⟨b, o + j * 4 + i, none⟩ = some u := fun i u hu => by
              have := hrg i u hu
              rw [Nat.zero_add] at this
              exact ((Kp.trans (Kp.refl (w.heap.size + 1) w) HKJ.out).cellq (p := ⟨b, o + j * 4 + i, none⟩) (HSS.out b hSb).1 (HSS.out b hSb).2).trans this
            have y0 : wr.cell? ⟨b, o + j * 4, none⟩ = some (.string (strOf s1)) := hcell 0 _ rfl
            have y1 := hcell 1 _ rfl
            have y2 := hcell 2 _ rfl
            have y3 := hcell 3 _ rfl
            have HY := Lib.hid hx0
            have HF2 := Lib.hid (HF.out.symm.trans (by rw [HD.out, rolesR_cons]))
            have hqr : (w.heap.size + 1) < wr.heap.size := lt_heap HCJ.out
            have hqn : ¬ wr.heap.size = (w.heap.size + 1) := by omega
            have hbr : b < wr.heap.size := Nat.lt_of_lt_of_le (HSS.out b hSb).1 (Kp.trans (Kp.refl (w.heap.size + 1) w) HKJ.out).size
            have HBD := Lib.hid (roleC_any w HWB.out (w.heap.size + 1) hqb ⟨s1, ps1, st1, ln1⟩ cj (wr.alloc (.cells #[.string (strOf s1), .slice A3 n3 c3, .slice A4 n4 c4, .int .i64 ln1] 87)) S (.agg #[.string (strOf s1), .slice A3 n3 c3, .slice A4 n4 c4, .int .i64 ln1]) (HBB.out.trans (((Kp.trans (Kp.refl (w.heap.size + 1) w) HKJ.out).alloc _).below hqb HBB.out.size)) (fun b hb => ⟨Nat.lt_of_lt_of_le (HSS.out b hb).1 ((Kp.trans (Kp.refl (w.heap.size + 1) w) HKJ.out).alloc _).size, (HSS.out b hb).2⟩) (Rd.keep (fun p hp => ((Kp.trans (Kp.refl (w.heap.size + 1) w) HKJ.out).alloc _).cellq (HSS.out _ hp).1 (HSS.out _ hp).2) (fun _ h => h) _ _ HY.out) (heap_old HCJ.out _) HCL.out)
            have HL := Lib.hid (roleR_le ⟨s1, ps1, st1, ln1⟩ cj)
            clear hrg hx hx0 hv hy hy1 HF HD hjl hcell hxg
            generalize roleR ⟨s1, ps1, st1, ln1⟩ cj = r1 at *
            cases r1 with
            | none =>
              have HE : Hid (none = r2) := Lib.hid HF2.out.symm
              clear HF2 HL
              go_wp2_with (first
                | (go_at_call 58
                   refine HBD.out.mono ?_
                   rintro e w1 ⟨rfl, ⟨z, hz, hz2⟩, hk1⟩
                   have HZ := Lib.hid hz
                   have HK1 := Lib.hid (HKJ.out.trans (((Kp.refl (w.heap.size + 1) wr).alloc _).trans hk1))
                   clear hz hz2 hk1)
                | (fail))
              go_ret
              exact ⟨by rw [← HRP2.out, ← HE.out]; rfl, HK1.out.below (Nat.le_succ _) (Nat.le_refl _)⟩
            | some c8 =>
              have HL8 : Hid (c8 ≤ 2000) := Lib.hid (by have := HL.out c8 rfl; have := HCL.out; omega)
              have HF6 : Hid (rolesR (l2.drop (j + 1)) c8 = r2) := Lib.hid HF2.out.symm
              clear HF2 HL
              go_wp2_with (first
                | (go_at_call 58
                   refine HBD.out.mono ?_
                   rintro e w1 ⟨rfl, ⟨z, hz, hz2⟩, hk1⟩
                   have HZ := Lib.hid hz
                   have HZ2 := Lib.hid hz2
                   have HK1 := Lib.hid (HKJ.out.trans (((Kp.refl (w.heap.size + 1) wr).alloc _).trans hk1))
                   clear hz hz2 hk1)
                | (fail))
              go_roundg g
              case measure => omega
              case rel => exact ⟨j + 1, c8, by omega, by go_num, HF6, HL8, Lib.hid (by rw [← HZ2.out c8 rfl]; exact HZ.out), HK1⟩
      | succ g =>
        have h1 : (j : Int) < (n : Int) := by omega
        have h2 : j < n := by omega
        have hjl : j < l.length := by rw [hnn.out]; exact h2
        obtain ⟨b, o, vs, rfl, hSb, hvl, hrg, hx⟩ := HR.out.at j (Bd.nd l[j]) (by simp [hjl])
        have HD := Lib.hid (List.drop_eq_getElem_cons hjl)
        generalize hxg : l[j] = x at *
        have hx0 := hx
        obtain ⟨s1, ps1, st1, ln1⟩ := x
        obtain ⟨y, y', hv, -, -, hy, hy1⟩ := (hd_rd s1 ps1 6 _ ln1 _).1 hx
        obtain ⟨A3, n3, c3, rfl⟩ := hy.row_form
        obtain ⟨A4, n4, c4, rfl⟩ := hy1.row_form
        have hv2 : vs = [.string (strOf s1), .slice A3 n3 c3, .slice A4 n4 c4, .int .i64 ln1] := by
          injection hv with hv
          have := congrArg Array.toList hv
          simpa using this
        subst hv2
        have hcell : ∀ i u, ([.string (strOf s1), .slice A3 n3 c3, .slice A4 n4 c4, .int .i64 ln1] : List Value)[i]? = some u → wr.cell? ⟨b, o + j * 4 + i, none⟩ = some u := fun i u hu => by
          have := hrg i u hu
          rw [Nat.zero_add] at this
          exact ((Kp.trans HK0.out HKJ.out).cellq (p := ⟨b, o + j * 4 + i, none⟩) (HSS.out b hSb).1 (HSS.out b hSb).2).trans this
        have y0 : wr.cell? ⟨b, o + j * 4, none⟩ = some (.string (strOf s1)) := hcell 0 _ rfl
        have y1 := hcell 1 _ rfl
        have y2 := hcell 2 _ rfl
        have y3 := hcell 3 _ rfl
        have HY := Lib.hid hx0
        have HF2 := Lib.hid (HF.out.symm.trans (by rw [HD.out, bodiesR_cons]))
        have hqr : (w.heap.size + 1) < wr.heap.size := lt_heap HCJ.out
        have hqn : ¬ wr.heap.size = (w.heap.size + 1) := by omega
        have hbr : b < wr.heap.size := Nat.lt_of_lt_of_le (HSS.out b hSb).1 (Kp.trans HK0.out HKJ.out).size
        have HBD := Lib.hid (bodyC_any w HWB.out (w.heap.size + 1) hqb ⟨s1, ps1, st1, ln1⟩ cj (wr.alloc (.cells #[.string (strOf s1), .slice A3 n3 c3, .slice A4 n4 c4, .int .i64 ln1] 55)) S (.agg #[.string (strOf s1), .slice A3 n3 c3, .slice A4 n4 c4, .int .i64 ln1]) (HBB.out.trans (((Kp.trans HK0.out HKJ.out).alloc _).below hqb HBB.out.size)) (fun b hb => ⟨Nat.lt_of_lt_of_le (HSS.out b hb).1 ((Kp.trans HK0.out HKJ.out).alloc _).size, (HSS.out b hb).2⟩) (Rd.keep (fun p hp => ((Kp.trans HK0.out HKJ.out).alloc _).cellq (HSS.out _ hp).1 (HSS.out _ hp).2) (fun _ h => h) _ _ HY.out) (heap_old HCJ.out _) HCL.out)
        have HL := Lib.hid (bodyR_le ⟨s1, ps1, st1, ln1⟩ cj)
        clear hrg hx hx0 hv hy hy1 HF HD hjl hcell hxg
        generalize bodyR ⟨s1, ps1, st1, ln1⟩ cj = r1 at *
        cases r1 with
        | none =>
          have HE : Hid (none = r) := Lib.hid HF2.out.symm
          clear HF2 HL
          go_wp2_with (first
            | (go_at_call 57
               refine HBD.out.mono ?_
               rintro e w1 ⟨rfl, ⟨z, hz, hz2⟩, hk1⟩
               have HZ := Lib.hid hz
               have HK1 := Lib.hid (HKJ.out.trans (((Kp.refl (w.heap.size + 1) wr).alloc _).trans hk1))
               clear hz hz2 hk1)
            | (fail))
          go_ret
          exact ⟨by rw [← HRP.out, ← HE.out]; rfl, (HK0.out.trans HK1.out).below (Nat.le_succ _) (Nat.le_refl _)⟩
        | some c8 =>
          have HL8 : Hid (c8 ≤ 2000) := Lib.hid (by have := HL.out c8 rfl; have := HCL.out; omega)
          have HF6 : Hid (bodiesR (l.drop (j + 1)) c8 = r) := Lib.hid HF2.out.symm
          clear HF2 HL
          go_wp2_with (first
            | (go_at_call 57
               refine HBD.out.mono ?_
               rintro e w1 ⟨rfl, ⟨z, hz, hz2⟩, hk1⟩
               have HZ := Lib.hid hz
               have HZ2 := Lib.hid hz2
               have HK1 := Lib.hid (HKJ.out.trans (((Kp.refl (w.heap.size + 1) wr).alloc _).trans hk1))
               clear hz hz2 hk1)
            | (fail))
          go_roundg g
          case measure => omega
          case rel => exact ⟨j + 1, c8, by omega, by go_num, HF6, HL8, Lib.hid (by rw [← HZ2.out c8 rfl]; exact HZ.out), HK1⟩
end Go.Proofs.YtpakjjefbholdaaGreatDoor
