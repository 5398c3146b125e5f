/- Package tree: how many parts, how deep: expressions: the walks. -/
import Derived.Test.YtpakjjefbholdaaGreatDoorUc
import Derived.Deep.LoopGhost
namespace Go.Proofs.YtpakjjefbholdaaGreatDoor
open Go.RowKit
set_option linter.unusedVariables false

/-- The counter at block qc. -/
def Ct (w : World) (qc : Nat) (z : Int) : Prop := w.heap[qc]? = some (.cells #[.int .i64 z] 104 (0, 0))
/-- What a method of the counter leaves. -/
def OutR (qc : Nat) (w : World) (r : Option Nat) (e : Ending) (w' : World) : Prop := e = .returned (.bool r.isSome) ∧ (∃ z : Int, Ct w' qc z ∧ ∀ c' : Nat, r = some c' → z = (c' : Int)) ∧ Kp qc w w'
set_option maxHeartbeats 1600000 in
theorem part_any (qc c d : Nat) (w : World) (h : Ct w qc (c : Int)) (hc : c ≤ 1000000) (hd : d ≤ 1000000) :
    Calls Tryz.prog 139 #[at0 qc, .int .i64 (d : Int)] w fun e w' => e = .returned (.bool (decide (¬ (c = 0 ∨ 40 < d)))) ∧ Ct w' qc ((c : Int) - 1) ∧ Kp qc w w' := by
  have c0 := cell_of_one h
  have f0 := free_block h 0
  have hlt := lt_heap h
  have hs : Ct (w.setCell ⟨qc, 0, none⟩ (.int .i64 ((c : Int) - 1))) qc ((c : Int) - 1) := by
    have := heap_set h 0 (.int .i64 ((c : Int) - 1))
    unfold Ct
    simpa using this
  have HS := Lib.hid hs
  have HK := Lib.hid ((Kp.refl qc w).set (p := ⟨qc, 0, none⟩) rfl (.int .i64 ((c : Int) - 1)))
  have g1 : ((c : Int) - 1 ≥ 0) ↔ ¬ c = 0 := by omega
  unfold at0
  clear hs h
  by_cases h1 : c = 0
  · have t1 : decide (0 ≤ (c : Int) - 1) = false := decide_eq_false (by omega)
    have t2 : ¬ 0 ≤ (c : Int) - 1 := by omega
    rw [decide_eq_false (fun hh => hh (.inl h1))]
    clear h1 g1
    go_enter Tryz.func139, Tryz.ntmps139
    go_wp2_with fail
    go_ret
    exact ⟨rfl, HS.out, HK.out⟩
  · have t1 : 0 ≤ (c : Int) - 1 := by omega
    have t3 : (1 : Int) ≤ (c : Int) := by omega
    have t5 : ((c : Int) - 1 ≥ 0) = True := eq_true t1
    have t6 : decide (0 ≤ (c : Int) - 1) = true := decide_eq_true t1
    by_cases h2 : 40 < d
    · have t2 : ¬ (d : Int) ≤ 40 := by omega
      rw [decide_eq_false (fun hh => hh (.inr h2))]
      clear h1 g1 h2
      go_enter Tryz.func139, Tryz.ntmps139
      go_wp2_with fail
      go_ret
      exact ⟨rfl, HS.out, HK.out⟩
    · have t2 : (d : Int) ≤ 40 := by omega
      rw [decide_eq_true (show ¬ (c = 0 ∨ 40 < d) by omega)]
      clear h1 g1 h2
      go_enter Tryz.func139, Tryz.ntmps139
      go_wp2_with fail
      go_ret
      exact ⟨rfl, HS.out, HK.out⟩
theorem ct_pred {w : World} {qc c : Nat} (h : Ct w qc ((c : Int) - 1)) (hc : ¬ c = 0) : Ct w qc ((c - 1 : Nat) : Int) := by
  rw [show ((c - 1 : Nat) : Int) = (c : Int) - 1 by omega]
  exact h
/-- What comes of the rest of a list. -/
def nxR (d : Nat) (l : List Ex) : Option Nat → Option Nat
  | none => none
  | some c => exsR d l c
theorem exsR_cons (d : Nat) (x : Ex) (l : List Ex) (c : Nat) : exsR d (x :: l) c = nxR d l (exR d x c) := by
  rw [exsR]
  cases exR d x c <;> rfl
theorem exsR_le : ∀ (d : Nat) (l : List Ex) (c c' : Nat), exsR d l c = some c' → c' ≤ c := by
  intro d l
  have key : ∀ (n : Nat), (∀ (x : Ex) (d c c' : Nat), SizeOf.sizeOf x < n → exR d x c = some c' → c' ≤ c) ∧ (∀ (l : List Ex) (d c c' : Nat), SizeOf.sizeOf l < n → exsR d l c = some c' → c' ≤ c) := by
    intro n
    induction n with
    | zero => exact ⟨fun x d c c' h => absurd h (by omega), fun x d c c' h => absurd h (by omega)⟩
    | succ n ih =>
      refine ⟨fun x d c c' hs h => ?_, fun l d c c' hs h => ?_⟩
      · obtain ⟨k, s, m, l⟩ := x
        rw [exR] at h
        split at h
        · cases h
        · split at h
          · cases h
          · have := ih.2 l (d + 1) (c - 1) c' (by simp at hs; omega) h
            omega
      · cases l with
        | nil => rw [exsR] at h; cases h; omega
        | cons x r =>
          rw [exsR] at h
          split at h
          · cases h
          · rename_i c1 h1
            have a := ih.1 x d c c1 (by simp at hs; omega) h1
            have b := ih.2 r d c1 c' (by simp at hs; omega) h
            omega
  exact fun c c' h => (key (SizeOf.sizeOf l + 1)).2 l d c c' (by omega) h
set_option maxRecDepth 100000 in
set_option maxHeartbeats 4000000 in
theorem exprs_step (wb : World) (hwb : Wt wb) (qc : Nat) (hqb : wb.heap.size ≤ qc) (d : Nat) (hd : d ≤ 1000)
    (IH : d ≤ 40 → ∀ (l : List Ex) (c : Nat) (w : World) (S : Nat → Prop) (v : Value), Below wb.heap.size wb w → (∀ b, S b → b < w.heap.size ∧ b ≠ qc) → Rd w S (.row 4 (l.map Ex.nd)) v → Ct w qc (c : Int) → c ≤ 2000 → Calls Tryz.prog 141 #[at0 qc, v, .int .i64 ((d : Int) + 1)] w (OutR qc w (exsR (d + 1) l c)))
    (l : List Ex) (c : Nat) (w : World) (S : Nat → Prop) (v : Value) (hb : Below wb.heap.size wb w) (hS : ∀ b, S b → b < w.heap.size ∧ b ≠ qc) (hr : Rd w S (.row 4 (l.map Ex.nd)) v) (hc : Ct w qc (c : Int)) (hc2 : c ≤ 2000) :
    Calls Tryz.prog 141 #[at0 qc, v, .int .i64 (d : Int)] w (OutR qc w (exsR d l c)) := by
  rw [Rd] at hr
  obtain ⟨A, cp, rfl, hcp, hcpm, hr⟩ := hr
  rw [List.length_map] at hcp ⊢
  have HR := Lib.hid hr
  have HSS := Lib.hid hS
  have HWB := Lib.hid hwb
  have HB := Lib.hid hb
  have HC := Lib.hid hc
  have HIH := Lib.hid IH
  obtain ⟨n, hn⟩ : ∃ n, Hid (l.length = n) := ⟨_, Lib.hid rfl⟩
  rw [hn.out] at hcp ⊢
  obtain ⟨r, hrr⟩ : ∃ r, Hid (exsR d l c = r) := ⟨_, Lib.hid rfl⟩
  rw [hrr.out]
  have HPA := Lib.hid (fun w' (cc : Nat) (h' : Ct w' qc (cc : Int)) (h2 : cc ≤ 2000) => part_any qc cc d w' h' (by omega) (by omega))
  have hqc := lt_heap hc
  unfold maxLen at hcpm
  clear hr hS hwb hb hc IH
  unfold at0 at *
  go_enter Tryz.func141, Tryz.ntmps141
  go_wp2_with fail
  go_loopg [11] n (fun g i wr => ∃ (j cj : Nat), j + g = n ∧ i = .int .i64 (j : Int) ∧ Hid (exsR d (l.drop j) cj = r) ∧ Hid (cj ≤ 2000) ∧ Hid (Ct wr qc (cj : Int)) ∧ Hid (Kp qc w wr))
  case atStart => exact ⟨0, c, by omega, rfl, Lib.hid (by rw [List.drop_zero]; exact hrr.out), Lib.hid hc2, HC, Lib.hid (Kp.refl _ _)⟩
  case round =>
    obtain ⟨j, cj, hj, rfl, HF, HCL, HCJ, HKJ⟩ := hrel
    cases gk with
    | zero =>
      have h1 : ¬ (j : Int) < (n : Int) := by omega
      have HE : Hid (some cj = r) := Lib.hid (by rw [← HF.out, List.drop_eq_nil_of_le (by rw [hn.out]; omega), exsR])
      clear HF HPA HIH
      go_wp2_with fail
      go_ret
      exact ⟨by rw [← HE.out]; rfl, ⟨_, HCJ.out, fun c' h => by rw [← HE.out] at h; cases h; rfl⟩, HKJ.out⟩
    | succ g =>
      have h1 : (j : Int) < (n : Int) := by omega
      have h2 : j < n := by omega
      have hjl : j < l.length := by rw [hn.out]; exact h2
      obtain ⟨b, o, vs, rfl, hSb, hvl, hrg, hx⟩ := HR.out.at j (Ex.nd l[j]) (by simp [hjl])
      have HD := Lib.hid (List.drop_eq_getElem_cons hjl)
      generalize l[j] = x at *
      obtain ⟨k, s, m, ks⟩ := x
      obtain ⟨y, hv, h8, hl8, hy⟩ := (Ex.rd k s m ks _).1 hx
      have hy' := hy
      rw [Rd] at hy'
      obtain ⟨A3, c3, rfl, -⟩ := hy'
      have hv2 : vs = [.int .u8 (k : Int), .string (strOf s), .int .i64 m, .slice A3 (ks.map Ex.nd).length c3] := by
        injection hv with hv
        have := congrArg Array.toList hv
        simpa using this
      subst hv2
      rw [List.length_map] at hrg hy
      have hcell : ∀ i u, [Value.int .u8 (k : Int), .string (strOf s), .int .i64 m, .slice A3 ks.length c3][i]? = some u → wr.cell? ⟨b, o + j * 4 + i, none⟩ = some u := fun i u hu => by
        have := hrg i u hu
        rw [Nat.zero_add] at this
        exact (HKJ.out.cellq (p := ⟨b, o + j * 4 + i, none⟩) (HSS.out b hSb).1 (HSS.out b hSb).2).trans this
      have y0 : wr.cell? ⟨b, o + j * 4, none⟩ = some (.int .u8 (k : Int)) := hcell 0 _ rfl
      have y1 := hcell 1 _ rfl
      have y2 := hcell 2 _ rfl
      have y3 := hcell 3 _ rfl
      have HY := Lib.hid hy
      have HREX := Lib.hid (fun w' (h' : Wt w') => rightExpr_any k s m ks.length A3 c3 h8 hl8 w' h')
      have HF2 := Lib.hid (HF.out.symm.trans (by rw [HD.out, exsR_cons]))
      have HP := Lib.hid (HPA.out (wr.alloc (.cells #[.int .u8 (k : Int), .string (strOf s), .int .i64 m, .slice A3 ks.length c3] 46)) cj (heap_old HCJ.out _) HCL.out)
      have HQ := Lib.hid (heap_new wr (.cells #[.int .u8 (k : Int), .string (strOf s), .int .i64 m, .slice A3 ks.length c3] 46))
      have hqr : qc < wr.heap.size := lt_heap HCJ.out
      have hqn : ¬ wr.heap.size = qc := by omega
      have hbr : b < wr.heap.size := Nat.lt_of_lt_of_le (HSS.out b hSb).1 HKJ.out.size
      obtain ⟨kn, hkn⟩ : ∃ kn, Hid (ks.length = kn) := ⟨_, Lib.hid rfl⟩
      rw [hkn.out] at y3 HREX HP HQ
      clear hrg hx hv h8 hl8 hy HF HD hjl hcell
      by_cases hpt : cj = 0 ∨ 40 < d
      · have HE : Hid (none = r) := Lib.hid (by rw [HF2.out, exR, if_pos hpt]; rfl)
        rw [decide_eq_false (fun hh => hh hpt)] at HP
        clear hpt HF2 HREX HIH HPA
        go_wp2_with (first
          | (go_at_call 139
             refine HP.out.mono ?_
             rintro e w1 ⟨rfl, hc1, hk1⟩
             have HC1 := Lib.hid hc1
             have HK1 := Lib.hid ((HKJ.out.alloc _).trans hk1)
             clear hc1 hk1)
          | (fail))
        go_ret
        exact ⟨by rw [← HE.out]; rfl, ⟨_, HC1.out, fun c' h => by rw [← HE.out] at h; cases h⟩, HK1.out⟩
      · rw [decide_eq_true hpt] at HP
        have hc0 : ¬ cj = 0 := fun hh => hpt (.inl hh)
        have hd40 : d ≤ 40 := by omega
        cases hrx : rightX k s m kn with
        | false =>
          have HE : Hid (none = r) := Lib.hid (by rw [HF2.out, exR, if_neg hpt, hkn.out, if_pos hrx]; rfl)
          rw [hrx] at HREX
          clear hpt HF2 HIH HPA hrx
          go_wp2_with (first
            | (go_at_call 139
               refine HP.out.mono ?_
               rintro e w1 ⟨rfl, hc1, hk1⟩
               have HC1 := Lib.hid hc1
               have HK1 := Lib.hid ((HKJ.out.alloc _).trans hk1)
               obtain ⟨⟨z0, z1, z2, z3⟩, -⟩ := box4f (hk1.heap HQ.out hqn)
               clear hc1 hk1)
            | (go_at_call 174
               refine (HREX.out _ (HWB.out.below (HB.out.trans (HK1.out.below hqb HB.out.size)))).mono ?_
               rintro e w2 ⟨rfl, hb2⟩
               have HC2 : Hid (Ct w2 qc ((cj : Int) - 1)) := Lib.hid (heap_below HC1.out hb2)
               have HK2 := Lib.hid (HK1.out.trans (Kp.of_below hb2))
               clear hb2)
            | (fail))
          go_ret
          exact ⟨by rw [← HE.out]; rfl, ⟨_, HC2.out, fun c' h => by rw [← HE.out] at h; cases h⟩, HK2.out⟩
        | true =>
          rw [hrx] at HREX
          have HF3 : Hid (r = nxR d (l.drop (j + 1)) (exsR (d + 1) ks (cj - 1))) := Lib.hid (by rw [HF2.out, exR, if_neg hpt, hkn.out, if_neg (by rw [hrx]; simp)])
          have HCC : Hid (¬ cj = 0) := Lib.hid hc0
          clear hpt HF2 HPA hrx hc0
          obtain ⟨r2, hr2⟩ : ∃ r2, Hid (exsR (d + 1) ks (cj - 1) = r2) := ⟨_, Lib.hid rfl⟩
          have HIH2 := Lib.hid (fun w' S' v' a1 a2 a3 a4 => HIH.out hd40 ks (cj - 1) w' S' v' a1 a2 a3 a4 (by have := HCL.out; omega))
          rw [hr2.out] at HF3 HIH2
          clear HIH hd40
          cases hr3 : r2 with
          | none =>
            have HE : Hid (none = r) := Lib.hid (by rw [HF3.out, hr3]; rfl)
            rw [hr3] at HIH2
            clear hr3 HF3 hr2
            go_wp2_with (first
              | (go_at_call 139
                 refine HP.out.mono ?_
                 rintro e w1 ⟨rfl, hc1, hk1⟩
                 have HC1 := Lib.hid hc1
                 have HK1 := Lib.hid ((HKJ.out.alloc _).trans hk1)
                 have hQ1 := hk1.heap HQ.out hqn
                 have HQ1 := Lib.hid hQ1
                 obtain ⟨⟨z0, z1, z2, z3⟩, -⟩ := box4f hQ1
                 clear hc1 hk1 hQ1)
              | (go_at_call 174
                 refine (HREX.out _ (HWB.out.below (HB.out.trans (HK1.out.below hqb HB.out.size)))).mono ?_
                 rintro e w2 ⟨rfl, hb2⟩
                 have HC2 : Hid (Ct w2 qc ((cj : Int) - 1)) := Lib.hid (heap_below HC1.out hb2)
                 have HK2 := Lib.hid (HK1.out.trans (Kp.of_below hb2))
                 obtain ⟨⟨x0, x1, x2, x3⟩, -⟩ := box4f (heap_below HQ1.out hb2)
                 have HY2 : Hid (Rd w2 S (.row 4 (ks.map Ex.nd)) (.slice A3 kn c3)) := Lib.hid (by rw [← hkn.out]; exact Rd.keep (fun p hp => HK2.out.cellq (HSS.out _ hp).1 (HSS.out _ hp).2) (fun _ h => h) _ _ HY.out)
                 have HS2 := Lib.hid (fun b (hb : S b) => (And.intro (Nat.lt_of_lt_of_le (HSS.out b hb).1 HK2.out.size) (HSS.out b hb).2))
                 clear hb2)
              | (go_at_call 141
                 refine (HIH2.out _ S _ (HB.out.trans (HK2.out.below hqb HB.out.size)) HS2.out HY2.out (ct_pred HC2.out HCC.out)).mono ?_
                 rintro e w3 ⟨rfl, ⟨z, hz, hz2⟩, hk3⟩
                 have HZ := Lib.hid hz
                 have HZ2 := Lib.hid hz2
                 have HK3 := Lib.hid (HK2.out.trans hk3)
                 clear hz hz2 hk3)
              | (fail))
            go_ret
            exact ⟨by rw [← HE.out]; rfl, ⟨z, HZ.out, fun c' h => by rw [← HE.out] at h; cases h⟩, HK3.out⟩
          | some c4 =>
            have HF4 : Hid (exsR d (l.drop (j + 1)) c4 = r) := Lib.hid (by rw [HF3.out, hr3]; rfl)
            have HC4 : Hid (c4 ≤ 2000) := Lib.hid (by
              have := exsR_le (d + 1) ks (cj - 1) c4 (hr2.out.trans hr3)
              have := HCL.out
              omega)
            rw [hr3] at HIH2
            clear hr3 HF3 hr2
            go_wp2_with (first
              | (go_at_call 139
                 refine HP.out.mono ?_
                 rintro e w1 ⟨rfl, hc1, hk1⟩
                 have HC1 := Lib.hid hc1
                 have HK1 := Lib.hid ((HKJ.out.alloc _).trans hk1)
                 have hQ1 := hk1.heap HQ.out hqn
                 have HQ1 := Lib.hid hQ1
                 obtain ⟨⟨z0, z1, z2, z3⟩, -⟩ := box4f hQ1
                 clear hc1 hk1 hQ1)
              | (go_at_call 174
                 refine (HREX.out _ (HWB.out.below (HB.out.trans (HK1.out.below hqb HB.out.size)))).mono ?_
                 rintro e w2 ⟨rfl, hb2⟩
                 have HC2 : Hid (Ct w2 qc ((cj : Int) - 1)) := Lib.hid (heap_below HC1.out hb2)
                 have HK2 := Lib.hid (HK1.out.trans (Kp.of_below hb2))
                 obtain ⟨⟨x0, x1, x2, x3⟩, -⟩ := box4f (heap_below HQ1.out hb2)
                 have HY2 : Hid (Rd w2 S (.row 4 (ks.map Ex.nd)) (.slice A3 kn c3)) := Lib.hid (by rw [← hkn.out]; exact Rd.keep (fun p hp => HK2.out.cellq (HSS.out _ hp).1 (HSS.out _ hp).2) (fun _ h => h) _ _ HY.out)
                 have HS2 := Lib.hid (fun b (hb : S b) => (And.intro (Nat.lt_of_lt_of_le (HSS.out b hb).1 HK2.out.size) (HSS.out b hb).2))
                 clear hb2)
              | (go_at_call 141
                 refine (HIH2.out _ S _ (HB.out.trans (HK2.out.below hqb HB.out.size)) HS2.out HY2.out (ct_pred HC2.out HCC.out)).mono ?_
                 rintro e w3 ⟨rfl, ⟨z, hz, hz2⟩, hk3⟩
                 have HZ := Lib.hid hz
                 have HZ2 := Lib.hid hz2
                 have HK3 := Lib.hid (HK2.out.trans hk3)
                 clear hz hz2 hk3)
              | (fail))
            go_roundg g
            case measure => omega
            case rel => exact ⟨j + 1, c4, by omega, by go_num, HF4, HC4, Lib.hid (by rw [← HZ2.out c4 rfl]; exact HZ.out), HK3⟩
/-- Expressions so deep. -/
theorem exprs_any (wb : World) (hwb : Wt wb) (qc : Nat) (hqb : wb.heap.size ≤ qc) : ∀ (L d : Nat), d + L = 42 → ∀ (l : List Ex) (c : Nat) (w : World) (S : Nat → Prop) (v : Value), Below wb.heap.size wb w → (∀ b, S b → b < w.heap.size ∧ b ≠ qc) → Rd w S (.row 4 (l.map Ex.nd)) v → Ct w qc (c : Int) → c ≤ 2000 → Calls Tryz.prog 141 #[at0 qc, v, .int .i64 (d : Int)] w (OutR qc w (exsR d l c))
  | 0, d, hd => fun l c w S v hb hS hr hc hc2 => exprs_step wb hwb qc hqb d (by omega) (fun h => absurd h (by omega)) l c w S v hb hS hr hc hc2
  | L + 1, d, hd => fun l c w S v hb hS hr hc hc2 => exprs_step wb hwb qc hqb d (by omega) (fun _ l c w S v hb hS hr hc hc2 => exprs_any wb hwb qc hqb L (d + 1) (by omega) l c w S v hb hS hr hc hc2) l c w S v hb hS hr hc hc2
end Go.Proofs.YtpakjjefbholdaaGreatDoor
