/- Texts Kk, Kl, Km, As of this seat in one: see each part. -/
import Derived.Laws.Concat
import Derived.Test.YtpakjjefbholdaaGreatDoorKgj
import Derived.Test.YtpakjjefbholdaaGreatDoorUg
import Derived.Test.YtpakjjefbholdaaGreatDoorTuv
import Derived.Test.YtpakjjefbholdaaGreatDoorWh
namespace Go.Proofs.YtpakjjefbholdaaGreatDoor
open Go.RowKit
set_option linter.unusedVariables false

theorem ChAt.setFn {w : World} {q bf br : Nat} {c : Ck} (x : Bool) (h : ChAt w q c bf br) (h1 : bf ≠ q) (h2 : br ≠ q) : ChAt (w.setCell ⟨q, 2, none⟩ (.bool x)) q ⟨c.fns, c.roles, x⟩ bf br :=
  ⟨by simpa using heap_set h.h 2 (.bool x), h.f.kp ((Kp.refl q w).set rfl _) h1, h.r.kp ((Kp.refl q w).set rfl _) h2⟩
theorem bodyR_ps {b : Bd} {c c' : Nat} (h : bodyR b c = some c') : b.ps.length ≤ 30 := by
  unfold bodyR headR at h
  split at h
  · rename_i h1
    simp only [Bool.and_eq_true, decide_eq_true_eq] at h1
    exact h1.1.2
  · cases h
theorem bodiesR_ps : ∀ {l : List Bd} {c c' : Nat}, bodiesR l c = some c' → ∀ b ∈ l, b.ps.length ≤ 30
  | [], c, c', h, b, hb => by simp at hb
  | x :: r, c, c', h, b, hb => by
    rw [bodiesR] at h
    split at h
    · cases h
    · rename_i c1 h1
      rcases List.mem_cons.1 hb with rfl | hb
      · exact bodyR_ps h1
      · exact bodiesR_ps h b hb
theorem rolesR_ps : ∀ {l : List Rl} {c c' : Nat}, rolesR l c = some c' → ∀ b ∈ l, b.ps.length ≤ 30 ∧ b.on.length ≤ 60 ∧ ∀ x ∈ b.on, x.ps.length ≤ 30
  | [], c, c', h, b, hb => by simp at hb
  | x :: r, c, c', h, b, hb => by
    rw [rolesR] at h
    split at h
    · cases h
    · rename_i c1 h1
      rcases List.mem_cons.1 hb with rfl | hb
      · unfold roleR headR at h1
        split at h1
        · rename_i h2
          simp only [Bool.and_eq_true, decide_eq_true_eq] at h2
          exact ⟨h2.1.1.2, h2.2, bodiesR_ps h1⟩
        · cases h1
      · exact rolesR_ps h b hb
theorem right_bounds {g : Pg} (h : rightP g = true) : g.fns.length + g.roles.length ≤ 60 ∧ (∀ b ∈ g.fns, b.ps.length ≤ 30) ∧ (∀ b ∈ g.roles, b.ps.length ≤ 30 ∧ b.on.length ≤ 60 ∧ ∀ x ∈ b.on, x.ps.length ≤ 30) := by
  unfold rightP at h
  split at h
  · cases h
  · rename_i h0
    split at h
    · cases h
    · rename_i c h1
      refine ⟨by omega, bodiesR_ps h1, ?_⟩
      cases h2 : rolesR g.roles c with
      | none => rw [h2] at h; cases h
      | some c' => exact rolesR_ps h2
set_option maxRecDepth 100000 in
set_option maxHeartbeats 8000000 in
theorem check_any (g : Pg) (hlen : g.fns.length + g.roles.length ≤ 1000000) (w : World) (hw : Wt w) (S : Nat → Prop) (v : Value) (hS : ∀ b, S b → b < w.heap.size) (hr : Rd w S g.nd v) :
    Calls Tryz.prog 34 #[v] w (OutF w (checkF g)) := by
  obtain ⟨y, z, rfl, hy, hz⟩ := (Pg.rd g v).1 hr
  obtain ⟨A1, n1, c1, rfl⟩ := hy.row_form
  obtain ⟨A2, n2, c2, rfl⟩ := hz.row_form
  have HY := Lib.hid hy
  have HZ := Lib.hid hz
  have HRD := Lib.hid hr
  have HSS := Lib.hid hS
  have HBB := Lib.hid (two w (.cells #[.slice A1 n1 c1, .slice A2 n2 c2] 26) (.cells #[.int .i64 0, .int .i64 0] 29))
  have HQ := Lib.hid (heap_old (heap_new w (.cells #[.slice A1 n1 c1, .slice A2 n2 c2] 26)) (.cells #[.int .i64 0, .int .i64 0] 29))
  have HRC := Lib.hid (heap_new' (w.alloc (.cells #[.slice A1 n1 c1, .slice A2 n2 c2] 26)) (.cells #[.int .i64 0, .int .i64 0] 29) (w.heap.size + 1) (by simp))
  have HRI := Lib.hid (right_any w hw g _ S _ hlen HBB.out (fun b hb => Nat.lt_of_lt_of_le (hS b hb) HBB.out.size) (Rd.keep (fun p hp => HBB.out.cell (hS _ hp)) (fun _ h => h) _ _ hr))
  have hmm := @run_makeMap Tryz.prog
  unfold OutF checkF
  clear hy hz hr hS hlen hw
  cases hright : rightP g with
  | false =>
    rw [hright] at HRI
    clear hright
    rw [if_neg (by simp)]
    go_enter Tryz.func34, Tryz.ntmps34
    go_wp2_with (first
      | (go_at_call 22
         refine HRI.out.mono ?_
         rintro e w2 ⟨rfl, hb2⟩
         have HB2 := Lib.hid (HBB.out.trans (hb2.mono HBB.out.size))
         have HR2 := Lib.hid (heap_below HRC.out hb2)
         obtain ⟨⟨v0, v1⟩, vf0, vf1⟩ := bx2 HR2.out
         have h2 := lt_heap HR2.out
         clear hb2)
      | (fail))
    have HX := Lib.hid (st2 HR2.out (.int .i64 103) (.int .i64 0))
    obtain ⟨⟨x0, x1⟩, -⟩ := bx2 HX.out
    refine bodyPost_ret (v := .agg #[.int .i64 103, .int .i64 0]) (by simp [results, Tryz.results34, go_sem, x0, x1]) rfl ?_
    exact ⟨rfl, (HB2.out.setCell (Nat.le_succ _) _).setCell (Nat.le_succ _) _⟩
  | true =>
    rw [hright] at HRI
    rw [if_pos rfl]
    obtain ⟨q1, q2, q3⟩ := right_bounds hright
    have HNC := Lib.hid (fun (w' : World) (hb : Below w.heap.size w w') => newCheck_any g w' S _ (fun b hb' => Nat.lt_of_lt_of_le (HSS.out b hb') hb.size) (Rd.keep (fun p hp => hb.cell (HSS.out _ hp)) (fun _ h => h) _ _ HRD.out) (by omega) (by omega) (fun b hb => Nat.le_trans (q2 b hb) (by omega)) (fun b hb => Nat.le_trans (q3 b hb).1 (by omega)))
    have HBC := Lib.hid (fun (c : Ck) (q bf br : Nat) (w' : World) (b' : Nat) (hb : Below w.heap.size w w') (hc : ChAt w' q c bf br) (hn : Ns w' b' []) => bodiesC_any g.fns (by omega) (fun b hb => Nat.le_trans (q2 b hb) (by omega)) b' [] w' S _ hc hn (by simp) (fun b hb' => Nat.lt_of_lt_of_le (HSS.out b hb') hb.size) (Rd.keep (fun p hp => hb.cell (HSS.out _ hp)) (fun _ h => h) _ _ HY.out))
    have HRO := Lib.hid (fun (c : Ck) (q bf br : Nat) (w' : World) (hb : Below w.heap.size w w') (hc : ChAt w' q c bf br) => rolesC_any g.roles (by omega) (fun b hb => ⟨Nat.le_trans (q3 b hb).1 (by omega), Nat.le_trans (q3 b hb).2.1 (by omega), fun x hx => Nat.le_trans ((q3 b hb).2.2 x hx) (by omega)⟩) w' S _ hc (fun b hb' => Nat.lt_of_lt_of_le (HSS.out b hb') hb.size) (Rd.keep (fun p hp => hb.cell (HSS.out _ hp)) (fun _ h => h) _ _ HZ.out))
    unfold checkG
    obtain ⟨F1, hF1⟩ : ∃ F, Hid (fnsA g.fns = F) := ⟨_, Lib.hid rfl⟩
    obtain ⟨F2, hF2⟩ : ∃ F, Hid (rolesA g.roles = F) := ⟨_, Lib.hid rfl⟩
    rw [hF1.out, hF2.out] at HNC ⊢
    obtain ⟨be, bl, hb⟩ : ∃ be bl, Hid (bdsC ⟨F1, F2, true⟩ [] [] g.fns = (be, bl)) := ⟨_, _, Lib.hid rfl⟩
    obtain ⟨ce, cl, hc⟩ : ∃ be bl, Hid (rlsC ⟨F1, F2, false⟩ [] g.roles = (be, bl)) := ⟨_, _, Lib.hid rfl⟩
    rw [hb.out, hc.out]
    have HBC2 := Lib.hid (fun q bf br w' b' a1 a2 a3 => show Calls Tryz.prog 75 #[.pointer (some ⟨q, 0, none⟩), .slice A1 n1 c1, .map (some b')] w' (fun e w'' => e = .returned (.agg #[.int .i64 (be : Int), .int .i64 bl]) ∧ Below w'.heap.size w' w'') from by
      have := HBC.out ⟨F1, F2, true⟩ q bf br w' b' a1 a2 a3
      rw [hb.out] at this
      exact this)
    have HRO2 := Lib.hid (fun q bf br w' a1 a2 => show Calls Tryz.prog 76 #[.pointer (some ⟨q, 0, none⟩), .slice A2 n2 c2] w' (fun e w'' => e = .returned (.agg #[.int .i64 (ce : Int), .int .i64 cl]) ∧ Below w'.heap.size w' w'') from by
      have := HRO.out ⟨F1, F2, false⟩ q bf br w' a1 a2
      rw [hc.out] at this
      exact this)
    unfold OutK at0 at HNC
    clear HBC HRO q1 q2 q3 hright hb hc HY HZ HRD HSS hF1 hF2
    by_cases hbe : be = 0
    · have e2 : ((be : Int) != 0) = false := by rw [hbe]; rfl
      have HE : Hid (fstF (be, bl) (ce, cl) = (ce, cl)) := Lib.hid (by
        show (if be = 0 then _ else _) = _
        rw [if_pos hbe])
      rw [HE.out]
      clear hbe HE
      go_enter Tryz.func34, Tryz.ntmps34
      go_wp2_with (first
        | (go_at_call 22
           refine HRI.out.mono ?_
           rintro e w2 ⟨rfl, hb2⟩
           have HB2 := Lib.hid (HBB.out.trans (hb2.mono HBB.out.size))
           have HQ2 := Lib.hid (heap_below HQ.out hb2)
           have HR2 := Lib.hid (heap_below HRC.out hb2)
           obtain ⟨⟨p0, p1⟩, -⟩ := bx2 HQ2.out
           have h2 := lt_heap HR2.out
           clear hb2)
        | (go_at_call 74
           refine (HNC.out _ HB2.out).mono ?_
           rintro e w3 ⟨rfl, hc3, hb3⟩
           have HB3 := Lib.hid (HB2.out.trans (hb3.mono HB2.out.size))
           have HQ3 := Lib.hid (heap_below HQ2.out hb3)
           have HR3 := Lib.hid (heap_below HR2.out hb3)
           have HC3 := Lib.hid hc3
           obtain ⟨⟨k0, k1, k2⟩, kf0, kf1, kf2⟩ := bx3c hc3.h
           obtain ⟨⟨r0, r1⟩, -⟩ := bx2 HQ3.out
           have h3 := lt_heap hc3.h
           have h3r := lt_heap HR3.out
           have HW4 : Hid (Below w.heap.size w ((w3.setCell ⟨w2.heap.size + 3, 2, none⟩ (.bool true)).alloc (.map #[] 0))) := Lib.hid ((HB3.out.setCell (by have := HB2.out.size; show w.heap.size ≤ w2.heap.size + 3; omega) _).alloc (by have := HB3.out.size; simpa using this) _)
           have HC4 := Lib.hid ((hc3.setFn true (by omega) (by omega)).alloc (.map #[] 0))
           have HN4 := Lib.hid (Ns.made (w3.setCell ⟨w2.heap.size + 3, 2, none⟩ (.bool true)))
           have hz4 : (w3.setCell ⟨w2.heap.size + 3, 2, none⟩ (.bool true)).heap.size = w3.heap.size := by simp
           rw [hz4] at HN4
           have HQ4 := Lib.hid (heap_old (heap_set_ne HQ3.out (show w.heap.size ≠ w2.heap.size + 3 by omega) 2 (.bool true)) (.map #[] 0))
           have HR4 := Lib.hid (heap_old (heap_set_ne HR3.out (show w.heap.size + 1 ≠ w2.heap.size + 3 by omega) 2 (.bool true)) (.map #[] 0))
           clear hc3 hb3 hz4)
        | (go_at_call 75
           refine (HBC2.out _ _ _ _ _ HW4.out HC4.out HN4.out).mono ?_
           rintro e w5 ⟨rfl, hb5⟩
           have HB5 := Lib.hid (HW4.out.trans (hb5.mono HW4.out.size))
           have HQ5 := Lib.hid (heap_below HQ4.out hb5)
           have HR5 := Lib.hid (heap_below HR4.out hb5)
           have HC5 := Lib.hid (HC4.out.below hb5)
           obtain ⟨⟨m0, m1, m2⟩, mf0, mf1, mf2⟩ := bx3c HC5.out.h
           obtain ⟨⟨s0, s1⟩, -⟩ := bx2 HQ5.out
           have h5 := lt_heap HC5.out.h
           have h5q := lt_heap HQ5.out
           have h5r := lt_heap HR5.out
           have HW6 : Hid (Below w.heap.size w ((w5.setCell ⟨w2.heap.size + 3, 2, none⟩ (.bool false)).alloc (.cells #[.int .i64 (be : Int), .int .i64 bl] 29))) := Lib.hid ((HB5.out.setCell (by have := HB2.out.size; show w.heap.size ≤ w2.heap.size + 3; omega) _).alloc (by have := HB5.out.size; simpa using this) _)
           have HC6 := Lib.hid ((HC5.out.setFn false (by omega) (by omega)).alloc (.cells #[.int .i64 (be : Int), .int .i64 bl] 29))
           have HR6 := Lib.hid (heap_old (heap_set_ne HR5.out (show w.heap.size + 1 ≠ w2.heap.size + 3 by omega) 2 (.bool false)) (.cells #[.int .i64 (be : Int), .int .i64 bl] 29))
           clear hb5)
        | (go_at_call 76
           refine (HRO2.out _ _ _ _ HW6.out HC6.out).mono ?_
           rintro e w7 ⟨rfl, hb7⟩
           have HB7 := Lib.hid (HW6.out.trans (hb7.mono HW6.out.size))
           have HR7 := Lib.hid (heap_below HR6.out hb7)
           obtain ⟨⟨t0, t1⟩, tf0, tf1⟩ := bx2 HR7.out
           have h7 := lt_heap HR7.out
           clear hb7)
        | (fail))
      have HX := Lib.hid (st2 HR7.out (.int .i64 (ce : Int)) (.int .i64 cl))
      obtain ⟨⟨x0, x1⟩, -⟩ := bx2 HX.out
      refine bodyPost_ret (v := .agg #[.int .i64 (ce : Int), .int .i64 cl]) (by simp [results, Tryz.results34, go_sem, x0, x1]) rfl ?_
      exact ⟨rfl, (HB7.out.setCell (Nat.le_succ _) _).setCell (Nat.le_succ _) _⟩
    · have e2 : ((be : Int) != 0) = true := bne_iff_ne.2 (by omega)
      have HE : Hid (fstF (be, bl) (ce, cl) = (be, bl)) := Lib.hid (by
        show (if be = 0 then _ else _) = _
        rw [if_neg hbe])
      rw [HE.out]
      clear hbe HE
      go_enter Tryz.func34, Tryz.ntmps34
      go_wp2_with (first
        | (go_at_call 22
           refine HRI.out.mono ?_
           rintro e w2 ⟨rfl, hb2⟩
           have HB2 := Lib.hid (HBB.out.trans (hb2.mono HBB.out.size))
           have HQ2 := Lib.hid (heap_below HQ.out hb2)
           have HR2 := Lib.hid (heap_below HRC.out hb2)
           obtain ⟨⟨p0, p1⟩, -⟩ := bx2 HQ2.out
           have h2 := lt_heap HR2.out
           clear hb2)
        | (go_at_call 74
           refine (HNC.out _ HB2.out).mono ?_
           rintro e w3 ⟨rfl, hc3, hb3⟩
           have HB3 := Lib.hid (HB2.out.trans (hb3.mono HB2.out.size))
           have HQ3 := Lib.hid (heap_below HQ2.out hb3)
           have HR3 := Lib.hid (heap_below HR2.out hb3)
           obtain ⟨⟨k0, k1, k2⟩, kf0, kf1, kf2⟩ := bx3c hc3.h
           obtain ⟨⟨r0, r1⟩, -⟩ := bx2 HQ3.out
           have h3 := lt_heap hc3.h
           have h3r := lt_heap HR3.out
           have HW4 : Hid (Below w.heap.size w ((w3.setCell ⟨w2.heap.size + 3, 2, none⟩ (.bool true)).alloc (.map #[] 0))) := Lib.hid ((HB3.out.setCell (by have := HB2.out.size; show w.heap.size ≤ w2.heap.size + 3; omega) _).alloc (by have := HB3.out.size; simpa using this) _)
           have HC4 := Lib.hid ((hc3.setFn true (by omega) (by omega)).alloc (.map #[] 0))
           have HN4 := Lib.hid (Ns.made (w3.setCell ⟨w2.heap.size + 3, 2, none⟩ (.bool true)))
           have hz4 : (w3.setCell ⟨w2.heap.size + 3, 2, none⟩ (.bool true)).heap.size = w3.heap.size := by simp
           rw [hz4] at HN4
           have HR4 := Lib.hid (heap_old (heap_set_ne HR3.out (show w.heap.size + 1 ≠ w2.heap.size + 3 by omega) 2 (.bool true)) (.map #[] 0))
           clear hc3 hb3 hz4)
        | (go_at_call 75
           refine (HBC2.out _ _ _ _ _ HW4.out HC4.out HN4.out).mono ?_
           rintro e w5 ⟨rfl, hb5⟩
           have HB5 := Lib.hid (HW4.out.trans (hb5.mono HW4.out.size))
           have HR5 := Lib.hid (heap_below HR4.out hb5)
           obtain ⟨⟨t0, t1⟩, tf0, tf1⟩ := bx2 HR5.out
           have h5r := lt_heap HR5.out
           clear hb5)
        | (fail))
      have HX := Lib.hid (heap_old (st2 HR5.out (.int .i64 (be : Int)) (.int .i64 bl)) (.cells #[.int .i64 (be : Int), .int .i64 bl] 29))
      obtain ⟨⟨x0, x1⟩, -⟩ := bx2 HX.out
      refine bodyPost_ret (v := .agg #[.int .i64 (be : Int), .int .i64 bl]) (by simp [results, Tryz.results34, go_sem, x0, x1]) rfl ?_
      exact ⟨rfl, ((HB5.out.setCell (Nat.le_succ _) _).setCell (Nat.le_succ _) _).alloc (by have := HB5.out.size; simpa using this) _⟩
end Go.Proofs.YtpakjjefbholdaaGreatDoor
namespace Go.Proofs.YtpakjjefbholdaaGreatDoor
open Go.RowKit
set_option linter.unusedVariables false

theorem parse_right {T : List Nat} {n : Nat} {g : Pg} {fl : Nat} (h : parseF T n = some (g, 0, fl)) : rightP g = true := by
  unfold parseF at h
  split at h
  · cases h
  · rename_i g1 p hr
    by_cases h1 : p.er ≠ 0
    · rw [if_pos h1] at h
      simp only [Option.some.injEq, Prod.mk.injEq] at h
      exact absurd h.2.1 h1
    · rw [if_neg h1] at h
      by_cases h2 : rightP g1 = true
      · rw [if_pos h2] at h
        cases h
        exact h2
      · rw [if_neg h2] at h
        cases h
theorem fault_cases {T : List Nat} {er : Nat} {ln : Int} (h : faultF T = some (er, ln)) : ∃ g e0 fl, parseF T (fuel T) = some (g, e0, fl) ∧ ((e0 ≠ 0 ∧ er = e0 ∧ ln = (fl : Int)) ∨ (e0 = 0 ∧ rightP g = true ∧ checkF g = (er, ln))) := by
  unfold faultF at h
  split at h
  · cases h
  · rename_i g e0 fl hp
    by_cases h0 : e0 = 0
    · rw [if_pos h0] at h
      injection h with h
      exact ⟨g, e0, fl, hp, .inr ⟨h0, by subst h0; exact parse_right hp, h⟩⟩
    · rw [if_neg h0] at h
      injection h with h
      injection h with h1 h2
      exact ⟨g, e0, fl, hp, .inl ⟨h0, h1.symm, h2.symm⟩⟩
theorem fld0 (a b : Value) (w : World) : (Instr.field 29 (.agg #[a, b]) 0).run Tryz.prog w = .ok a w := by kernel_rfl
set_option maxRecDepth 100000 in
set_option maxHeartbeats 4000000 in
theorem said_any (T : List Nat) (h8 : ∀ x ∈ T, x < 256) (hl : T.length ≤ 90000) {er : Nat} {ln : Int} (hT : faultF T = some (er, ln)) (S : ByteArray) (hS : S = strOf T) (w : World) (hw : Wt w) :
    Calls Tryz.prog 71 #[.string S] w fun e w' => e = .returned (.int .i64 (er : Int)) ∧ Below w.heap.size w w' := by
  subst hS
  obtain ⟨g, e0, fl, hp, hc⟩ := fault_cases hT
  have HP := Lib.hid (parse_any T h8 (by omega) w hw (right_any w hw) (fuel T) (by unfold fuel; omega) g e0 fl hp)
  have HW := Lib.hid hw
  clear h8 hl hT hp hw
  unfold OutP at HP
  generalize strOf T = Z at *
  rcases hc with ⟨h0, rfl, rfl⟩ | ⟨rfl, hright, hcf⟩
  · have e1 : ((er : Int) != 0) = true := bne_iff_ne.2 (by omega)
    clear h0
    go_enter Tryz.func71, Tryz.ntmps71
    go_wp2_with (first
      | (go_at_call 16
         refine HP.out.mono ?_
         rintro e w1 ⟨v, rfl, hr, hb1⟩
         obtain ⟨ya, yb, rfl, hya, hyb⟩ := (Pg.rd g v).1 hr
         obtain ⟨A1, n1, c1, rfl⟩ := hya.row_form
         obtain ⟨A2, n2, c2, rfl⟩ := hyb.row_form
         have HB1 : Hid (Below w.heap.size w w1) := Lib.hid (hb1)
         have HBR : Hid (Below w.heap.size w ((w1.alloc (.cells #[.slice A1 n1 c1, .slice A2 n2 c2] 26)).alloc (.cells #[.int .i64 (er : Int), .int .i64 (fl : Int)] 29))) := Lib.hid (hb1.trans ((two w1 _ _).mono hb1.size))
         have HRD := Lib.hid hr
         have HBP := Lib.hid hb1
         clear hr hb1 hya hyb)
      | (fail))
    go_ret
    exact ⟨rfl, HBR.out⟩
  · have HLEN : Hid (g.fns.length + g.roles.length ≤ 1000000) := Lib.hid (by have := (right_bounds hright).1; omega)
    have HCF := Lib.hid hcf
    clear hright hcf
    have hfld := fld0
    go_enter Tryz.func71, Tryz.ntmps71
    go_wp2_with (first
      | (go_at_call 16
         refine HP.out.mono ?_
         rintro e w1 ⟨v, rfl, hr, hb1⟩
         obtain ⟨ya, yb, rfl, hya, hyb⟩ := (Pg.rd g v).1 hr
         obtain ⟨A1, n1, c1, rfl⟩ := hya.row_form
         obtain ⟨A2, n2, c2, rfl⟩ := hyb.row_form
         have HB1 : Hid (Below w.heap.size w w1) := Lib.hid (hb1)
         have HBR : Hid (Below w.heap.size w ((w1.alloc (.cells #[.slice A1 n1 c1, .slice A2 n2 c2] 26)).alloc (.cells #[.int .i64 0, .int .i64 (fl : Int)] 29))) := Lib.hid (hb1.trans ((two w1 _ _).mono hb1.size))
         have HRD := Lib.hid hr
         have HBP := Lib.hid hb1
         clear hr hb1 hya hyb)
      | (go_at_call 34
         refine (check_any g HLEN.out _ (HW.out.below (HBP.out.trans ((two w1 (.cells #[.slice A1 n1 c1, .slice A2 n2 c2] 26) (.cells #[.int .i64 0, .int .i64 (fl : Int)] 29)).mono HBP.out.size))) (Nw w w1) _ (fun b hb => by have := hb.2; simp; omega) (Rd.keep (fun p hp => (two w1 _ _).cell hp.2) (fun _ h => h) _ _ HRD.out)).mono ?_
         rw [HCF.out]
         rintro e w2 ⟨rfl, hb2⟩
         have HB2 := Lib.hid (HBR.out.trans (hb2.mono HBR.out.size))
         clear hb2)
      | (fail))
    go_ret
    exact ⟨rfl, HB2.out⟩
set_option maxRecDepth 100000 in
set_option maxHeartbeats 4000000 in
theorem fault_any (T : List Nat) (h8 : ∀ x ∈ T, x < 256) (hl : T.length ≤ 90000) {er : Nat} {ln : Int} (hT : faultF T = some (er, ln)) (S : ByteArray) (hS : S = strOf T) (w : World) (hw : Wt w) :
    Calls Tryz.prog 37 #[.string S] w fun e w' => e = .returned (.agg #[.int .i64 (er : Int), .int .i64 ln]) ∧ Below w.heap.size w w' := by
  subst hS
  obtain ⟨g, e0, fl, hp, hc⟩ := fault_cases hT
  have hB0 : Below w.heap.size w (w.alloc (.cells #[.int .i64 0, .int .i64 0] 29)) := (Below.refl _ _).alloc (Nat.le_refl _) _
  have HB0 := Lib.hid hB0
  have HRC := Lib.hid (heap_new w (.cells #[.int .i64 0, .int .i64 0] 29))
  have HP := Lib.hid (parse_any T h8 (by omega) _ (hw.below hB0) (right_any _ (hw.below hB0)) (fuel T) (by unfold fuel; omega) g e0 fl hp)
  have HW := Lib.hid (hw.below hB0)
  clear hB0
  clear h8 hl hT hp hw
  unfold OutP at HP
  generalize strOf T = Z at *
  rcases hc with ⟨h0, rfl, rfl⟩ | ⟨rfl, hright, hcf⟩
  · have e1 : ((er : Int) != 0) = true := bne_iff_ne.2 (by omega)
    clear h0
    go_enter Tryz.func37, Tryz.ntmps37
    go_wp2_with (first
      | (go_at_call 16
         refine HP.out.mono ?_
         rintro e w1 ⟨v, rfl, hr, hb1⟩
         obtain ⟨ya, yb, rfl, hya, hyb⟩ := (Pg.rd g v).1 hr
         obtain ⟨A1, n1, c1, rfl⟩ := hya.row_form
         obtain ⟨A2, n2, c2, rfl⟩ := hyb.row_form
         have HB1 : Hid (Below w.heap.size w w1) := Lib.hid (HB0.out.trans (hb1.mono HB0.out.size))
         have HBR : Hid (Below w.heap.size w ((w1.alloc (.cells #[.slice A1 n1 c1, .slice A2 n2 c2] 26)).alloc (.cells #[.int .i64 (er : Int), .int .i64 (fl : Int)] 29))) := Lib.hid (HB0.out.trans ((hb1.mono HB0.out.size).trans ((two w1 _ _).mono (Nat.le_trans HB0.out.size hb1.size))))
         have HRD := Lib.hid hr
         have HBP := Lib.hid hb1
         have HR1 := Lib.hid (heap_old (heap_old (heap_below HRC.out hb1) (.cells #[.slice A1 n1 c1, .slice A2 n2 c2] 26)) (.cells #[.int .i64 (er : Int), .int .i64 (fl : Int)] 29))
         have h1r := lt_heap (heap_below HRC.out hb1)
         obtain ⟨⟨v0, v1⟩, vf0, vf1⟩ := bx2 (heap_below HRC.out hb1)
         clear hr hb1 hya hyb)
      | (fail))
    have HX := Lib.hid (heap_old (heap_old (st2 (heap_below HRC.out HBP.out) (.int .i64 (er : Int)) (.int .i64 (fl : Int))) (.cells #[.slice A1 n1 c1, .slice A2 n2 c2] 26)) (.cells #[.int .i64 (er : Int), .int .i64 (fl : Int)] 29))
    obtain ⟨⟨x0, x1⟩, -⟩ := bx2 HX.out
    refine bodyPost_ret (v := .agg #[.int .i64 (er : Int), .int .i64 (fl : Int)]) (by simp [results, Tryz.results37, go_sem, x0, x1]) rfl ?_
    exact ⟨rfl, ((HB1.out.setCell (Nat.le_refl _) _).setCell (Nat.le_refl _) _).trans ((two _ _ _).mono (by have := HB1.out.size; simpa using this))⟩
  · have HLEN : Hid (g.fns.length + g.roles.length ≤ 1000000) := Lib.hid (by have := (right_bounds hright).1; omega)
    have HCF := Lib.hid hcf
    clear hright hcf
    have hfld := fld0
    go_enter Tryz.func37, Tryz.ntmps37
    go_wp2_with (first
      | (go_at_call 16
         refine HP.out.mono ?_
         rintro e w1 ⟨v, rfl, hr, hb1⟩
         obtain ⟨ya, yb, rfl, hya, hyb⟩ := (Pg.rd g v).1 hr
         obtain ⟨A1, n1, c1, rfl⟩ := hya.row_form
         obtain ⟨A2, n2, c2, rfl⟩ := hyb.row_form
         have HB1 : Hid (Below w.heap.size w w1) := Lib.hid (HB0.out.trans (hb1.mono HB0.out.size))
         have HBR : Hid (Below w.heap.size w ((w1.alloc (.cells #[.slice A1 n1 c1, .slice A2 n2 c2] 26)).alloc (.cells #[.int .i64 0, .int .i64 (fl : Int)] 29))) := Lib.hid (HB0.out.trans ((hb1.mono HB0.out.size).trans ((two w1 _ _).mono (Nat.le_trans HB0.out.size hb1.size))))
         have HRD := Lib.hid hr
         have HBP := Lib.hid hb1
         have HR1 := Lib.hid (heap_old (heap_old (heap_below HRC.out hb1) (.cells #[.slice A1 n1 c1, .slice A2 n2 c2] 26)) (.cells #[.int .i64 0, .int .i64 (fl : Int)] 29))
         have h1r := lt_heap (heap_below HRC.out hb1)
         obtain ⟨⟨v0, v1⟩, vf0, vf1⟩ := bx2 (heap_below HRC.out hb1)
         clear hr hb1 hya hyb)
      | (go_at_call 34
         refine (check_any g HLEN.out _ (HW.out.below (HBP.out.trans ((two w1 (.cells #[.slice A1 n1 c1, .slice A2 n2 c2] 26) (.cells #[.int .i64 0, .int .i64 (fl : Int)] 29)).mono HBP.out.size))) (Nw (w.alloc (.cells #[.int .i64 0, .int .i64 0] 29)) w1) _ (fun b hb => by have := hb.2; simp; omega) (Rd.keep (fun p hp => (two w1 _ _).cell hp.2) (fun _ h => h) _ _ HRD.out)).mono ?_
         rw [HCF.out]
         rintro e w2 ⟨rfl, hb2⟩
         have HB2 := Lib.hid (HBR.out.trans (hb2.mono HBR.out.size))
         have HR2 := Lib.hid (heap_below HR1.out hb2)
         obtain ⟨⟨y0, y1⟩, yf0, yf1⟩ := bx2 HR2.out
         have h2r := lt_heap HR2.out
         clear hb2)
      | (fail))
    have HX := Lib.hid (st2 HR2.out (.int .i64 (er : Int)) (.int .i64 ln))
    obtain ⟨⟨x0, x1⟩, -⟩ := bx2 HX.out
    refine bodyPost_ret (v := .agg #[.int .i64 (er : Int), .int .i64 ln]) (by simp [results, Tryz.results37, go_sem, x0, x1]) rfl ?_
    exact ⟨rfl, (HB2.out.setCell (Nat.le_refl _) _).setCell (Nat.le_refl _) _⟩
end Go.Proofs.YtpakjjefbholdaaGreatDoor
namespace Go.Proofs.YtpakjjefbholdaaGreatDoor
open Go.RowKit
set_option linter.unusedVariables false
set_option maxRecDepth 100000

def aw0 : List Nat := [102, 117, 110, 99, 32, 102, 40, 97, 41, 32, 123, 32, 114, 101, 116, 117, 114, 110, 32, 97, 59, 32, 125]
theorem aw0_f : faultF aw0 = some (0, 0) := by as_aux_lemma => kernel_rfl
def aw1 : List Nat := [102, 117, 110, 99, 32, 102, 40, 97, 44, 32, 97, 41, 32, 123, 32, 125]
theorem aw1_f : faultF aw1 = some (112, 1) := by as_aux_lemma => kernel_rfl
def aw2 : List Nat := [102, 117, 110, 99, 32, 102, 40, 41, 32, 123, 32, 114, 101, 116, 117, 114, 110, 32, 120, 59, 32, 125]
theorem aw2_f : faultF aw2 = some (110, 1) := by as_aux_lemma => kernel_rfl
def aw3 : List Nat := [102, 117, 110, 99, 32, 102, 40, 41, 32, 123, 32, 99, 97, 108, 108, 32, 102, 40, 49, 41, 59, 32, 125]
theorem aw3_f : faultF aw3 = some (111, 1) := by as_aux_lemma => kernel_rfl
def aw4 : List Nat := [102, 117, 110, 99, 32, 102, 40, 41, 32, 123, 32, 115, 116, 111, 112, 59, 32, 125]
theorem aw4_f : faultF aw4 = some (113, 1) := by as_aux_lemma => kernel_rfl
def aw5 : List Nat := [97, 99, 116, 111, 114, 32, 99, 40, 110, 41, 32, 123, 32, 111, 110, 32, 103, 111, 40, 110, 41, 32, 123, 32, 125, 32, 125]
theorem aw5_f : faultF aw5 = some (112, 1) := by as_aux_lemma => kernel_rfl
def aw6 : List Nat := [97, 99, 116, 111, 114, 32, 99, 40, 110, 41, 32, 123, 32, 111, 110, 32, 103, 111, 40, 120, 41, 32, 123, 32, 105, 102, 32, 40, 120, 41, 32, 123, 32, 108, 101, 116, 32, 121, 32, 61, 32, 49, 59, 32, 125, 32, 115, 101, 116, 32, 121, 32, 61, 32, 50, 59, 32, 125, 32, 125]
theorem aw6_f : faultF aw6 = some (110, 1) := by as_aux_lemma => kernel_rfl
set_option maxHeartbeats 4000000 in
theorem awake10_any (w : World) (hw : Wt w) : Calls Tryz.prog 32 #[] w fun e w' => e = .returned (.bool true) ∧ Below w.heap.size w w' := by
  have HW := Lib.hid hw
  have HB := Lib.hid (Below.refl w.heap.size w)
  clear hw
  go_enter Tryz.func32, Tryz.ntmps32
  go_wp2_with fail
  refine (said_any aw0 (by decide) (by decide) aw0_f _ rfl _ (HW.out.below HB.out)).mono ?_
  rintro e w1 ⟨rfl, hb⟩
  have HB' := Lib.hid (HB.out.trans (hb.mono HB.out.size))
  clear HB hb
  have HB := Lib.hid HB'.out
  clear HB'
  go_wp2_with fail
  refine (said_any aw1 (by decide) (by decide) aw1_f _ rfl _ (HW.out.below HB.out)).mono ?_
  rintro e w2 ⟨rfl, hb⟩
  have HB' := Lib.hid (HB.out.trans (hb.mono HB.out.size))
  clear HB hb
  have HB := Lib.hid HB'.out
  clear HB'
  go_wp2_with fail
  refine (said_any aw2 (by decide) (by decide) aw2_f _ rfl _ (HW.out.below HB.out)).mono ?_
  rintro e w3 ⟨rfl, hb⟩
  have HB' := Lib.hid (HB.out.trans (hb.mono HB.out.size))
  clear HB hb
  have HB := Lib.hid HB'.out
  clear HB'
  go_wp2_with fail
  refine (said_any aw3 (by decide) (by decide) aw3_f _ rfl _ (HW.out.below HB.out)).mono ?_
  rintro e w4 ⟨rfl, hb⟩
  have HB' := Lib.hid (HB.out.trans (hb.mono HB.out.size))
  clear HB hb
  have HB := Lib.hid HB'.out
  clear HB'
  go_wp2_with fail
  refine (said_any aw4 (by decide) (by decide) aw4_f _ rfl _ (HW.out.below HB.out)).mono ?_
  rintro e w5 ⟨rfl, hb⟩
  have HB' := Lib.hid (HB.out.trans (hb.mono HB.out.size))
  clear HB hb
  have HB := Lib.hid HB'.out
  clear HB'
  go_wp2_with fail
  refine (said_any aw5 (by decide) (by decide) aw5_f _ rfl _ (HW.out.below HB.out)).mono ?_
  rintro e w6 ⟨rfl, hb⟩
  have HB' := Lib.hid (HB.out.trans (hb.mono HB.out.size))
  clear HB hb
  have HB := Lib.hid HB'.out
  clear HB'
  go_wp2_with fail
  refine (said_any aw6 (by decide) (by decide) aw6_f _ rfl _ (HW.out.below HB.out)).mono ?_
  rintro e w7 ⟨rfl, hb⟩
  have HB' := Lib.hid (HB.out.trans (hb.mono HB.out.size))
  clear HB hb
  have HB := Lib.hid HB'.out
  clear HB'
  go_wp2_with fail
  go_ret
  exact ⟨rfl, HB.out⟩
end Go.Proofs.YtpakjjefbholdaaGreatDoor
namespace Go.Proofs.YtpakjjefbholdaaGreatDoor
open Go.RowKit
set_option linter.unusedVariables false

theorem str_open2 (S : ByteArray) : ∃ T : List Nat, S = strOf T ∧ (∀ x ∈ T, x < 256) ∧ T.length = S.size := by
  refine ⟨S.data.toList.map UInt8.toNat, ?_, ?_, ?_⟩
  · apply ByteArray.ext
    simp [strOf, Function.comp_def]
  · intro x hx
    obtain ⟨u, -, rfl⟩ := List.mem_map.1 hx
    exact u.toNat_lt
  · rw [List.length_map]
    exact Array.length_toList
theorem strOf_app2 (a b : List Nat) : strOf a ++ strOf b = strOf (a ++ b) := by
  apply ByteArray.ext
  rw [ByteArray.data_append]
  simp [strOf]
theorem add_strs2 (a b : List Nat) (h : a.length + b.length ≤ 100000000) (w : World) : (Op.stringOp .add (strOf a) (strOf b)).run Tryz.prog w = .ok (.string (strOf (a ++ b))) w := by
  rw [← strOf_app2]
  exact run_string_add_sum (P := Tryz.prog) (w := w) (strOf a) (strOf b) (by rw [strOf_size, strOf_size]; omega)
end Go.Proofs.YtpakjjefbholdaaGreatDoor
