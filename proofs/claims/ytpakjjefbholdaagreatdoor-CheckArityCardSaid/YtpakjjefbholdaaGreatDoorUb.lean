/- Package tree: operations, expressions, statements by themselves: the walks. -/
import Derived.Test.YtpakjjefbholdaaGreatDoorUa
namespace Go.Proofs.YtpakjjefbholdaaGreatDoor
open Go.RowKit
set_option linter.unusedVariables false

set_option maxRecDepth 100000 in
set_option maxHeartbeats 4000000 in
theorem isOp_any (s : List Nat) (h8 : ∀ x ∈ s, x < 256) (k : Nat) (w : World) : Calls Tryz.prog 207 #[.string (strOf s), .int .i64 (k : Int)] w fun e w' => e = .returned (.bool (isOpF s k)) ∧ w' = w := by
  have q0 := key_eq' s [45] h8 [45] rfl (by decide)
  have q1 := key_eq' s [33] h8 [33] rfl (by decide)
  have q2 := key_eq' s [124, 124] h8 [124, 124] rfl (by decide)
  have q3 := key_eq' s [38, 38] h8 [38, 38] rfl (by decide)
  have q4 := key_eq' s [61, 61] h8 [61, 61] rfl (by decide)
  have q5 := key_eq' s [33, 61] h8 [33, 61] rfl (by decide)
  have q6 := key_eq' s [60] h8 [60] rfl (by decide)
  have q7 := key_eq' s [60, 61] h8 [60, 61] rfl (by decide)
  have q8 := key_eq' s [62] h8 [62] rfl (by decide)
  have q9 := key_eq' s [62, 61] h8 [62, 61] rfl (by decide)
  have q10 := key_eq' s [43] h8 [43] rfl (by decide)
  have q11 := key_eq' s [43, 43] h8 [43, 43] rfl (by decide)
  have q12 := key_eq' s [42] h8 [42] rfl (by decide)
  have q13 := key_eq' s [47] h8 [47] rfl (by decide)
  have q14 := key_eq' s [37] h8 [37] rfl (by decide)
  have g1 : ((k : Int) == 1) = (k == 1) := by rw [Bool.eq_iff_iff, beq_iff_eq, beq_iff_eq]; omega
  have g2 : ((k : Int) == 2) = (k == 2) := by rw [Bool.eq_iff_iff, beq_iff_eq, beq_iff_eq]; omega
  have e : isOpF s k = bif decide (s = [45]) then (k == 1 || k == 2) else bif decide (s = [33]) then (k == 1) else bif (decide (s = [124, 124]) || decide (s = [38, 38]) || decide (s = [61, 61]) || decide (s = [33, 61]) || decide (s = [60]) || decide (s = [60, 61]) || decide (s = [62]) || decide (s = [62, 61]) || decide (s = [43]) || decide (s = [43, 43]) || decide (s = [42]) || decide (s = [47]) || decide (s = [37])) then (k == 2) else false := by
    unfold isOpF
    have e1 : (s ∈ ops2) = (s = [124, 124] ∨ s = [38, 38] ∨ s = [61, 61] ∨ s = [33, 61] ∨ s = [60] ∨ s = [60, 61] ∨ s = [62] ∨ s = [62, 61] ∨ s = [43] ∨ s = [43, 43] ∨ s = [42] ∨ s = [47] ∨ s = [37]) := by simp [ops2]
    simp only [e1, cond_eq_ite, decide_eq_true_eq, Bool.or_eq_true]
    simp only [or_assoc]
  rw [e]
  clear e
  generalize decide (s = [45]) = b0 at *
  generalize decide (s = [33]) = b1 at *
  generalize decide (s = [124, 124]) = b2 at *
  generalize decide (s = [38, 38]) = b3 at *
  generalize decide (s = [61, 61]) = b4 at *
  generalize decide (s = [33, 61]) = b5 at *
  generalize decide (s = [60]) = b6 at *
  generalize decide (s = [60, 61]) = b7 at *
  generalize decide (s = [62]) = b8 at *
  generalize decide (s = [62, 61]) = b9 at *
  generalize decide (s = [43]) = b10 at *
  generalize decide (s = [43, 43]) = b11 at *
  generalize decide (s = [42]) = b12 at *
  generalize decide (s = [47]) = b13 at *
  generalize decide (s = [37]) = b14 at *
  generalize (k == 1) = c1 at *
  generalize (k == 2) = c2 at *
  generalize strOf s = S at *
  clear h8
  go_enter Tryz.func207, Tryz.ntmps207
  cases b0
  · cases b1
    · go_wp2_with fail
      all_goals
        go_ret
        refine ⟨?_, rfl⟩
        clear q0 q1 q2 q3 q4 q5 q6 q7 q8 q9 q10 q11 q12 q13 q14
        subst_vars
        first | rfl | simp_all
    · go_wp2_with fail
      all_goals
        go_ret
        refine ⟨?_, rfl⟩
        first | rfl | simp_all
  · cases c1
    · go_wp2_with fail
      all_goals
        go_ret
        refine ⟨?_, rfl⟩
        first | rfl | simp_all
    · go_wp2_with fail
      all_goals
        go_ret
        refine ⟨?_, rfl⟩
        first | rfl | simp_all
theorem nil_of_empty {s : List Nat} : (s == []) = decide (s = []) := by cases s <;> simp
set_option maxRecDepth 100000 in
set_option maxHeartbeats 4000000 in
theorem rightHead_any (s : List Nat) (ps : List (List Nat)) (S : Nat → Prop) (v : Value) (w : World) (hw : Wt w) (h8 : ∀ x ∈ s, x < 256) (hn : s.length ≤ 140737488355328) (hS : ∀ b, S b → b < w.heap.size) (hp : Rd w S (.row 1 (ps.map nmNd)) v) :
    Calls Tryz.prog 100 #[.string (strOf s), v] w fun e w' => e = .returned (.bool (headR s ps)) ∧ Below w.heap.size w w' := by
  have HN := Lib.hid (isName_any s h8 hn w hw)
  have HNN := Lib.hid (fun t w' (h1 : Wt w') (h2 : ∀ x ∈ t, x < 256) (h3 : t.length ≤ 140737488355328) => isName_any t h2 h3 w' h1)
  have HW := Lib.hid hw
  rw [Rd] at hp
  obtain ⟨A, c, rfl, hc, hcm, hr⟩ := hp
  rw [List.length_map] at hc ⊢
  have HR := Lib.hid hr
  have HSS := Lib.hid hS
  unfold headR
  clear hr hS h8 hn hw
  cases hb : isNm s with
  | false =>
    rw [hb] at HN
    clear hb HNN HW HR HSS
    go_enter Tryz.func100, Tryz.ntmps100
    go_wp2_with (first
      | (go_at_call 138
         refine HN.out.mono ?_
         rintro e w1 ⟨rfl, hb⟩)
      | (fail))
    go_ret
    exact ⟨by simp, hb⟩
  | true =>
    rw [hb] at HN
    clear hb
    by_cases hl : ps.length ≤ 30
    · rw [decide_eq_true hl, Bool.true_and, Bool.true_and]
      have hl1 : ¬ (30 : Int) < (ps.length : Int) := by omega
      have hl2 : ¬ 30 < ps.length := by omega
      obtain ⟨n, hnn⟩ : ∃ n, Hid (ps.length = n) := ⟨_, Lib.hid rfl⟩
      rw [hnn.out] at hl hl1 hl2 hc ⊢
      obtain ⟨R, hRR⟩ : ∃ R, Hid (ps.all isNm = R) := ⟨_, Lib.hid rfl⟩
      rw [hRR.out]
      go_enter Tryz.func100, Tryz.ntmps100
      go_wp2_with (first
        | (go_at_call 138
           refine HN.out.mono ?_
           rintro e w1 ⟨rfl, hb⟩
           have HB1 := Lib.hid hb
           clear hb)
        | (fail))
      go_loopg [17] n (fun g i wr => ∃ j : Nat, j + g = n ∧ i = .int .i64 (j : Int) ∧ Hid ((ps.drop j).all isNm = R) ∧ Hid (Below w.heap.size w wr))
      case atStart => exact ⟨0, by omega, rfl, Lib.hid (by rw [List.drop_zero]; exact hRR.out), HB1⟩
      case round =>
        obtain ⟨j, hj, rfl, HF, HB⟩ := hrel
        cases gk with
        | zero =>
          have h1 : ¬ (j : Int) < (n : Int) := by omega
          have HE : Hid (true = R) := Lib.hid (by rw [← HF.out, List.drop_eq_nil_of_le (by rw [hnn.out]; omega)]; rfl)
          clear HF
          go_wp2_with fail
          go_ret
          exact ⟨by rw [← HE.out]; rfl, HB.out⟩
        | succ g =>
          have h1 : (j : Int) < (n : Int) := by omega
          have h2 : j < n := by omega
          have hjl : j < ps.length := by rw [hnn.out]; exact h2
          obtain ⟨b, o, vs, rfl, hS, hvl, hrg, hx⟩ := HR.out.at j (nmNd ps[j]) (by simp [hjl])
          obtain ⟨hv, t8, tn⟩ := (nm_rd _ _).1 hx
          have hv2 : vs = [.string (strOf ps[j])] := by
            injection hv with hv
            have := congrArg Array.toList hv
            simpa using this
          subst hv2
          have c0 : wr.cell? ⟨b, o + j, none⟩ = some (.string (strOf ps[j])) := by
            have := hrg 0 _ rfl
            rw [show o + (0 + j) * 1 + 0 = o + j by omega] at this
            exact (HB.out.cell (p := ⟨b, o + j, none⟩) (HSS.out b hS)).trans this
          have HD := Lib.hid (List.drop_eq_getElem_cons hjl)
          have HT := Lib.hid (HNN.out ps[j] wr (HW.out.below HB.out) t8 tn)
          generalize ps[j] = t at *
          have HF2 := Lib.hid (HF.out.symm.trans (by rw [HD.out, List.all_cons]))
          clear hrg hx hv t8 tn HF HD hjl
          cases ht : isNm t with
          | true =>
            rw [ht] at HT HF2
            clear ht
            go_wp2_with (first
              | (go_at_call 138
                 refine HT.out.mono ?_
                 rintro e w2 ⟨rfl, hb⟩
                 have HB2 := Lib.hid (HB.out.trans (hb.mono HB.out.size))
                 clear hb)
              | (fail))
            go_roundg g
            case measure => omega
            case rel => exact ⟨j + 1, by omega, by go_num, Lib.hid (by rw [HF2.out, Bool.true_and]), HB2⟩
          | false =>
            rw [ht] at HT HF2
            clear ht
            go_wp2_with (first
              | (go_at_call 138
                 refine HT.out.mono ?_
                 rintro e w2 ⟨rfl, hb⟩
                 have HB2 := Lib.hid (HB.out.trans (hb.mono HB.out.size))
                 clear hb)
              | (fail))
            go_ret
            exact ⟨by rw [HF2.out, Bool.false_and]; rfl, HB2.out⟩
    · rw [decide_eq_false hl, Bool.and_false, Bool.false_and]
      have hl1 : (30 : Int) < (ps.length : Int) := by omega
      have hl2 : 30 < ps.length := by omega
      obtain ⟨n, hnn⟩ : ∃ n, Hid (ps.length = n) := ⟨_, Lib.hid rfl⟩
      rw [hnn.out] at hl hl1 hl2 hc ⊢
      clear HNN HW HR HSS
      go_enter Tryz.func100, Tryz.ntmps100
      go_wp2_with (first
        | (go_at_call 138
           refine HN.out.mono ?_
           rintro e w1 ⟨rfl, hb⟩)
        | (fail))
      go_ret
      exact ⟨rfl, hb⟩
end Go.Proofs.YtpakjjefbholdaaGreatDoor
