/- Package tree: an expression, a statement by itself: the walks. -/
import Derived.Test.YtpakjjefbholdaaGreatDoorUb
namespace Go.Proofs.YtpakjjefbholdaaGreatDoor
open Go.RowKit
set_option linter.unusedVariables false

set_option maxRecDepth 100000 in
set_option maxHeartbeats 8000000 in
theorem rightExpr_any (k : Nat) (s : List Nat) (n : Int) (c : Nat) (A : Option Addr) (cp : Nat) (h8 : ∀ x ∈ s, x < 256) (hn : s.length ≤ 140737488355328) (w : World) (hw : Wt w) :
    Calls Tryz.prog 174 #[.agg #[.int .u8 (k : Int), .string (strOf s), .int .i64 n, .slice A c cp]] w fun e w' => e = .returned (.bool (rightX k s n c)) ∧ Below w.heap.size w w' := by
  have HN := Lib.hid (fun w' (h' : Wt w') => isName_any s h8 hn w' h')
  have HO := Lib.hid (fun w' => isOp_any s h8 c w')
  have HW := Lib.hid (fun o => hw.below ((Below.refl w.heap.size w).alloc (Nat.le_refl _) o))
  have HB := Lib.hid (fun o => (Below.refl w.heap.size w).alloc (Nat.le_refl _) o)
  have e0 : (strOf s).toList.isEmpty = s.isEmpty := by rw [one_empty]; cases s <;> simp
  have g0 : ((c : Int) == 0) = (c == 0) := by rw [Bool.eq_iff_iff, beq_iff_eq, beq_iff_eq]; omega
  have g1 : ((c : Int) == 1) = (c == 1) := by rw [Bool.eq_iff_iff, beq_iff_eq, beq_iff_eq]; omega
  have g2 : ((c : Int) == 2) = (c == 2) := by rw [Bool.eq_iff_iff, beq_iff_eq, beq_iff_eq]; omega
  have g1' : ((c : Int) != 1) = !(c == 1) := by rw [bne, g1]
  have E1 : k = 1 → rightX k s n c = (s.isEmpty && decide (0 ≤ n) && (c == 0)) := fun hk => by subst hk; unfold rightX; by_cases hz : n = 0 <;> simp [hz]
  have E2 : k = 2 → rightX k s n c = (s.isEmpty && ((n == 0) || (n == 1)) && (c == 0)) := fun hk => by subst hk; unfold rightX; by_cases hz : n = 0 <;> simp [hz]
  have E3 : k = 3 → rightX k s n c = ((n == 0) && (c == 0)) := fun hk => by subst hk; unfold rightX; by_cases hz : n = 0 <;> simp [hz]
  have E4 : k = 4 → rightX k s n c = ((n == 0) && (isNm s && (c == 0))) := fun hk => by subst hk; unfold rightX; by_cases hz : n = 0 <;> simp [hz]
  have E5 : k = 5 → rightX k s n c = ((n == 0) && (s.isEmpty && (c == 0))) := fun hk => by subst hk; unfold rightX; by_cases hz : n = 0 <;> simp [hz]
  have E6 : k = 6 → rightX k s n c = ((n == 0) && (s.isEmpty && !(c == 1))) := fun hk => by subst hk; unfold rightX; by_cases hz : n = 0 <;> simp [hz, bne]
  have E7 : k = 7 → rightX k s n c = ((n == 0) && isOpF s c) := fun hk => by subst hk; unfold rightX; by_cases hz : n = 0 <;> simp [hz]
  have E8 : k = 8 → rightX k s n c = ((n == 0) && (s.isEmpty && (c == 2))) := fun hk => by subst hk; unfold rightX; by_cases hz : n = 0 <;> simp [hz]
  have E9 : k = 9 → rightX k s n c = ((n == 0) && (s.isEmpty && (c == 1))) := fun hk => by subst hk; unfold rightX; by_cases hz : n = 0 <;> simp [hz]
  have E10 : k = 10 → rightX k s n c = ((n == 0) && isNm s) := fun hk => by subst hk; unfold rightX; by_cases hz : n = 0 <;> simp [hz]
  have E11 : k = 11 → rightX k s n c = ((n == 0) && isNm s) := fun hk => by subst hk; unfold rightX; by_cases hz : n = 0 <;> simp [hz]
  have E12 : (k = 0 ∨ 11 < k) → rightX k s n c = false := fun hk => by unfold rightX; rw [if_neg (by omega), if_neg (by omega)]; split; rfl; rw [if_neg (by omega), if_neg (by omega), if_neg (by omega), if_neg (by omega), if_neg (by omega), if_neg (by omega), if_neg (by omega), if_neg (by omega)]
  have t1 : ((k : Int) == 1) = decide (k = 1) := by rw [Bool.eq_iff_iff, beq_iff_eq, decide_eq_true_iff]; omega
  have t2 : ((k : Int) == 2) = decide (k = 2) := by rw [Bool.eq_iff_iff, beq_iff_eq, decide_eq_true_iff]; omega
  have t3 : ((k : Int) == 3) = decide (k = 3) := by rw [Bool.eq_iff_iff, beq_iff_eq, decide_eq_true_iff]; omega
  have t4 : ((k : Int) == 4) = decide (k = 4) := by rw [Bool.eq_iff_iff, beq_iff_eq, decide_eq_true_iff]; omega
  have t5 : ((k : Int) == 5) = decide (k = 5) := by rw [Bool.eq_iff_iff, beq_iff_eq, decide_eq_true_iff]; omega
  have t6 : ((k : Int) == 6) = decide (k = 6) := by rw [Bool.eq_iff_iff, beq_iff_eq, decide_eq_true_iff]; omega
  have t7 : ((k : Int) == 7) = decide (k = 7) := by rw [Bool.eq_iff_iff, beq_iff_eq, decide_eq_true_iff]; omega
  have t8 : ((k : Int) == 8) = decide (k = 8) := by rw [Bool.eq_iff_iff, beq_iff_eq, decide_eq_true_iff]; omega
  have t9 : ((k : Int) == 9) = decide (k = 9) := by rw [Bool.eq_iff_iff, beq_iff_eq, decide_eq_true_iff]; omega
  have t10 : ((k : Int) == 10) = decide (k = 10) := by rw [Bool.eq_iff_iff, beq_iff_eq, decide_eq_true_iff]; omega
  have t11 : ((k : Int) == 11) = decide (k = 11) := by rw [Bool.eq_iff_iff, beq_iff_eq, decide_eq_true_iff]; omega
  generalize (c == 0) = c0 at *
  generalize (c == 1) = c1 at *
  generalize (c == 2) = c2 at *
  generalize s.isEmpty = bs at *
  generalize isNm s = bn at *
  generalize isOpF s c = bo at *
  generalize strOf s = S at *
  generalize rightX k s n c = RX at *
  clear h8 hn hw
  by_cases k1 : k = 1
  · have EE := E1 k1
    rw [decide_eq_true k1] at t1
    clear k1 E1 E2 E3 E4 E5 E6 E7 E8 E9 E10 E11 E12 t2 t3 t4 t5 t6 t7 t8 t9 t10 t11
    by_cases hz : 0 ≤ n
    · rw [decide_eq_true hz] at EE
      rw [EE]
      clear EE
      go_enter Tryz.func174, Tryz.ntmps174
      cases bs <;> cases c0
      all_goals
        go_wp2_with (first
          | (go_at_call 138
             refine (HN.out _ (HW.out _)).mono ?_
             rintro e w1 ⟨rfl, hb⟩
             have HB1 := Lib.hid ((HB.out _).trans (hb.mono (HB.out _).size))
             clear hb)
          | (go_at_call 207
             refine (HO.out _).mono ?_
             rintro e w1 ⟨rfl, rfl⟩)
          | (fail))
        go_ret
        first
          | exact ⟨by first | rfl | simp_all, HB1.out⟩
          | exact ⟨by first | rfl | simp_all, HB.out _⟩
    · rw [decide_eq_false hz] at EE
      rw [EE]
      clear EE
      go_enter Tryz.func174, Tryz.ntmps174
      cases bs <;> cases c0
      all_goals
        go_wp2_with (first
          | (go_at_call 138
             refine (HN.out _ (HW.out _)).mono ?_
             rintro e w1 ⟨rfl, hb⟩
             have HB1 := Lib.hid ((HB.out _).trans (hb.mono (HB.out _).size))
             clear hb)
          | (go_at_call 207
             refine (HO.out _).mono ?_
             rintro e w1 ⟨rfl, rfl⟩)
          | (fail))
        go_ret
        first
          | exact ⟨by first | rfl | simp_all, HB1.out⟩
          | exact ⟨by first | rfl | simp_all, HB.out _⟩
  · rw [decide_eq_false k1] at t1
    clear E1
    by_cases k2 : k = 2
    · have EE := E2 k2
      rw [decide_eq_true k2] at t2
      clear k2 E2 E3 E4 E5 E6 E7 E8 E9 E10 E11 E12 t3 t4 t5 t6 t7 t8 t9 t10 t11
      by_cases hz : n = 0
      · rw [show (n == 0) = true by simp [hz]] at EE
        rw [show (n == 1) = false by simp [hz]] at EE
        subst hz
        rw [EE]
        clear EE
        go_enter Tryz.func174, Tryz.ntmps174
        cases bs <;> cases c0
        all_goals
          go_wp2_with (first
            | (go_at_call 138
               refine (HN.out _ (HW.out _)).mono ?_
               rintro e w1 ⟨rfl, hb⟩
               have HB1 := Lib.hid ((HB.out _).trans (hb.mono (HB.out _).size))
               clear hb)
            | (go_at_call 207
               refine (HO.out _).mono ?_
               rintro e w1 ⟨rfl, rfl⟩)
            | (fail))
          go_ret
          first
            | exact ⟨by first | rfl | simp_all, HB1.out⟩
            | exact ⟨by first | rfl | simp_all, HB.out _⟩
      · rw [show (n == 0) = false by simp [hz]] at EE
        by_cases hy : n = 1
        · rw [show (n == 1) = true by simp [hy]] at EE
          subst hy
          rw [EE]
          clear EE
          go_enter Tryz.func174, Tryz.ntmps174
          cases bs <;> cases c0
          all_goals
            go_wp2_with (first
              | (go_at_call 138
                 refine (HN.out _ (HW.out _)).mono ?_
                 rintro e w1 ⟨rfl, hb⟩
                 have HB1 := Lib.hid ((HB.out _).trans (hb.mono (HB.out _).size))
                 clear hb)
              | (go_at_call 207
                 refine (HO.out _).mono ?_
                 rintro e w1 ⟨rfl, rfl⟩)
              | (fail))
            go_ret
            first
              | exact ⟨by first | rfl | simp_all, HB1.out⟩
              | exact ⟨by first | rfl | simp_all, HB.out _⟩
        · rw [show (n == 1) = false by simp [hy]] at EE
          rw [EE]
          clear EE
          go_enter Tryz.func174, Tryz.ntmps174
          cases bs <;> cases c0
          all_goals
            go_wp2_with (first
              | (go_at_call 138
                 refine (HN.out _ (HW.out _)).mono ?_
                 rintro e w1 ⟨rfl, hb⟩
                 have HB1 := Lib.hid ((HB.out _).trans (hb.mono (HB.out _).size))
                 clear hb)
              | (go_at_call 207
                 refine (HO.out _).mono ?_
                 rintro e w1 ⟨rfl, rfl⟩)
              | (fail))
            go_ret
            first
              | exact ⟨by first | rfl | simp_all, HB1.out⟩
              | exact ⟨by first | rfl | simp_all, HB.out _⟩
    · rw [decide_eq_false k2] at t2
      clear E2
      by_cases k3 : k = 3
      · have EE := E3 k3
        rw [decide_eq_true k3] at t3
        clear k3 E3 E4 E5 E6 E7 E8 E9 E10 E11 E12 t4 t5 t6 t7 t8 t9 t10 t11
        by_cases hz : n = 0
        · rw [show (n == 0) = true by simp [hz]] at EE
          subst hz
          rw [EE]
          clear EE
          go_enter Tryz.func174, Tryz.ntmps174
          cases c0
          all_goals
            go_wp2_with (first
              | (go_at_call 138
                 refine (HN.out _ (HW.out _)).mono ?_
                 rintro e w1 ⟨rfl, hb⟩
                 have HB1 := Lib.hid ((HB.out _).trans (hb.mono (HB.out _).size))
                 clear hb)
              | (go_at_call 207
                 refine (HO.out _).mono ?_
                 rintro e w1 ⟨rfl, rfl⟩)
              | (fail))
            go_ret
            first
              | exact ⟨by first | rfl | simp_all, HB1.out⟩
              | exact ⟨by first | rfl | simp_all, HB.out _⟩
        · rw [show (n == 0) = false by simp [hz]] at EE
          rw [EE]
          clear EE
          go_enter Tryz.func174, Tryz.ntmps174
          go_wp2_with (first
            | (go_at_call 138
               refine (HN.out _ (HW.out _)).mono ?_
               rintro e w1 ⟨rfl, hb⟩
               have HB1 := Lib.hid ((HB.out _).trans (hb.mono (HB.out _).size))
               clear hb)
            | (go_at_call 207
               refine (HO.out _).mono ?_
               rintro e w1 ⟨rfl, rfl⟩)
            | (fail))
          go_ret
          first
            | exact ⟨by first | rfl | simp_all, HB1.out⟩
            | exact ⟨by first | rfl | simp_all, HB.out _⟩
      · rw [decide_eq_false k3] at t3
        clear E3
        by_cases k4 : k = 4
        · have EE := E4 k4
          rw [decide_eq_true k4] at t4
          clear k4 E4 E5 E6 E7 E8 E9 E10 E11 E12 t5 t6 t7 t8 t9 t10 t11
          by_cases hz : n = 0
          · rw [show (n == 0) = true by simp [hz]] at EE
            subst hz
            rw [EE]
            clear EE
            go_enter Tryz.func174, Tryz.ntmps174
            cases bn <;> cases c0
            all_goals
              go_wp2_with (first
                | (go_at_call 138
                   refine (HN.out _ (HW.out _)).mono ?_
                   rintro e w1 ⟨rfl, hb⟩
                   have HB1 := Lib.hid ((HB.out _).trans (hb.mono (HB.out _).size))
                   clear hb)
                | (go_at_call 207
                   refine (HO.out _).mono ?_
                   rintro e w1 ⟨rfl, rfl⟩)
                | (fail))
              go_ret
              first
                | exact ⟨by first | rfl | simp_all, HB1.out⟩
                | exact ⟨by first | rfl | simp_all, HB.out _⟩
          · rw [show (n == 0) = false by simp [hz]] at EE
            rw [EE]
            clear EE
            go_enter Tryz.func174, Tryz.ntmps174
            go_wp2_with (first
              | (go_at_call 138
                 refine (HN.out _ (HW.out _)).mono ?_
                 rintro e w1 ⟨rfl, hb⟩
                 have HB1 := Lib.hid ((HB.out _).trans (hb.mono (HB.out _).size))
                 clear hb)
              | (go_at_call 207
                 refine (HO.out _).mono ?_
                 rintro e w1 ⟨rfl, rfl⟩)
              | (fail))
            go_ret
            first
              | exact ⟨by first | rfl | simp_all, HB1.out⟩
              | exact ⟨by first | rfl | simp_all, HB.out _⟩
        · rw [decide_eq_false k4] at t4
          clear E4
          by_cases k5 : k = 5
          · have EE := E5 k5
            rw [decide_eq_true k5] at t5
            clear k5 E5 E6 E7 E8 E9 E10 E11 E12 t6 t7 t8 t9 t10 t11
            by_cases hz : n = 0
            · rw [show (n == 0) = true by simp [hz]] at EE
              subst hz
              rw [EE]
              clear EE
              go_enter Tryz.func174, Tryz.ntmps174
              cases bs <;> cases c0
              all_goals
                go_wp2_with (first
                  | (go_at_call 138
                     refine (HN.out _ (HW.out _)).mono ?_
                     rintro e w1 ⟨rfl, hb⟩
                     have HB1 := Lib.hid ((HB.out _).trans (hb.mono (HB.out _).size))
                     clear hb)
                  | (go_at_call 207
                     refine (HO.out _).mono ?_
                     rintro e w1 ⟨rfl, rfl⟩)
                  | (fail))
                go_ret
                first
                  | exact ⟨by first | rfl | simp_all, HB1.out⟩
                  | exact ⟨by first | rfl | simp_all, HB.out _⟩
            · rw [show (n == 0) = false by simp [hz]] at EE
              rw [EE]
              clear EE
              go_enter Tryz.func174, Tryz.ntmps174
              go_wp2_with (first
                | (go_at_call 138
                   refine (HN.out _ (HW.out _)).mono ?_
                   rintro e w1 ⟨rfl, hb⟩
                   have HB1 := Lib.hid ((HB.out _).trans (hb.mono (HB.out _).size))
                   clear hb)
                | (go_at_call 207
                   refine (HO.out _).mono ?_
                   rintro e w1 ⟨rfl, rfl⟩)
                | (fail))
              go_ret
              first
                | exact ⟨by first | rfl | simp_all, HB1.out⟩
                | exact ⟨by first | rfl | simp_all, HB.out _⟩
          · rw [decide_eq_false k5] at t5
            clear E5
            by_cases k6 : k = 6
            · have EE := E6 k6
              rw [decide_eq_true k6] at t6
              clear k6 E6 E7 E8 E9 E10 E11 E12 t7 t8 t9 t10 t11
              by_cases hz : n = 0
              · rw [show (n == 0) = true by simp [hz]] at EE
                subst hz
                rw [EE]
                clear EE
                go_enter Tryz.func174, Tryz.ntmps174
                cases bs <;> cases c1
                all_goals
                  go_wp2_with (first
                    | (go_at_call 138
                       refine (HN.out _ (HW.out _)).mono ?_
                       rintro e w1 ⟨rfl, hb⟩
                       have HB1 := Lib.hid ((HB.out _).trans (hb.mono (HB.out _).size))
                       clear hb)
                    | (go_at_call 207
                       refine (HO.out _).mono ?_
                       rintro e w1 ⟨rfl, rfl⟩)
                    | (fail))
                  go_ret
                  first
                    | exact ⟨by first | rfl | simp_all, HB1.out⟩
                    | exact ⟨by first | rfl | simp_all, HB.out _⟩
              · rw [show (n == 0) = false by simp [hz]] at EE
                rw [EE]
                clear EE
                go_enter Tryz.func174, Tryz.ntmps174
                go_wp2_with (first
                  | (go_at_call 138
                     refine (HN.out _ (HW.out _)).mono ?_
                     rintro e w1 ⟨rfl, hb⟩
                     have HB1 := Lib.hid ((HB.out _).trans (hb.mono (HB.out _).size))
                     clear hb)
                  | (go_at_call 207
                     refine (HO.out _).mono ?_
                     rintro e w1 ⟨rfl, rfl⟩)
                  | (fail))
                go_ret
                first
                  | exact ⟨by first | rfl | simp_all, HB1.out⟩
                  | exact ⟨by first | rfl | simp_all, HB.out _⟩
            · rw [decide_eq_false k6] at t6
              clear E6
              by_cases k7 : k = 7
              · have EE := E7 k7
                rw [decide_eq_true k7] at t7
                clear k7 E7 E8 E9 E10 E11 E12 t8 t9 t10 t11
                by_cases hz : n = 0
                · rw [show (n == 0) = true by simp [hz]] at EE
                  subst hz
                  rw [EE]
                  clear EE
                  go_enter Tryz.func174, Tryz.ntmps174
                  cases bo
                  all_goals
                    go_wp2_with (first
                      | (go_at_call 138
                         refine (HN.out _ (HW.out _)).mono ?_
                         rintro e w1 ⟨rfl, hb⟩
                         have HB1 := Lib.hid ((HB.out _).trans (hb.mono (HB.out _).size))
                         clear hb)
                      | (go_at_call 207
                         refine (HO.out _).mono ?_
                         rintro e w1 ⟨rfl, rfl⟩)
                      | (fail))
                    go_ret
                    first
                      | exact ⟨by first | rfl | simp_all, HB1.out⟩
                      | exact ⟨by first | rfl | simp_all, HB.out _⟩
                · rw [show (n == 0) = false by simp [hz]] at EE
                  rw [EE]
                  clear EE
                  go_enter Tryz.func174, Tryz.ntmps174
                  go_wp2_with (first
                    | (go_at_call 138
                       refine (HN.out _ (HW.out _)).mono ?_
                       rintro e w1 ⟨rfl, hb⟩
                       have HB1 := Lib.hid ((HB.out _).trans (hb.mono (HB.out _).size))
                       clear hb)
                    | (go_at_call 207
                       refine (HO.out _).mono ?_
                       rintro e w1 ⟨rfl, rfl⟩)
                    | (fail))
                  go_ret
                  first
                    | exact ⟨by first | rfl | simp_all, HB1.out⟩
                    | exact ⟨by first | rfl | simp_all, HB.out _⟩
              · rw [decide_eq_false k7] at t7
                clear E7
                by_cases k8 : k = 8
                · have EE := E8 k8
                  rw [decide_eq_true k8] at t8
                  clear k8 E8 E9 E10 E11 E12 t9 t10 t11
                  by_cases hz : n = 0
                  · rw [show (n == 0) = true by simp [hz]] at EE
                    subst hz
                    rw [EE]
                    clear EE
                    go_enter Tryz.func174, Tryz.ntmps174
                    cases bs <;> cases c2
                    all_goals
                      go_wp2_with (first
                        | (go_at_call 138
                           refine (HN.out _ (HW.out _)).mono ?_
                           rintro e w1 ⟨rfl, hb⟩
                           have HB1 := Lib.hid ((HB.out _).trans (hb.mono (HB.out _).size))
                           clear hb)
                        | (go_at_call 207
                           refine (HO.out _).mono ?_
                           rintro e w1 ⟨rfl, rfl⟩)
                        | (fail))
                      go_ret
                      first
                        | exact ⟨by first | rfl | simp_all, HB1.out⟩
                        | exact ⟨by first | rfl | simp_all, HB.out _⟩
                  · rw [show (n == 0) = false by simp [hz]] at EE
                    rw [EE]
                    clear EE
                    go_enter Tryz.func174, Tryz.ntmps174
                    go_wp2_with (first
                      | (go_at_call 138
                         refine (HN.out _ (HW.out _)).mono ?_
                         rintro e w1 ⟨rfl, hb⟩
                         have HB1 := Lib.hid ((HB.out _).trans (hb.mono (HB.out _).size))
                         clear hb)
                      | (go_at_call 207
                         refine (HO.out _).mono ?_
                         rintro e w1 ⟨rfl, rfl⟩)
                      | (fail))
                    go_ret
                    first
                      | exact ⟨by first | rfl | simp_all, HB1.out⟩
                      | exact ⟨by first | rfl | simp_all, HB.out _⟩
                · rw [decide_eq_false k8] at t8
                  clear E8
                  by_cases k9 : k = 9
                  · have EE := E9 k9
                    rw [decide_eq_true k9] at t9
                    clear k9 E9 E10 E11 E12 t10 t11
                    by_cases hz : n = 0
                    · rw [show (n == 0) = true by simp [hz]] at EE
                      subst hz
                      rw [EE]
                      clear EE
                      go_enter Tryz.func174, Tryz.ntmps174
                      cases bs <;> cases c1
                      all_goals
                        go_wp2_with (first
                          | (go_at_call 138
                             refine (HN.out _ (HW.out _)).mono ?_
                             rintro e w1 ⟨rfl, hb⟩
                             have HB1 := Lib.hid ((HB.out _).trans (hb.mono (HB.out _).size))
                             clear hb)
                          | (go_at_call 207
                             refine (HO.out _).mono ?_
                             rintro e w1 ⟨rfl, rfl⟩)
                          | (fail))
                        go_ret
                        first
                          | exact ⟨by first | rfl | simp_all, HB1.out⟩
                          | exact ⟨by first | rfl | simp_all, HB.out _⟩
                    · rw [show (n == 0) = false by simp [hz]] at EE
                      rw [EE]
                      clear EE
                      go_enter Tryz.func174, Tryz.ntmps174
                      go_wp2_with (first
                        | (go_at_call 138
                           refine (HN.out _ (HW.out _)).mono ?_
                           rintro e w1 ⟨rfl, hb⟩
                           have HB1 := Lib.hid ((HB.out _).trans (hb.mono (HB.out _).size))
                           clear hb)
                        | (go_at_call 207
                           refine (HO.out _).mono ?_
                           rintro e w1 ⟨rfl, rfl⟩)
                        | (fail))
                      go_ret
                      first
                        | exact ⟨by first | rfl | simp_all, HB1.out⟩
                        | exact ⟨by first | rfl | simp_all, HB.out _⟩
                  · rw [decide_eq_false k9] at t9
                    clear E9
                    by_cases k10 : k = 10
                    · have EE := E10 k10
                      rw [decide_eq_true k10] at t10
                      clear k10 E10 E11 E12 t11
                      by_cases hz : n = 0
                      · rw [show (n == 0) = true by simp [hz]] at EE
                        subst hz
                        rw [EE]
                        clear EE
                        go_enter Tryz.func174, Tryz.ntmps174
                        cases bn
                        all_goals
                          go_wp2_with (first
                            | (go_at_call 138
                               refine (HN.out _ (HW.out _)).mono ?_
                               rintro e w1 ⟨rfl, hb⟩
                               have HB1 := Lib.hid ((HB.out _).trans (hb.mono (HB.out _).size))
                               clear hb)
                            | (go_at_call 207
                               refine (HO.out _).mono ?_
                               rintro e w1 ⟨rfl, rfl⟩)
                            | (fail))
                          go_ret
                          first
                            | exact ⟨by first | rfl | simp_all, HB1.out⟩
                            | exact ⟨by first | rfl | simp_all, HB.out _⟩
                      · rw [show (n == 0) = false by simp [hz]] at EE
                        rw [EE]
                        clear EE
                        go_enter Tryz.func174, Tryz.ntmps174
                        go_wp2_with (first
                          | (go_at_call 138
                             refine (HN.out _ (HW.out _)).mono ?_
                             rintro e w1 ⟨rfl, hb⟩
                             have HB1 := Lib.hid ((HB.out _).trans (hb.mono (HB.out _).size))
                             clear hb)
                          | (go_at_call 207
                             refine (HO.out _).mono ?_
                             rintro e w1 ⟨rfl, rfl⟩)
                          | (fail))
                        go_ret
                        first
                          | exact ⟨by first | rfl | simp_all, HB1.out⟩
                          | exact ⟨by first | rfl | simp_all, HB.out _⟩
                    · rw [decide_eq_false k10] at t10
                      clear E10
                      by_cases k11 : k = 11
                      · have EE := E11 k11
                        rw [decide_eq_true k11] at t11
                        clear k11 E11 E12 
                        by_cases hz : n = 0
                        · rw [show (n == 0) = true by simp [hz]] at EE
                          subst hz
                          rw [EE]
                          clear EE
                          go_enter Tryz.func174, Tryz.ntmps174
                          cases bn
                          all_goals
                            go_wp2_with (first
                              | (go_at_call 138
                                 refine (HN.out _ (HW.out _)).mono ?_
                                 rintro e w1 ⟨rfl, hb⟩
                                 have HB1 := Lib.hid ((HB.out _).trans (hb.mono (HB.out _).size))
                                 clear hb)
                              | (go_at_call 207
                                 refine (HO.out _).mono ?_
                                 rintro e w1 ⟨rfl, rfl⟩)
                              | (fail))
                            go_ret
                            first
                              | exact ⟨by first | rfl | simp_all, HB1.out⟩
                              | exact ⟨by first | rfl | simp_all, HB.out _⟩
                        · rw [show (n == 0) = false by simp [hz]] at EE
                          rw [EE]
                          clear EE
                          go_enter Tryz.func174, Tryz.ntmps174
                          go_wp2_with (first
                            | (go_at_call 138
                               refine (HN.out _ (HW.out _)).mono ?_
                               rintro e w1 ⟨rfl, hb⟩
                               have HB1 := Lib.hid ((HB.out _).trans (hb.mono (HB.out _).size))
                               clear hb)
                            | (go_at_call 207
                               refine (HO.out _).mono ?_
                               rintro e w1 ⟨rfl, rfl⟩)
                            | (fail))
                          go_ret
                          first
                            | exact ⟨by first | rfl | simp_all, HB1.out⟩
                            | exact ⟨by first | rfl | simp_all, HB.out _⟩
                      · rw [decide_eq_false k11] at t11
                        clear E11
                        have EE := E12 (by omega)
                        clear E12 k1 k2 k3 k4 k5 k6 k7 k8 k9 k10 k11
                        rw [EE]
                        clear EE
                        go_enter Tryz.func174, Tryz.ntmps174
                        by_cases hz : n = 0
                        all_goals
                          go_wp2_with (first
                            | (go_at_call 138
                               refine (HN.out _ (HW.out _)).mono ?_
                               rintro e w1 ⟨rfl, hb⟩
                               have HB1 := Lib.hid ((HB.out _).trans (hb.mono (HB.out _).size))
                               clear hb)
                            | (go_at_call 207
                               refine (HO.out _).mono ?_
                               rintro e w1 ⟨rfl, rfl⟩)
                            | (fail))
                          go_ret
                          exact ⟨by first | rfl | simp_all, HB.out _⟩
end Go.Proofs.YtpakjjefbholdaaGreatDoor
