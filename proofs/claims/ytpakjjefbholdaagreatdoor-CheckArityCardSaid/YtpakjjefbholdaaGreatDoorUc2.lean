/- Package tree: a statement by itself: the walk. -/
import Derived.Test.YtpakjjefbholdaaGreatDoorUb
import Derived.Deep.Quiet
namespace Go.Proofs.YtpakjjefbholdaaGreatDoor
open Go.RowKit
set_option linter.unusedVariables false

set_option maxRecDepth 100000 in
set_option maxHeartbeats 8000000 in
theorem rightStmt_any (k : Nat) (s : List Nat) (x b c : Nat) (A1 A2 A3 : Option Addr) (c1 c2 c3 : Nat) (ln : Int) (h8 : ∀ x ∈ s, x < 256) (hn : s.length ≤ 140737488355328) (w : World) (hw : Wt w) :
    Calls Tryz.prog 140 #[.agg #[.int .u8 (k : Int), .string (strOf s), .slice A1 x c1, .slice A2 b c2, .slice A3 c c3, .int .i64 ln]] w fun e w' => e = .returned (.bool (rightS k s x b c)) ∧ Below w.heap.size w w' := by
  have HN := Lib.hid (fun w' (h' : Wt w') => isName_any s h8 hn w' h')
  have HW := Lib.hid (fun o k => hw.below (below_drewN ((Below.refl w.heap.size w).alloc (Nat.le_refl _) o) k))
  have HB := Lib.hid (fun o k => below_drewN ((Below.refl w.heap.size w).alloc (Nat.le_refl _) o) k)
  have e0 : (strOf s).toList.isEmpty = s.isEmpty := by rw [one_empty]; cases s <;> simp
  have g0 : ((x : Int) == 0) = (x == 0) := by rw [Bool.eq_iff_iff, beq_iff_eq, beq_iff_eq]; omega
  have g1 : ((x : Int) == 1) = (x == 1) := by rw [Bool.eq_iff_iff, beq_iff_eq, beq_iff_eq]; omega
  have g2 : decide ((1 : Int) ≤ (x : Int)) = decide (1 ≤ x) := by rw [Bool.eq_iff_iff, decide_eq_true_iff, decide_eq_true_iff]; omega
  have g3 : ((c : Int) == 0) = (c == 0) := by rw [Bool.eq_iff_iff, beq_iff_eq, beq_iff_eq]; omega
  have E3 : k = 3 → rightS k s x b c = (s.isEmpty && (x == 1)) := fun hk => by subst hk; simp [rightS]
  have E4 : k = 4 → rightS k s x b c = (s.isEmpty && (x == 1) && (c == 0)) := fun hk => by subst hk; simp [rightS]
  have EB : k ≠ 3 → k ≠ 4 → (0 < b ∨ 0 < c) → rightS k s x b c = false := fun h3 h4 hh => by unfold rightS; rw [if_neg h3, if_neg h4, if_pos hh]
  have E1 : k = 1 → ¬ (0 < b ∨ 0 < c) → rightS k s x b c = (isNm s && (x == 1)) := fun hk hh => by subst hk; unfold rightS; rw [if_neg (by decide), if_neg (by decide), if_neg hh]; simp
  have E2 : k = 2 → ¬ (0 < b ∨ 0 < c) → rightS k s x b c = (isNm s && (x == 1)) := fun hk hh => by subst hk; unfold rightS; rw [if_neg (by decide), if_neg (by decide), if_neg hh]; simp
  have E5 : k = 5 → ¬ (0 < b ∨ 0 < c) → rightS k s x b c = (s.isEmpty && (x == 1)) := fun hk hh => by subst hk; unfold rightS; rw [if_neg (by decide), if_neg (by decide), if_neg hh]; simp
  have E9 : k = 9 → ¬ (0 < b ∨ 0 < c) → rightS k s x b c = (s.isEmpty && (x == 1)) := fun hk hh => by subst hk; unfold rightS; rw [if_neg (by decide), if_neg (by decide), if_neg hh]; simp
  have E6 : k = 6 → ¬ (0 < b ∨ 0 < c) → rightS k s x b c = (isNm s && decide (1 ≤ x)) := fun hk hh => by subst hk; unfold rightS; rw [if_neg (by decide), if_neg (by decide), if_neg hh]; simp
  have E7 : k = 7 → ¬ (0 < b ∨ 0 < c) → rightS k s x b c = (isNm s) := fun hk hh => by subst hk; unfold rightS; rw [if_neg (by decide), if_neg (by decide), if_neg hh]; simp
  have E8 : k = 8 → ¬ (0 < b ∨ 0 < c) → rightS k s x b c = (s.isEmpty && (x == 0)) := fun hk hh => by subst hk; unfold rightS; rw [if_neg (by decide), if_neg (by decide), if_neg hh]; simp
  have E12 : (k = 0 ∨ 9 < k) → ¬ (0 < b ∨ 0 < c) → rightS k s x b c = false := fun hk hh => by unfold rightS; rw [if_neg (by omega), if_neg (by omega), if_neg hh, if_neg (by omega), if_neg (by omega), if_neg (by omega), if_neg (by omega), if_neg (by omega)]
  have t1 : ((k : Int) == 1) = decide (k = 1) := by rw [Bool.eq_iff_iff, beq_iff_eq, decide_eq_true_iff]; omega
  have t2 : ((k : Int) == 2) = decide (k = 2) := by rw [Bool.eq_iff_iff, beq_iff_eq, decide_eq_true_iff]; omega
  have t3 : ((k : Int) == 3) = decide (k = 3) := by rw [Bool.eq_iff_iff, beq_iff_eq, decide_eq_true_iff]; omega
  have t4 : ((k : Int) == 4) = decide (k = 4) := by rw [Bool.eq_iff_iff, beq_iff_eq, decide_eq_true_iff]; omega
  have t5 : ((k : Int) == 5) = decide (k = 5) := by rw [Bool.eq_iff_iff, beq_iff_eq, decide_eq_true_iff]; omega
  have t6 : ((k : Int) == 6) = decide (k = 6) := by rw [Bool.eq_iff_iff, beq_iff_eq, decide_eq_true_iff]; omega
  have t7 : ((k : Int) == 7) = decide (k = 7) := by rw [Bool.eq_iff_iff, beq_iff_eq, decide_eq_true_iff]; omega
  have t8 : ((k : Int) == 8) = decide (k = 8) := by rw [Bool.eq_iff_iff, beq_iff_eq, decide_eq_true_iff]; omega
  have t9 : ((k : Int) == 9) = decide (k = 9) := by rw [Bool.eq_iff_iff, beq_iff_eq, decide_eq_true_iff]; omega
  generalize (x == 0) = x0 at *
  generalize (x == 1) = x1 at *
  generalize decide (1 ≤ x) = xg at *
  generalize (c == 0) = c0 at *
  generalize s.isEmpty = bs at *
  generalize isNm s = bn at *
  generalize strOf s = S at *
  generalize rightS k s x b c = RX at *
  clear h8 hn hw
  by_cases k3 : k = 3
  · have EE := E3 k3
    rw [decide_eq_true k3] at t3
    clear k3 EB E3 E4 E1 E2 E5 E6 E7 E8 E9 E12 t1 t2 t4 t5 t6 t7 t8 t9
    rw [EE]
    clear EE
    go_enter Tryz.func140, Tryz.ntmps140
    go_wp2_with fail
    go_quiet (fail)
    cases bs <;> cases x1
    all_goals
      go_wp2_with (first
        | (go_at_call 138
           refine (HN.out _ (HW.out _ _)).mono ?_
           rintro e w1 ⟨rfl, hb⟩
           have HB1 := Lib.hid ((HB.out _ _).trans (hb.mono (HB.out _ _).size))
           clear hb)
        | (fail))
      go_ret
      first
        | exact ⟨by first | rfl | simp_all, HB1.out⟩
        | exact ⟨by first | rfl | simp_all, HB.out _ _⟩
  · rw [decide_eq_false k3] at t3
    clear E3
    by_cases k4 : k = 4
    · have EE := E4 k4
      rw [decide_eq_true k4] at t4
      clear k4 EB E4 E1 E2 E5 E6 E7 E8 E9 E12 t1 t2 t5 t6 t7 t8 t9
      rw [EE]
      clear EE
      go_enter Tryz.func140, Tryz.ntmps140
      go_wp2_with fail
      go_quiet (fail)
      cases bs <;> cases x1 <;> cases c0
      all_goals
        go_wp2_with (first
          | (go_at_call 138
             refine (HN.out _ (HW.out _ _)).mono ?_
             rintro e w1 ⟨rfl, hb⟩
             have HB1 := Lib.hid ((HB.out _ _).trans (hb.mono (HB.out _ _).size))
             clear hb)
          | (fail))
        go_ret
        first
          | exact ⟨by first | rfl | simp_all, HB1.out⟩
          | exact ⟨by first | rfl | simp_all, HB.out _ _⟩
    · rw [decide_eq_false k4] at t4
      clear E4
      by_cases k1 : k = 1
      · have EB2 := EB (by omega) (by omega)
        have EN := E1 k1
        rw [decide_eq_true k1] at t1
        clear k1 EB E1 E2 E5 E6 E7 E8 E9 E12 t2 t5 t6 t7 t8 t9
        by_cases hb0 : 0 < b
        · have EE := EB2 (.inl hb0)
          clear EB2 EN
          have hb1 : (0 : Int) < (b : Int) := by omega
          rw [EE]
          clear EE
          go_enter Tryz.func140, Tryz.ntmps140
          go_wp2_with fail
          go_quiet (fail)
          go_wp2_with (first
            | (go_at_call 138
               refine (HN.out _ (HW.out _ _)).mono ?_
               rintro e w1 ⟨rfl, hb⟩
               have HB1 := Lib.hid ((HB.out _ _).trans (hb.mono (HB.out _ _).size))
               clear hb)
            | (fail))
          go_ret
          first
            | exact ⟨by first | rfl | simp_all, HB1.out⟩
            | exact ⟨by first | rfl | simp_all, HB.out _ _⟩
        · have hb1 : ¬ (0 : Int) < (b : Int) := by omega
          by_cases hc0 : 0 < c
          · have EE := EB2 (.inr hc0)
            clear EB2 EN
            have hc1 : (0 : Int) < (c : Int) := by omega
            rw [EE]
            clear EE
            go_enter Tryz.func140, Tryz.ntmps140
            go_wp2_with fail
            go_quiet (fail)
            go_wp2_with (first
              | (go_at_call 138
                 refine (HN.out _ (HW.out _ _)).mono ?_
                 rintro e w1 ⟨rfl, hb⟩
                 have HB1 := Lib.hid ((HB.out _ _).trans (hb.mono (HB.out _ _).size))
                 clear hb)
              | (fail))
            go_ret
            first
              | exact ⟨by first | rfl | simp_all, HB1.out⟩
              | exact ⟨by first | rfl | simp_all, HB.out _ _⟩
          · have EE := EN (by omega)
            clear EB2 EN
            have hc1 : ¬ (0 : Int) < (c : Int) := by omega
            rw [EE]
            clear EE
            go_enter Tryz.func140, Tryz.ntmps140
            go_wp2_with fail
            go_quiet (fail)
            cases bn <;> cases x1
            all_goals
              go_wp2_with (first
                | (go_at_call 138
                   refine (HN.out _ (HW.out _ _)).mono ?_
                   rintro e w1 ⟨rfl, hb⟩
                   have HB1 := Lib.hid ((HB.out _ _).trans (hb.mono (HB.out _ _).size))
                   clear hb)
                | (fail))
              go_ret
              first
                | exact ⟨by first | rfl | simp_all, HB1.out⟩
                | exact ⟨by first | rfl | simp_all, HB.out _ _⟩
      · rw [decide_eq_false k1] at t1
        clear E1
        by_cases k2 : k = 2
        · have EB2 := EB (by omega) (by omega)
          have EN := E2 k2
          rw [decide_eq_true k2] at t2
          clear k2 EB E2 E5 E6 E7 E8 E9 E12 t5 t6 t7 t8 t9
          by_cases hb0 : 0 < b
          · have EE := EB2 (.inl hb0)
            clear EB2 EN
            have hb1 : (0 : Int) < (b : Int) := by omega
            rw [EE]
            clear EE
            go_enter Tryz.func140, Tryz.ntmps140
            go_wp2_with fail
            go_quiet (fail)
            go_wp2_with (first
              | (go_at_call 138
                 refine (HN.out _ (HW.out _ _)).mono ?_
                 rintro e w1 ⟨rfl, hb⟩
                 have HB1 := Lib.hid ((HB.out _ _).trans (hb.mono (HB.out _ _).size))
                 clear hb)
              | (fail))
            go_ret
            first
              | exact ⟨by first | rfl | simp_all, HB1.out⟩
              | exact ⟨by first | rfl | simp_all, HB.out _ _⟩
          · have hb1 : ¬ (0 : Int) < (b : Int) := by omega
            by_cases hc0 : 0 < c
            · have EE := EB2 (.inr hc0)
              clear EB2 EN
              have hc1 : (0 : Int) < (c : Int) := by omega
              rw [EE]
              clear EE
              go_enter Tryz.func140, Tryz.ntmps140
              go_wp2_with fail
              go_quiet (fail)
              go_wp2_with (first
                | (go_at_call 138
                   refine (HN.out _ (HW.out _ _)).mono ?_
                   rintro e w1 ⟨rfl, hb⟩
                   have HB1 := Lib.hid ((HB.out _ _).trans (hb.mono (HB.out _ _).size))
                   clear hb)
                | (fail))
              go_ret
              first
                | exact ⟨by first | rfl | simp_all, HB1.out⟩
                | exact ⟨by first | rfl | simp_all, HB.out _ _⟩
            · have EE := EN (by omega)
              clear EB2 EN
              have hc1 : ¬ (0 : Int) < (c : Int) := by omega
              rw [EE]
              clear EE
              go_enter Tryz.func140, Tryz.ntmps140
              go_wp2_with fail
              go_quiet (fail)
              cases bn <;> cases x1
              all_goals
                go_wp2_with (first
                  | (go_at_call 138
                     refine (HN.out _ (HW.out _ _)).mono ?_
                     rintro e w1 ⟨rfl, hb⟩
                     have HB1 := Lib.hid ((HB.out _ _).trans (hb.mono (HB.out _ _).size))
                     clear hb)
                  | (fail))
                go_ret
                first
                  | exact ⟨by first | rfl | simp_all, HB1.out⟩
                  | exact ⟨by first | rfl | simp_all, HB.out _ _⟩
        · rw [decide_eq_false k2] at t2
          clear E2
          by_cases k5 : k = 5
          · have EB2 := EB (by omega) (by omega)
            have EN := E5 k5
            rw [decide_eq_true k5] at t5
            clear k5 EB E5 E6 E7 E8 E9 E12 t6 t7 t8 t9
            by_cases hb0 : 0 < b
            · have EE := EB2 (.inl hb0)
              clear EB2 EN
              have hb1 : (0 : Int) < (b : Int) := by omega
              rw [EE]
              clear EE
              go_enter Tryz.func140, Tryz.ntmps140
              go_wp2_with fail
              go_quiet (fail)
              go_wp2_with (first
                | (go_at_call 138
                   refine (HN.out _ (HW.out _ _)).mono ?_
                   rintro e w1 ⟨rfl, hb⟩
                   have HB1 := Lib.hid ((HB.out _ _).trans (hb.mono (HB.out _ _).size))
                   clear hb)
                | (fail))
              go_ret
              first
                | exact ⟨by first | rfl | simp_all, HB1.out⟩
                | exact ⟨by first | rfl | simp_all, HB.out _ _⟩
            · have hb1 : ¬ (0 : Int) < (b : Int) := by omega
              by_cases hc0 : 0 < c
              · have EE := EB2 (.inr hc0)
                clear EB2 EN
                have hc1 : (0 : Int) < (c : Int) := by omega
                rw [EE]
                clear EE
                go_enter Tryz.func140, Tryz.ntmps140
                go_wp2_with fail
                go_quiet (fail)
                go_wp2_with (first
                  | (go_at_call 138
                     refine (HN.out _ (HW.out _ _)).mono ?_
                     rintro e w1 ⟨rfl, hb⟩
                     have HB1 := Lib.hid ((HB.out _ _).trans (hb.mono (HB.out _ _).size))
                     clear hb)
                  | (fail))
                go_ret
                first
                  | exact ⟨by first | rfl | simp_all, HB1.out⟩
                  | exact ⟨by first | rfl | simp_all, HB.out _ _⟩
              · have EE := EN (by omega)
                clear EB2 EN
                have hc1 : ¬ (0 : Int) < (c : Int) := by omega
                rw [EE]
                clear EE
                go_enter Tryz.func140, Tryz.ntmps140
                go_wp2_with fail
                go_quiet (fail)
                cases bs <;> cases x1
                all_goals
                  go_wp2_with (first
                    | (go_at_call 138
                       refine (HN.out _ (HW.out _ _)).mono ?_
                       rintro e w1 ⟨rfl, hb⟩
                       have HB1 := Lib.hid ((HB.out _ _).trans (hb.mono (HB.out _ _).size))
                       clear hb)
                    | (fail))
                  go_ret
                  first
                    | exact ⟨by first | rfl | simp_all, HB1.out⟩
                    | exact ⟨by first | rfl | simp_all, HB.out _ _⟩
          · rw [decide_eq_false k5] at t5
            clear E5
            by_cases k6 : k = 6
            · have EB2 := EB (by omega) (by omega)
              have EN := E6 k6
              rw [decide_eq_true k6] at t6
              clear k6 EB E6 E7 E8 E9 E12 t7 t8 t9
              by_cases hb0 : 0 < b
              · have EE := EB2 (.inl hb0)
                clear EB2 EN
                have hb1 : (0 : Int) < (b : Int) := by omega
                rw [EE]
                clear EE
                go_enter Tryz.func140, Tryz.ntmps140
                go_wp2_with fail
                go_quiet (fail)
                go_wp2_with (first
                  | (go_at_call 138
                     refine (HN.out _ (HW.out _ _)).mono ?_
                     rintro e w1 ⟨rfl, hb⟩
                     have HB1 := Lib.hid ((HB.out _ _).trans (hb.mono (HB.out _ _).size))
                     clear hb)
                  | (fail))
                go_ret
                first
                  | exact ⟨by first | rfl | simp_all, HB1.out⟩
                  | exact ⟨by first | rfl | simp_all, HB.out _ _⟩
              · have hb1 : ¬ (0 : Int) < (b : Int) := by omega
                by_cases hc0 : 0 < c
                · have EE := EB2 (.inr hc0)
                  clear EB2 EN
                  have hc1 : (0 : Int) < (c : Int) := by omega
                  rw [EE]
                  clear EE
                  go_enter Tryz.func140, Tryz.ntmps140
                  go_wp2_with fail
                  go_quiet (fail)
                  go_wp2_with (first
                    | (go_at_call 138
                       refine (HN.out _ (HW.out _ _)).mono ?_
                       rintro e w1 ⟨rfl, hb⟩
                       have HB1 := Lib.hid ((HB.out _ _).trans (hb.mono (HB.out _ _).size))
                       clear hb)
                    | (fail))
                  go_ret
                  first
                    | exact ⟨by first | rfl | simp_all, HB1.out⟩
                    | exact ⟨by first | rfl | simp_all, HB.out _ _⟩
                · have EE := EN (by omega)
                  clear EB2 EN
                  have hc1 : ¬ (0 : Int) < (c : Int) := by omega
                  rw [EE]
                  clear EE
                  go_enter Tryz.func140, Tryz.ntmps140
                  go_wp2_with fail
                  go_quiet (fail)
                  cases bn <;> cases xg
                  all_goals
                    go_wp2_with (first
                      | (go_at_call 138
                         refine (HN.out _ (HW.out _ _)).mono ?_
                         rintro e w1 ⟨rfl, hb⟩
                         have HB1 := Lib.hid ((HB.out _ _).trans (hb.mono (HB.out _ _).size))
                         clear hb)
                      | (fail))
                    go_ret
                    first
                      | exact ⟨by first | rfl | simp_all, HB1.out⟩
                      | exact ⟨by first | rfl | simp_all, HB.out _ _⟩
            · rw [decide_eq_false k6] at t6
              clear E6
              by_cases k7 : k = 7
              · have EB2 := EB (by omega) (by omega)
                have EN := E7 k7
                rw [decide_eq_true k7] at t7
                clear k7 EB E7 E8 E9 E12 t8 t9
                by_cases hb0 : 0 < b
                · have EE := EB2 (.inl hb0)
                  clear EB2 EN
                  have hb1 : (0 : Int) < (b : Int) := by omega
                  rw [EE]
                  clear EE
                  go_enter Tryz.func140, Tryz.ntmps140
                  go_wp2_with fail
                  go_quiet (fail)
                  go_wp2_with (first
                    | (go_at_call 138
                       refine (HN.out _ (HW.out _ _)).mono ?_
                       rintro e w1 ⟨rfl, hb⟩
                       have HB1 := Lib.hid ((HB.out _ _).trans (hb.mono (HB.out _ _).size))
                       clear hb)
                    | (fail))
                  go_ret
                  first
                    | exact ⟨by first | rfl | simp_all, HB1.out⟩
                    | exact ⟨by first | rfl | simp_all, HB.out _ _⟩
                · have hb1 : ¬ (0 : Int) < (b : Int) := by omega
                  by_cases hc0 : 0 < c
                  · have EE := EB2 (.inr hc0)
                    clear EB2 EN
                    have hc1 : (0 : Int) < (c : Int) := by omega
                    rw [EE]
                    clear EE
                    go_enter Tryz.func140, Tryz.ntmps140
                    go_wp2_with fail
                    go_quiet (fail)
                    go_wp2_with (first
                      | (go_at_call 138
                         refine (HN.out _ (HW.out _ _)).mono ?_
                         rintro e w1 ⟨rfl, hb⟩
                         have HB1 := Lib.hid ((HB.out _ _).trans (hb.mono (HB.out _ _).size))
                         clear hb)
                      | (fail))
                    go_ret
                    first
                      | exact ⟨by first | rfl | simp_all, HB1.out⟩
                      | exact ⟨by first | rfl | simp_all, HB.out _ _⟩
                  · have EE := EN (by omega)
                    clear EB2 EN
                    have hc1 : ¬ (0 : Int) < (c : Int) := by omega
                    rw [EE]
                    clear EE
                    go_enter Tryz.func140, Tryz.ntmps140
                    go_wp2_with fail
                    go_quiet (fail)
                    cases bn
                    all_goals
                      go_wp2_with (first
                        | (go_at_call 138
                           refine (HN.out _ (HW.out _ _)).mono ?_
                           rintro e w1 ⟨rfl, hb⟩
                           have HB1 := Lib.hid ((HB.out _ _).trans (hb.mono (HB.out _ _).size))
                           clear hb)
                        | (fail))
                      go_ret
                      first
                        | exact ⟨by first | rfl | simp_all, HB1.out⟩
                        | exact ⟨by first | rfl | simp_all, HB.out _ _⟩
              · rw [decide_eq_false k7] at t7
                clear E7
                by_cases k8 : k = 8
                · have EB2 := EB (by omega) (by omega)
                  have EN := E8 k8
                  rw [decide_eq_true k8] at t8
                  clear k8 EB E8 E9 E12 t9
                  by_cases hb0 : 0 < b
                  · have EE := EB2 (.inl hb0)
                    clear EB2 EN
                    have hb1 : (0 : Int) < (b : Int) := by omega
                    rw [EE]
                    clear EE
                    go_enter Tryz.func140, Tryz.ntmps140
                    go_wp2_with fail
                    go_quiet (fail)
                    go_wp2_with (first
                      | (go_at_call 138
                         refine (HN.out _ (HW.out _ _)).mono ?_
                         rintro e w1 ⟨rfl, hb⟩
                         have HB1 := Lib.hid ((HB.out _ _).trans (hb.mono (HB.out _ _).size))
                         clear hb)
                      | (fail))
                    go_ret
                    first
                      | exact ⟨by first | rfl | simp_all, HB1.out⟩
                      | exact ⟨by first | rfl | simp_all, HB.out _ _⟩
                  · have hb1 : ¬ (0 : Int) < (b : Int) := by omega
                    by_cases hc0 : 0 < c
                    · have EE := EB2 (.inr hc0)
                      clear EB2 EN
                      have hc1 : (0 : Int) < (c : Int) := by omega
                      rw [EE]
                      clear EE
                      go_enter Tryz.func140, Tryz.ntmps140
                      go_wp2_with fail
                      go_quiet (fail)
                      go_wp2_with (first
                        | (go_at_call 138
                           refine (HN.out _ (HW.out _ _)).mono ?_
                           rintro e w1 ⟨rfl, hb⟩
                           have HB1 := Lib.hid ((HB.out _ _).trans (hb.mono (HB.out _ _).size))
                           clear hb)
                        | (fail))
                      go_ret
                      first
                        | exact ⟨by first | rfl | simp_all, HB1.out⟩
                        | exact ⟨by first | rfl | simp_all, HB.out _ _⟩
                    · have EE := EN (by omega)
                      clear EB2 EN
                      have hc1 : ¬ (0 : Int) < (c : Int) := by omega
                      rw [EE]
                      clear EE
                      go_enter Tryz.func140, Tryz.ntmps140
                      go_wp2_with fail
                      go_quiet (fail)
                      cases bs <;> cases x0
                      all_goals
                        go_wp2_with (first
                          | (go_at_call 138
                             refine (HN.out _ (HW.out _ _)).mono ?_
                             rintro e w1 ⟨rfl, hb⟩
                             have HB1 := Lib.hid ((HB.out _ _).trans (hb.mono (HB.out _ _).size))
                             clear hb)
                          | (fail))
                        go_ret
                        first
                          | exact ⟨by first | rfl | simp_all, HB1.out⟩
                          | exact ⟨by first | rfl | simp_all, HB.out _ _⟩
                · rw [decide_eq_false k8] at t8
                  clear E8
                  by_cases k9 : k = 9
                  · have EB2 := EB (by omega) (by omega)
                    have EN := E9 k9
                    rw [decide_eq_true k9] at t9
                    clear k9 EB E9 E12 
                    by_cases hb0 : 0 < b
                    · have EE := EB2 (.inl hb0)
                      clear EB2 EN
                      have hb1 : (0 : Int) < (b : Int) := by omega
                      rw [EE]
                      clear EE
                      go_enter Tryz.func140, Tryz.ntmps140
                      go_wp2_with fail
                      go_quiet (fail)
                      go_wp2_with (first
                        | (go_at_call 138
                           refine (HN.out _ (HW.out _ _)).mono ?_
                           rintro e w1 ⟨rfl, hb⟩
                           have HB1 := Lib.hid ((HB.out _ _).trans (hb.mono (HB.out _ _).size))
                           clear hb)
                        | (fail))
                      go_ret
                      first
                        | exact ⟨by first | rfl | simp_all, HB1.out⟩
                        | exact ⟨by first | rfl | simp_all, HB.out _ _⟩
                    · have hb1 : ¬ (0 : Int) < (b : Int) := by omega
                      by_cases hc0 : 0 < c
                      · have EE := EB2 (.inr hc0)
                        clear EB2 EN
                        have hc1 : (0 : Int) < (c : Int) := by omega
                        rw [EE]
                        clear EE
                        go_enter Tryz.func140, Tryz.ntmps140
                        go_wp2_with fail
                        go_quiet (fail)
                        go_wp2_with (first
                          | (go_at_call 138
                             refine (HN.out _ (HW.out _ _)).mono ?_
                             rintro e w1 ⟨rfl, hb⟩
                             have HB1 := Lib.hid ((HB.out _ _).trans (hb.mono (HB.out _ _).size))
                             clear hb)
                          | (fail))
                        go_ret
                        first
                          | exact ⟨by first | rfl | simp_all, HB1.out⟩
                          | exact ⟨by first | rfl | simp_all, HB.out _ _⟩
                      · have EE := EN (by omega)
                        clear EB2 EN
                        have hc1 : ¬ (0 : Int) < (c : Int) := by omega
                        rw [EE]
                        clear EE
                        go_enter Tryz.func140, Tryz.ntmps140
                        go_wp2_with fail
                        go_quiet (fail)
                        cases bs <;> cases x1
                        all_goals
                          go_wp2_with (first
                            | (go_at_call 138
                               refine (HN.out _ (HW.out _ _)).mono ?_
                               rintro e w1 ⟨rfl, hb⟩
                               have HB1 := Lib.hid ((HB.out _ _).trans (hb.mono (HB.out _ _).size))
                               clear hb)
                            | (fail))
                          go_ret
                          first
                            | exact ⟨by first | rfl | simp_all, HB1.out⟩
                            | exact ⟨by first | rfl | simp_all, HB.out _ _⟩
                  · rw [decide_eq_false k9] at t9
                    clear E9
                    have EB2 := EB (by omega) (by omega)
                    have EN := E12 (by omega)
                    clear EB E12 k1 k2 k3 k4 k5 k6 k7 k8 k9
                    by_cases hb0 : 0 < b
                    · have EE := EB2 (.inl hb0)
                      clear EB2 EN
                      have hb1 : (0 : Int) < (b : Int) := by omega
                      rw [EE]
                      clear EE
                      go_enter Tryz.func140, Tryz.ntmps140
                      go_wp2_with fail
                      go_quiet (fail)
                      go_wp2_with (first
                        | (go_at_call 138
                           refine (HN.out _ (HW.out _ _)).mono ?_
                           rintro e w1 ⟨rfl, hb⟩
                           have HB1 := Lib.hid ((HB.out _ _).trans (hb.mono (HB.out _ _).size))
                           clear hb)
                        | (fail))
                      go_ret
                      first
                        | exact ⟨by first | rfl | simp_all, HB1.out⟩
                        | exact ⟨by first | rfl | simp_all, HB.out _ _⟩
                    · have hb1 : ¬ (0 : Int) < (b : Int) := by omega
                      by_cases hc0 : 0 < c
                      · have EE := EB2 (.inr hc0)
                        clear EB2 EN
                        have hc1 : (0 : Int) < (c : Int) := by omega
                        rw [EE]
                        clear EE
                        go_enter Tryz.func140, Tryz.ntmps140
                        go_wp2_with fail
                        go_quiet (fail)
                        go_wp2_with (first
                          | (go_at_call 138
                             refine (HN.out _ (HW.out _ _)).mono ?_
                             rintro e w1 ⟨rfl, hb⟩
                             have HB1 := Lib.hid ((HB.out _ _).trans (hb.mono (HB.out _ _).size))
                             clear hb)
                          | (fail))
                        go_ret
                        first
                          | exact ⟨by first | rfl | simp_all, HB1.out⟩
                          | exact ⟨by first | rfl | simp_all, HB.out _ _⟩
                      · have EE := EN (by omega)
                        clear EB2 EN
                        have hc1 : ¬ (0 : Int) < (c : Int) := by omega
                        rw [EE]
                        clear EE
                        go_enter Tryz.func140, Tryz.ntmps140
                        go_wp2_with fail
                        go_quiet (fail)
                        go_wp2_with (first
                          | (go_at_call 138
                             refine (HN.out _ (HW.out _ _)).mono ?_
                             rintro e w1 ⟨rfl, hb⟩
                             have HB1 := Lib.hid ((HB.out _ _).trans (hb.mono (HB.out _ _).size))
                             clear hb)
                          | (fail))
                        go_ret
                        first
                          | exact ⟨by first | rfl | simp_all, HB1.out⟩
                          | exact ⟨by first | rfl | simp_all, HB.out _ _⟩
end Go.Proofs.YtpakjjefbholdaaGreatDoor
