/- droverlaw10.CheckVars returns true whatever its arguments: a scope has as many names as the document says, and no more. For every input, without conditions. -/
import Derived.Test.YtpakjjefbholdaaGreatDoorRow
import Derived.Test.YtpakjjefbholdaaGreatDoorKgm
import Derived.Test.YtpakjjefbholdaaGreatDoorDoor08
import Derived.Test.YtpakjjefbholdaaGreatDoorCards
import Derived.SevenTiedAt
import Derived.Test.YtpakjjefbholdaaGreatDoorPz
import Derived.Deep.DeepCutAuto
import Derived.Deep.LoopGhost
namespace Go.Proofs.YtpakjjefbholdaaGreatDoor.checkVars
open Go.ChangeShapes Go.WideShapes Go.ChangeAt Go.RowKit
set_option linter.unusedVariables false

theorem allB_succ (f : Nat → List Nat) (n k : Nat) : allB f n (k + 1) = allB f n k ++ f (n + k) := by
  unfold allB
  rw [List.range_succ, List.flatMap_append]
  simp
theorem allB_len (f : Nat → List Nat) (n : Nat) (h : ∀ i, (f i).length ≤ 30) : ∀ k, (allB f n k).length ≤ 30 * k
  | 0 => by simp [allB]
  | k + 1 => by
    have := allB_len f n h k
    have := h (n + k)
    rw [allB_succ, List.length_append]
    omega
theorem let_len (i : Nat) : (letB i).length ≤ 30 := by unfold letB nmv; simp [letB1, letB2]
theorem if_len (i : Nat) : (ifB i).length ≤ 30 := by unfold ifB nmv; simp [ifB1, ifB2]
theorem jn_len (n : Nat) : (jnB (namesV n)).length ≤ 5 * n + 3 := by
  have key : ∀ l : List (List Nat), (∀ x ∈ l, x.length = 3) → (jnB l).length ≤ 5 * l.length + 3 := by
    intro l h
    cases l with
    | nil => simp [jnB]
    | cons a r =>
      have h2 : ∀ r : List (List Nat), (∀ x ∈ r, x.length = 3) → (r.flatMap fun s => [44, 32] ++ s).length = 5 * r.length := by
        intro r
        induction r with
        | nil => intro _; rfl
        | cons b q ih =>
          intro h
          have h1 := h b (by simp)
          rw [List.flatMap_cons, List.length_append, ih (fun x hx => h x (by simp [hx])), List.length_append, h1, List.length_cons]
          simp only [List.length_cons, List.length_nil]
          omega
      have h3 := h2 r (fun x hx => h x (by simp [hx]))
      have h4 := h a (by simp)
      rw [jnB, List.length_append, h3, h4, List.length_cons]
      omega
  have := key (namesV n) (fun x hx => by obtain ⟨i, -, rfl⟩ := List.mem_map.1 hx; rfl)
  rwa [names_len] at this
theorem text_8 (n k : Nat) (hn : n ≤ 30) (hk : k ≤ 40) (f : Nat → List Nat) (hf : ∀ i < 71, ∀ x ∈ f i, x < 256) : ∀ x ∈ headB n ++ allB f n k ++ [125], x < 256 := by
  have h1 : ((List.range 31).all fun n => (headB n).all fun x => decide (x < 256)) = true := by as_aux_lemma => kernel_rfl
  intro x hx
  simp only [List.mem_append, List.mem_singleton] at hx
  rcases hx with (hx | hx) | rfl
  · exact of_decide_eq_true (List.all_eq_true.1 (all_at h1 (by omega)) x hx)
  · obtain ⟨i, hi, h2⟩ := List.mem_flatMap.1 hx
    exact hf _ (by have := List.mem_range.1 hi; omega) x h2
  · omega
theorem let_8 : ∀ i < 71, ∀ x ∈ letB i, x < 256 := fun i hi x hx => by
  have h1 : ((List.range 71).all fun n => (letB n).all fun x => decide (x < 256)) = true := by as_aux_lemma => kernel_rfl
  exact of_decide_eq_true (List.all_eq_true.1 (all_at h1 hi) x hx)
theorem if_8 : ∀ i < 71, ∀ x ∈ ifB i, x < 256 := fun i hi x hx => by
  have h1 : ((List.range 71).all fun n => (ifB n).all fun x => decide (x < 256)) = true := by as_aux_lemma => kernel_rfl
  exact of_decide_eq_true (List.all_eq_true.1 (all_at h1 hi) x hx)
/-- What a name is made with. -/
structure Nm (w : World) (V : ByteArray) (i : Nat) : Prop where
  v : V = strOf (nmv i)

set_option maxRecDepth 100000 in
set_option maxHeartbeats 8000000 in
theorem walk (w : World) (htab : Wt w) (a0 : Int) (a1 : Int) (w0 : (Lit.int .u8 a0).wf = true) (w1 : (Lit.int .u8 a1).wf = true) :
    Calls Tryz.prog 13 #[.int .u8 a0, .int .u8 a1] w fun e w' => e = .returned (.bool true) ∧ Below w.heap.size w w' := by
  obtain ⟨n0, rfl, hn0⟩ := wf_u8 w0
  obtain ⟨n1, rfl, hn1⟩ := wf_u8 w1
  obtain ⟨n, hn, hn31⟩ : ∃ a : Nat, (n0 : Int) % 31 = (a : Int) ∧ a < 31 := ⟨n0 % 31, by omega, by omega⟩
  obtain ⟨k, hk, hk41⟩ : ∃ a : Nat, (n1 : Int) % 41 = (a : Int) ∧ a < 41 := ⟨n1 % 41, by omega, by omega⟩
  clear w0 w1
  have HW0 := Lib.hid htab
  have HAW := Lib.hid (fun w hw => awake10_any w hw)
  have HNM := Lib.hid (fun (i : Nat) (hi : i ≤ 200) (w : World) => vname_any i hi w)
  obtain ⟨i0, hi0, hz0, hz1, hz2⟩ := info_parts str_info2
  have HI := Lib.hid (And.intro hi0 (And.intro hz0 (And.intro hz1 hz2)))
  clear htab hi0 hz0 hz1 hz2
  go_enter Tryz.func13, Tryz.ntmps13
  go_wp2_with fail
  rw [hn, hk]
  clear hn hk
  go_loopg [8, 21] n (fun g v i wr => ∃ j : Nat, j + g = n ∧ i = .int .i64 (j : Int) ∧ Hid (OwnS wr w.heap.size v (namesV j)) ∧ Hid (Below w.heap.size w wr))
  case atStart => exact ⟨0, by omega, rfl, Lib.hid (OwnS.nil w _), Lib.hid (Below.refl _ _)⟩
  case round =>
    obtain ⟨j, hj, rfl, HO, HK⟩ := hrel
    cases gk with
    | zero =>
      have h1 : ¬ (j : Int) < (n : Int) := by omega
      obtain rfl : n = j := by omega
      obtain ⟨Aw, cw, rfl, -⟩ := HO.out.form
      go_wp2_with fail
      go_loopg [10, 11, 32] k (fun g a b i wr2 => ∃ j : Nat, j + g = k ∧ i = .int .i64 (j : Int) ∧ Hid (a = .string (strOf (allB letB n j))) ∧ Hid (b = .string (strOf (allB ifB n j))) ∧ Hid (OwnS wr2 w.heap.size (.slice Aw (namesV n).length cw) (namesV n)) ∧ Hid (Below w.heap.size w wr2))
      case atStart => exact ⟨0, by omega, rfl, Lib.hid rfl, Lib.hid rfl, HO, HK⟩
      case round =>
        clear HO HK
        obtain ⟨j, hj, rfl, HA, HB, HO, HK⟩ := hrel
        have ha := HA.out
        have hb := HB.out
        subst ha hb
        have hszr : w.heap.size ≤ wr.heap.size := HK.out.size
        have la := allB_len letB n let_len j
        have lb := allB_len ifB n if_len j
        cases gk with
        | zero =>
          have h1 : ¬ (j : Int) < (k : Int) := by omega
          obtain rfl : k = j := by omega
          have lj := jn_len n
          obtain ⟨SJ, hJ⟩ : ∃ S, Hid (strOf (jnB (namesV n)) = S) := ⟨_, Lib.hid rfl⟩
          have HJ := Lib.hid (join_any wr _ _ _ HO.out (by omega) (by rw [names_len]; omega))
          rw [hJ.out] at HJ
          obtain ⟨S1, hS1⟩ : ∃ S, Hid (strOf (funcB ++ jnB (namesV n)) = S) := ⟨_, Lib.hid rfl⟩
          obtain ⟨S2, hS2⟩ : ∃ S, Hid (strOf (headB n) = S) := ⟨_, Lib.hid rfl⟩
          obtain ⟨S3, hS3⟩ : ∃ S, Hid (strOf (headB n ++ allB letB n k) = S) := ⟨_, Lib.hid rfl⟩
          obtain ⟨S4, hS4⟩ : ∃ S, Hid (strOf (headB n ++ allB letB n k ++ [125]) = S) := ⟨_, Lib.hid rfl⟩
          obtain ⟨S5, hS5⟩ : ∃ S, Hid (strOf (headB n ++ allB ifB n k) = S) := ⟨_, Lib.hid rfl⟩
          obtain ⟨S6, hS6⟩ : ∃ S, Hid (strOf (headB n ++ allB ifB n k ++ [125]) = S) := ⟨_, Lib.hid rfl⟩
          obtain ⟨SA, hSA⟩ : ∃ S, Hid (strOf (allB letB n k) = S) := ⟨_, Lib.hid rfl⟩
          obtain ⟨SB, hSB⟩ : ∃ S, Hid (strOf (allB ifB n k) = S) := ⟨_, Lib.hid rfl⟩
          have lf : funcB.length = 7 := rfl
          have lo : openB.length = 4 := rfl
          have lh : (headB n).length ≤ 300 := by unfold headB; simp only [List.length_append]; omega
          have s1 : ∀ w, (Op.stringOp .add ⟨#[102, 117, 110, 99, 32, 102, 40]⟩ SJ).run Tryz.prog w = .ok (.string S1) w := fun w => by
            rw [← hJ.out, ← hS1.out]
            exact add_strs2 funcB _ (by omega) w
          have s2 : ∀ w, (Op.stringOp .add S1 ⟨#[41, 32, 123, 32]⟩).run Tryz.prog w = .ok (.string S2) w := fun w => by
            rw [← hS1.out, ← hS2.out]
            exact add_strs2 _ openB (by rw [List.length_append]; omega) w
          have s3 : ∀ w, (Op.stringOp .add S2 SA).run Tryz.prog w = .ok (.string S3) w := fun w => by
            rw [← hS2.out, ← hSA.out, ← hS3.out]
            exact add_strs2 _ _ (by omega) w
          have s4 : ∀ w, (Op.stringOp .add S3 ⟨#[125]⟩).run Tryz.prog w = .ok (.string S4) w := fun w => by
            rw [← hS3.out, ← hS4.out]
            exact add_strs2 _ [125] (by rw [List.length_append, List.length_singleton]; omega) w
          have s5 : ∀ w, (Op.stringOp .add S2 SB).run Tryz.prog w = .ok (.string S5) w := fun w => by
            rw [← hS2.out, ← hSB.out, ← hS5.out]
            exact add_strs2 _ _ (by omega) w
          have s6 : ∀ w, (Op.stringOp .add S5 ⟨#[125]⟩).run Tryz.prog w = .ok (.string S6) w := fun w => by
            rw [← hS5.out, ← hS6.out]
            exact add_strs2 _ [125] (by rw [List.length_append, List.length_singleton]; omega) w
          have HFA := Lib.hid (fun (w' : World) (hw : Wt w') => fault_any _ (text_8 n k (by omega) (by omega) letB let_8) (by simp only [List.length_append, List.length_singleton]; omega) (fault_let (by omega) (by omega)) S4 hS4.out.symm w' hw)
          have HFB := Lib.hid (fun (w' : World) (hw : Wt w') => fault_any _ (text_8 n k (by omega) (by omega) ifB if_8) (by simp only [List.length_append, List.length_singleton]; omega) (fault_if (by omega) (by omega)) S6 hS6.out.symm w' hw)
          have hfl := fld0
          rw [hSA.out, hSB.out]
          have d1 : (n : Int) + (k : Int) ≤ 70 := by omega
          obtain ⟨b1, hb1⟩ : ∃ b, Hid (decide (n + k ≤ 30) = b) := ⟨_, Lib.hid rfl⟩
          clear HNM HI HA HB la lb lj lh lf lo hJ hS1 hS2 hS3 hS4 hS5 hS6 hSA hSB HO
          by_cases q1 : n + k ≤ 30
          · rw [if_pos q1, if_pos q1] at HFA
            have t1 : ¬ (30 : Int) < (n : Int) + (k : Int) := by omega
            have t2 : ¬ (n : Int) + (k : Int) > 30 := t1
            have t3 : decide ((30 : Int) < (n : Int) + (k : Int)) = false := decide_eq_false t1
            clear q1
            by_cases q2 : n = 30 ∧ 0 < k
            · rw [if_pos q2, if_pos q2] at HFB
              have u1 : ((n : Int) == 30) = true := by rw [q2.1]; rfl
              have u2 : (0 : Int) < (k : Int) := by omega
              have u3 : (k : Int) > 0 := u2
              have u4 : decide ((0 : Int) < (k : Int)) = true := decide_eq_true u2
              have u5 : 0 < k := q2.2
              have u6 : decide (0 < k) = true := decide_eq_true u5
              clear q2
              go_wp2_with (first
                | (go_at_call 31
                   refine HJ.out.mono ?_
                   rintro e w2 ⟨rfl, hb2⟩
                   have HK2 := Lib.hid (HK.out.trans (hb2.mono hszr))
                   clear hb2)
                | (fail))
              refine (HFA.out _ (HW0.out.below HK2.out)).mono ?_
              rintro e w3 ⟨rfl, hb3⟩
              have HK3 := Lib.hid (HK2.out.trans (hb3.mono HK2.out.size))
              clear hb3
              go_wp2_with fail
              refine (HFB.out _ (HW0.out.below HK3.out)).mono ?_
              rintro e w4 ⟨rfl, hb4⟩
              have HK4 := Lib.hid (HK3.out.trans (hb4.mono HK3.out.size))
              clear hb4
              go_wp2_with fail
              refine (HAW.out _ (HW0.out.below HK4.out)).mono ?_
              rintro e w5 ⟨rfl, hb5⟩
              have HK5 := Lib.hid (HK4.out.trans (hb5.mono HK4.out.size))
              clear hb5
              go_wp2_with fail
              go_ret
              exact ⟨rfl, HK5.out⟩
            · rw [if_neg q2, if_neg q2] at HFB
              by_cases q3 : n = 30
              · have u1 : ((n : Int) == 30) = true := by rw [q3]; rfl
                have u2 : ¬ (0 : Int) < (k : Int) := by omega
                have u3 : ¬ (k : Int) > 0 := u2
                have u4 : decide ((0 : Int) < (k : Int)) = false := decide_eq_false u2
                have u5 : ¬ 0 < k := by omega
                have u6 : decide (0 < k) = false := decide_eq_false u5
                clear q2 q3
                go_wp2_with (first
                  | (go_at_call 31
                     refine HJ.out.mono ?_
                     rintro e w2 ⟨rfl, hb2⟩
                     have HK2 := Lib.hid (HK.out.trans (hb2.mono hszr))
                     clear hb2)
                  | (fail))
                refine (HFA.out _ (HW0.out.below HK2.out)).mono ?_
                rintro e w3 ⟨rfl, hb3⟩
                have HK3 := Lib.hid (HK2.out.trans (hb3.mono HK2.out.size))
                clear hb3
                go_wp2_with fail
                refine (HFB.out _ (HW0.out.below HK3.out)).mono ?_
                rintro e w4 ⟨rfl, hb4⟩
                have HK4 := Lib.hid (HK3.out.trans (hb4.mono HK3.out.size))
                clear hb4
                go_wp2_with fail
                refine (HAW.out _ (HW0.out.below HK4.out)).mono ?_
                rintro e w5 ⟨rfl, hb5⟩
                have HK5 := Lib.hid (HK4.out.trans (hb5.mono HK4.out.size))
                clear hb5
                go_wp2_with fail
                go_ret
                exact ⟨rfl, HK5.out⟩
              · have u1 : ((n : Int) == 30) = false := beq_eq_false_iff_ne.2 (by omega)
                clear q2 q3
                go_wp2_with (first
                  | (go_at_call 31
                     refine HJ.out.mono ?_
                     rintro e w2 ⟨rfl, hb2⟩
                     have HK2 := Lib.hid (HK.out.trans (hb2.mono hszr))
                     clear hb2)
                  | (fail))
                refine (HFA.out _ (HW0.out.below HK2.out)).mono ?_
                rintro e w3 ⟨rfl, hb3⟩
                have HK3 := Lib.hid (HK2.out.trans (hb3.mono HK2.out.size))
                clear hb3
                go_wp2_with fail
                refine (HFB.out _ (HW0.out.below HK3.out)).mono ?_
                rintro e w4 ⟨rfl, hb4⟩
                have HK4 := Lib.hid (HK3.out.trans (hb4.mono HK3.out.size))
                clear hb4
                go_wp2_with fail
                refine (HAW.out _ (HW0.out.below HK4.out)).mono ?_
                rintro e w5 ⟨rfl, hb5⟩
                have HK5 := Lib.hid (HK4.out.trans (hb5.mono HK4.out.size))
                clear hb5
                go_wp2_with fail
                go_ret
                exact ⟨rfl, HK5.out⟩
          · rw [if_neg q1, if_neg q1] at HFA
            have t1 : (30 : Int) < (n : Int) + (k : Int) := by omega
            have t2 : (n : Int) + (k : Int) > 30 := t1
            have t3 : decide ((30 : Int) < (n : Int) + (k : Int)) = true := decide_eq_true t1
            clear q1
            by_cases q2 : n = 30 ∧ 0 < k
            · rw [if_pos q2, if_pos q2] at HFB
              have u1 : ((n : Int) == 30) = true := by rw [q2.1]; rfl
              have u2 : (0 : Int) < (k : Int) := by omega
              have u3 : (k : Int) > 0 := u2
              have u4 : decide ((0 : Int) < (k : Int)) = true := decide_eq_true u2
              have u5 : 0 < k := q2.2
              have u6 : decide (0 < k) = true := decide_eq_true u5
              clear q2
              go_wp2_with (first
                | (go_at_call 31
                   refine HJ.out.mono ?_
                   rintro e w2 ⟨rfl, hb2⟩
                   have HK2 := Lib.hid (HK.out.trans (hb2.mono hszr))
                   clear hb2)
                | (fail))
              refine (HFA.out _ (HW0.out.below HK2.out)).mono ?_
              rintro e w3 ⟨rfl, hb3⟩
              have HK3 := Lib.hid (HK2.out.trans (hb3.mono HK2.out.size))
              clear hb3
              go_wp2_with fail
              refine (HFB.out _ (HW0.out.below HK3.out)).mono ?_
              rintro e w4 ⟨rfl, hb4⟩
              have HK4 := Lib.hid (HK3.out.trans (hb4.mono HK3.out.size))
              clear hb4
              go_wp2_with fail
              refine (HAW.out _ (HW0.out.below HK4.out)).mono ?_
              rintro e w5 ⟨rfl, hb5⟩
              have HK5 := Lib.hid (HK4.out.trans (hb5.mono HK4.out.size))
              clear hb5
              go_wp2_with fail
              go_ret
              exact ⟨rfl, HK5.out⟩
            · rw [if_neg q2, if_neg q2] at HFB
              by_cases q3 : n = 30
              · have u1 : ((n : Int) == 30) = true := by rw [q3]; rfl
                have u2 : ¬ (0 : Int) < (k : Int) := by omega
                have u3 : ¬ (k : Int) > 0 := u2
                have u4 : decide ((0 : Int) < (k : Int)) = false := decide_eq_false u2
                have u5 : ¬ 0 < k := by omega
                have u6 : decide (0 < k) = false := decide_eq_false u5
                clear q2 q3
                go_wp2_with (first
                  | (go_at_call 31
                     refine HJ.out.mono ?_
                     rintro e w2 ⟨rfl, hb2⟩
                     have HK2 := Lib.hid (HK.out.trans (hb2.mono hszr))
                     clear hb2)
                  | (fail))
                refine (HFA.out _ (HW0.out.below HK2.out)).mono ?_
                rintro e w3 ⟨rfl, hb3⟩
                have HK3 := Lib.hid (HK2.out.trans (hb3.mono HK2.out.size))
                clear hb3
                go_wp2_with fail
                refine (HFB.out _ (HW0.out.below HK3.out)).mono ?_
                rintro e w4 ⟨rfl, hb4⟩
                have HK4 := Lib.hid (HK3.out.trans (hb4.mono HK3.out.size))
                clear hb4
                go_wp2_with fail
                refine (HAW.out _ (HW0.out.below HK4.out)).mono ?_
                rintro e w5 ⟨rfl, hb5⟩
                have HK5 := Lib.hid (HK4.out.trans (hb5.mono HK4.out.size))
                clear hb5
                go_wp2_with fail
                go_ret
                exact ⟨rfl, HK5.out⟩
              · have u1 : ((n : Int) == 30) = false := beq_eq_false_iff_ne.2 (by omega)
                clear q2 q3
                go_wp2_with (first
                  | (go_at_call 31
                     refine HJ.out.mono ?_
                     rintro e w2 ⟨rfl, hb2⟩
                     have HK2 := Lib.hid (HK.out.trans (hb2.mono hszr))
                     clear hb2)
                  | (fail))
                refine (HFA.out _ (HW0.out.below HK2.out)).mono ?_
                rintro e w3 ⟨rfl, hb3⟩
                have HK3 := Lib.hid (HK2.out.trans (hb3.mono HK2.out.size))
                clear hb3
                go_wp2_with fail
                refine (HFB.out _ (HW0.out.below HK3.out)).mono ?_
                rintro e w4 ⟨rfl, hb4⟩
                have HK4 := Lib.hid (HK3.out.trans (hb4.mono HK3.out.size))
                clear hb4
                go_wp2_with fail
                refine (HAW.out _ (HW0.out.below HK4.out)).mono ?_
                rintro e w5 ⟨rfl, hb5⟩
                have HK5 := Lib.hid (HK4.out.trans (hb5.mono HK4.out.size))
                clear hb5
                go_wp2_with fail
                go_ret
                exact ⟨rfl, HK5.out⟩
        | succ g =>
          have h1 : (j : Int) < (k : Int) := by omega
          have hnj : (n : Int) + (j : Int) = ((n + j : Nat) : Int) := by omega
          have HN1 := Lib.hid (fun w' => HNM.out (n + j) (by omega) w')
          obtain ⟨V, hV⟩ : ∃ S, Hid (strOf (nmv (n + j)) = S) := ⟨_, Lib.hid rfl⟩
          rw [hV.out, ← hnj] at HN1
          obtain ⟨SA, hSA⟩ : ∃ S, Hid (strOf (allB letB n j) = S) := ⟨_, Lib.hid rfl⟩
          obtain ⟨SB, hSB⟩ : ∃ S, Hid (strOf (allB ifB n j) = S) := ⟨_, Lib.hid rfl⟩
          obtain ⟨S1, hS1⟩ : ∃ S, Hid (strOf (letB1 ++ nmv (n + j)) = S) := ⟨_, Lib.hid rfl⟩
          obtain ⟨S2, hS2⟩ : ∃ S, Hid (strOf (letB (n + j)) = S) := ⟨_, Lib.hid rfl⟩
          obtain ⟨S3, hS3⟩ : ∃ S, Hid (strOf (allB letB n (j + 1)) = S) := ⟨_, Lib.hid rfl⟩
          obtain ⟨S4, hS4⟩ : ∃ S, Hid (strOf (ifB1 ++ nmv (n + j)) = S) := ⟨_, Lib.hid rfl⟩
          obtain ⟨S5, hS5⟩ : ∃ S, Hid (strOf (ifB (n + j)) = S) := ⟨_, Lib.hid rfl⟩
          obtain ⟨S6, hS6⟩ : ∃ S, Hid (strOf (allB ifB n (j + 1)) = S) := ⟨_, Lib.hid rfl⟩
          have ln := let_len (n + j)
          have li := if_len (n + j)
          have l3 : (nmv (n + j)).length = 3 := rfl
          have s1 : ∀ w, (Op.stringOp .add ⟨#[108, 101, 116, 32]⟩ V).run Tryz.prog w = .ok (.string S1) w := fun w => by
            rw [← hV.out, ← hS1.out]
            exact add_strs2 letB1 _ (by rw [l3]; decide) w
          have s2 : ∀ w, (Op.stringOp .add S1 ⟨#[32, 61, 32, 49, 59, 32]⟩).run Tryz.prog w = .ok (.string S2) w := fun w => by
            rw [← hS1.out, ← hS2.out]
            exact add_strs2 _ letB2 (by rw [List.length_append, l3]; decide) w
          have s3 : ∀ w, (Op.stringOp .add SA S2).run Tryz.prog w = .ok (.string S3) w := fun w => by
            rw [← hS2.out, ← hSA.out, ← hS3.out, allB_succ]
            exact add_strs2 _ _ (by omega) w
          have s4 : ∀ w, (Op.stringOp .add ⟨#[105, 102, 32, 40, 116, 114, 117, 101, 41, 32, 123, 32, 108, 101, 116, 32]⟩ V).run Tryz.prog w = .ok (.string S4) w := fun w => by
            rw [← hV.out, ← hS4.out]
            exact add_strs2 ifB1 _ (by rw [l3]; decide) w
          have s5 : ∀ w, (Op.stringOp .add S4 ⟨#[32, 61, 32, 49, 59, 32, 125, 32]⟩).run Tryz.prog w = .ok (.string S5) w := fun w => by
            rw [← hS4.out, ← hS5.out]
            exact add_strs2 _ ifB2 (by rw [List.length_append, l3]; decide) w
          have s6 : ∀ w, (Op.stringOp .add SB S5).run Tryz.prog w = .ok (.string S6) w := fun w => by
            rw [← hS5.out, ← hSB.out, ← hS6.out, allB_succ]
            exact add_strs2 _ _ (by omega) w
          have d1 : (n : Int) + (j : Int) ≤ 70 := by omega
          rw [hSA.out, hSB.out]
          clear hnj hV hSA hSB hS1 hS2 hS4 hS5 ln li l3 la lb HA HB HNM
          go_wp2_with fail
          refine (HN1.out _).mono ?_
          rintro e w2 ⟨rfl, hb2⟩
          have HO2 := Lib.hid (HO.out.below hb2)
          have HK2 := Lib.hid (HK.out.trans (hb2.mono hszr))
          have hs2 := hb2.size
          clear hb2
          go_wp2_with fail
          refine (HN1.out _).mono ?_
          rintro e w3 ⟨rfl, hb3⟩
          have HO3 := Lib.hid (HO2.out.below hb3)
          have HK3 := Lib.hid (HK2.out.trans (hb3.mono HK2.out.size))
          clear hb3
          go_wp2_with fail
          go_roundg g
          case measure => omega
          case rel => exact ⟨j + 1, by omega, by go_num, Lib.hid (by rw [hS3.out]), Lib.hid (by rw [hS6.out]), HO3, HK3⟩
    | succ g =>
      have h1 : (j : Int) < (n : Int) := by omega
      obtain ⟨Av, cv, rfl, -⟩ := HO.out.form
      have HN := Lib.hid (HNM.out j (by omega) wr)
      obtain ⟨V, hV⟩ : ∃ S, Hid (strOf (nmv j) = S) := ⟨_, Lib.hid rfl⟩
      rw [hV.out] at HN
      have hszr : w.heap.size ≤ wr.heap.size := HK.out.size
      have hjn : (namesV j).length ≤ 200 := by rw [names_len]; omega
      obtain ⟨L, hL⟩ : ∃ L, Hid (namesV j = L) := ⟨_, Lib.hid rfl⟩
      rw [hL.out] at HO hjn ⊢
      go_wp2_with (first
        | (go_at_call 39
           refine HN.out.mono ?_
           rintro e w1 ⟨rfl, hb1⟩
           have HO1 := Lib.hid (HO.out.below hb1)
           have HK1 := Lib.hid (HK.out.trans (hb1.mono hszr))
           have hs1 := hb1.size
           clear hb1)
        | (at_builtin
           refine wpList_append_at _ rfl (.tmp 24) (.tmp 28) 41 rfl w.heap.size 9 i0 _ 1 16 Tryz.underlying41 HI.out.1 HI.out.2.1 HI.out.2.2.1 HI.out.2.2.2 rfl (by omega) _ _ _ rfl (HO1.out.below ((Below.refl _ _).alloc (Nat.le_refl _) _)) _ _ 1 1 [.string V] rfl (At.made _ _ _) rfl (by intro u hu; simp at hu; subst hu; rfl) (by unfold maxLen; omega) (by omega) (by simp; omega) ?_
           intro v' w2 ho2 hg2 hor2
           have HO2 : Hid (OwnS w2 w.heap.size v' (namesV (j + 1))) := Lib.hid (by
             unfold OwnS
             rw [names_succ, List.length_append, List.map_append, hL.out]
             simpa [hV.out] using ho2)
           have HK2 : Hid (Below w.heap.size w w2) := Lib.hid (by
             have h2 := HO1.out.below ((Below.refl w1.heap.size w1).alloc (Nat.le_refl _) (.cells #[.string V] 9))
             exact HK1.out.trans (((Below.refl _ _).alloc (Nat.le_trans hszr hs1) _).grown hg2 (by simp; omega) (fun k hk => (World.ownsRow.lt h2 k hk).1)))
           obtain ⟨A2, c2, rfl, -⟩ := HO2.out.form
           clear ho2 hg2 hor2)
        | (fail))
      go_roundg g
      case measure => omega
      case rel => exact ⟨j + 1, by omega, by go_num, HO2, HK2⟩

set_option maxRecDepth 100000 in
theorem lifted (os : Os) (started : os.Started) (H : Type) (enc : TypeId × Value → H) :
    ReturnsInHanded {} Tryz.checked os 13 .any (fun w args => (Rows.checkVarsSpec.pre enc Tryz.prog Tryz.f13 [] false w args ∧ laidMetH Tryz.prog laidW w) ∧ sizedMet enc Tryz.prog Tryz.f13 (OpenSpec.ofChange Rows.checkVarsSpec) false w args) (Rows.checkVarsSpec.post enc Tryz.prog Tryz.f13 false true false false) := by
  refine returnsInHanded_of_change_and (C := Tryz.checked) (X := fun w _ => laidMetH Tryz.prog laidW w) (fun _ _ _ hh h => h.of_heap hh) knob_own started (by kernel_rfl) Tryz.func13
    (ChangeSpec.witness_shaped (enc := enc) (C := Tryz.checked) (os := os) (X := fun w _ => laidMetH Tryz.prog laidW w) false (World.doorLaid Tryz.prog 400 os) #[.int .u8 0, .int .u8 0] 8 rfl (World.shaped_of_RefB (by kernel_rfl) (by kernel_rfl)) (by kernel_rfl) (by kernel_rfl) (by kernel_rfl) (doorW_met os _)) ?_
  intro W base args ds gs before hval0 hW _ _ hL _
  have hval : ∀ (j : Nat) t v, Tryz.f13.params[j]? = some t → args[j]? = some v → Value.okWide Tryz.prog W .any base t v := hval0
  have hW' := hW
  obtain ⟨p, q, hA0, hV, rfl, hfz, hnd⟩ := hW
  have hA : DataW.TrodAll enc Tryz.prog W 0 (fun _ => true) true Tryz.f13.params.toList args.toList ds p := hA0
  rw [Tryz.params13] at hA hval
  obtain ⟨v0, vs0, d0, ds0, p0, q0, hargs, rfl, rfl, h0, r0⟩ := trodAll_cons hA
  obtain ⟨v1, vs1, d1, ds1, p1, q1, rfl, rfl, rfl, h1, r1⟩ := trodAll_cons r0
  obtain ⟨rfl, rfl, rfl⟩ := trodAll_nil r1
  obtain rfl : args = #[v0, v1] := by cases args; simp_all
  obtain ⟨rfl, rfl⟩ := trodVars_none hV
  have lt0 : ∀ x ∈ p0, x.block < W.heap.size := by obtain ⟨m, hm⟩ := h0; exact DataW.trod_lt m _ _ _ hm
  have k0 := h0
  obtain ⟨a0, rfl, _, _, w0⟩ := open_int Tryz.underlying5 (hval 0 5 v0 rfl rfl) h0
  have lt1 : ∀ x ∈ p1, x.block < W.heap.size := by obtain ⟨m, hm⟩ := h1; exact DataW.trod_lt m _ _ _ hm
  have k1 := h1
  obtain ⟨a1, rfl, _, _, w1⟩ := open_int Tryz.underlying5 (hval 1 5 v1 rfl rfl) h1
  clear hA0 hval0
  refine (walk W (wt_laid hL) a0 a1 w0 w1).mono fun e W' ⟨he, bel⟩ => ?_
  subst he
  exact ⟨_, rfl, _, _, _, [], _, [], hW', trodAll_mk1 (shut_bool Tryz.underlying4 _), (trodAll_cons_mk (Below.trod laid_out (by kernel_rfl) (of_decide_eq_true (by kernel_rfl)) k0 bel lt0) (trodAll_cons_mk (Below.trod laid_out (by kernel_rfl) (of_decide_eq_true (by kernel_rfl)) k1 bel lt1) (trodAll_mk0))), rfl, bel.frame _, fun h => by cases h⟩

theorem over : Rows.checkVarsRow.holds Tryz.pinned (OpenSpec.ofChange Rows.checkVarsSpec) :=
  OpenClaim.holds_of_wide 13 Tryz.f13 rfl rfl rfl rfl rfl rfl rfl ⟨rfl, rfl, rfl, rfl, rfl⟩ rfl rfl rfl rfl rfl (by kernel_rfl) Tryz.func13 (by kernel_rfl)
    (of_decide_eq_true (by kernel_rfl)) (by unfold Func.isWrapper; first | (rw [if_pos (by decide +kernel)]; kernel_rfl) | (rw [if_neg (by decide +kernel)]; exact ⟨rfl, rfl⟩))
    (fun os started H enc _ => lifted os started H enc)

theorem proved : Rows.CheckVarsCardSaid :=
  Claim7.holds_tied_plain_at .later [] [.data, .data, .data, .sentinel, .sentinel, .data] true Rows.checkVarsCard.stood.harness Rows.checkVarsCard.stood.looks
    over (fun _ h => by cases h) (by kernel_rfl) (fun _ h => by cases h) checkVars_row_tie rfl ⟨rfl, rfl⟩ (by kernel_rfl) rfl
    (fun f fn hf hfn => by
      obtain rfl : f = 13 := Option.some.inj ((show Tryz.prog.funcNamed "drover/droverlaw10.CheckVars" = some 13 by kernel_rfl).symm.trans hf) |>.symm
      obtain rfl : fn = Tryz.f13 := (Option.some.inj (Tryz.func13.symm.trans hfn)).symm
      exact ⟨by kernel_rfl, fun j t ht => by
        have hall : (Tryz.f13.params.toList.all fun u => !Tryz.prog.wantsStandIn u) = true := by kernel_rfl
        have hm : t ∈ Tryz.f13.params.toList := Array.mem_toList_iff.2 (Array.mem_of_getElem? ht)
        exact (show Tryz.prog.wantsStandIn t = false by simpa using List.all_eq_true.1 hall t hm)⟩)
    (by kernel_rfl)
end Go.Proofs.YtpakjjefbholdaaGreatDoor.checkVars
