/- Package tree: names; operations: the walks. -/
import Derived.Test.YtpakjjefbholdaaGreatDoorWj
import Derived.Test.YtpakjjefbholdaaGreatDoorTe
namespace Go.Proofs.YtpakjjefbholdaaGreatDoor
open Go.RowKit
set_option linter.unusedVariables false

/-- What the first token of a text says of it: is it a name, whole? -/
theorem isNm_eq (s : List Nat) (hs : s.length ≤ 32768) : isNm s = match tok (s.drop (atW s 0)) with
    | none => false
    | some t => decide (t.k = 3) && decide (atW s 0 = 0) && decide (atW s 0 + t.e = s.length) := by
  unfold isNm
  rw [decide_eq_true hs, Bool.true_and]
  cases tok (s.drop (atW s 0)) with
  | none => rfl
  | some t =>
    dsimp only
    have e1 : (t.k == 3) = decide (t.k = 3) := by rw [Bool.eq_iff_iff, beq_iff_eq, decide_eq_true_iff]
    have e2 : (atW s 0 == 0) = decide (atW s 0 = 0) := by rw [Bool.eq_iff_iff, beq_iff_eq, decide_eq_true_iff]
    rw [e1, e2]
    by_cases h : atW s 0 = 0
    · rw [h]
      have e3 : (t.e == s.length) = decide (0 + t.e = s.length) := by rw [Bool.eq_iff_iff, beq_iff_eq, decide_eq_true_iff, Nat.zero_add]
      rw [e3]
    · rw [decide_eq_false h]; simp
set_option maxRecDepth 100000 in
set_option maxHeartbeats 4000000 in
theorem isName_any (s : List Nat) (h8 : ∀ x ∈ s, x < 256) (hn : s.length ≤ 140737488355328) (w : World) (hw : Wt w) : Calls Tryz.prog 138 #[.string (strOf s)] w fun e w' => e = .returned (.bool (isNm s)) ∧ Below w.heap.size w w' := by
  have HN := Lib.hid (next_any s h8 hn 0 w hw)
  have hsz := strOf_size s
  by_cases hl : 32768 < s.length
  · have e0 : nxtV s 0 = .tuple #[w0, flt 3 0] := by unfold nxtV; rw [if_pos hl]
    have e1 : isNm s = false := by unfold isNm; rw [decide_eq_false (by omega)]; rfl
    rw [e0] at HN
    rw [e1]
    unfold w0 flt at HN
    clear e0 e1 hl h8
    go_enter Tryz.func138, Tryz.ntmps138
    go_wp2_with fail
    refine HN.out.mono ?_
    rintro e w1 ⟨rfl, hb⟩
    have HB := Lib.hid hb
    clear hb
    go_wp2_with fail
    go_ret
    exact ⟨rfl, (HB.out.alloc HB.out.size _).alloc (by simp; exact Nat.le_succ_of_le HB.out.size) _⟩
  · rw [isNm_eq s (by omega)]
    have e0 : nxtV s 0 = match tok (s.drop (atW s 0)) with
      | none => .tuple #[w0, flt 100 (lnW s 0)]
      | some t => .tuple #[wrdV t.k (strOf t.s) t.n (lnW s 0) (atW s 0) (atW s 0 + t.e), flt 0 0] := by
      unfold nxtV
      rw [if_neg hl, if_neg (by omega)]
      rfl
    rw [e0] at HN
    clear e0 hl h8
    cases ht : tok (s.drop (atW s 0)) with
    | none =>
      rw [ht] at HN
      dsimp only at HN ⊢
      unfold w0 flt at HN
      clear ht
      go_enter Tryz.func138, Tryz.ntmps138
      go_wp2_with fail
      refine HN.out.mono ?_
      rintro e w1 ⟨rfl, hb⟩
      have HB := Lib.hid hb
      clear hb
      go_wp2_with fail
      go_ret
      exact ⟨rfl, (HB.out.alloc HB.out.size _).alloc (by simp; exact Nat.le_succ_of_le HB.out.size) _⟩
    | some t =>
      rw [ht] at HN
      dsimp only at HN ⊢
      unfold wrdV flt at HN
      clear ht
      obtain ⟨a, ha⟩ : ∃ a, atW s 0 = a := ⟨_, rfl⟩
      obtain ⟨ln, hln⟩ : ∃ a, lnW s 0 = a := ⟨_, rfl⟩
      rw [ha] at HN ⊢
      rw [hln] at HN
      have g1 : ((t.k : Int) == 3) = decide (t.k = 3) := by rw [Bool.eq_iff_iff, beq_iff_eq, decide_eq_true_iff]; omega
      have g2 : ((a : Int) == 0) = decide (a = 0) := by rw [Bool.eq_iff_iff, beq_iff_eq, decide_eq_true_iff]; omega
      have g3 : (((a + t.e : Nat) : Int) == (s.length : Int)) = decide (a + t.e = s.length) := by rw [Bool.eq_iff_iff, beq_iff_eq, decide_eq_true_iff]; omega
      have g4 : ((a : Int) + (t.e : Int) == (s.length : Int)) = decide (a + t.e = s.length) := by rw [← g3]; simp
      rw [← hsz] at g3 g4
      obtain ⟨b1, hb1⟩ : ∃ b, Hid (decide (t.k = 3) = b) := ⟨_, Lib.hid rfl⟩
      obtain ⟨b2, hb2⟩ : ∃ b, Hid (decide (a = 0) = b) := ⟨_, Lib.hid rfl⟩
      obtain ⟨b3, hb3⟩ : ∃ b, Hid (decide (a + t.e = s.length) = b) := ⟨_, Lib.hid rfl⟩
      rw [← hsz] at hb3
      rw [hb1.out] at g1 ⊢
      rw [hb2.out] at g2 ⊢
      rw [← hsz, hb3.out]
      rw [hb3.out] at g3 g4
      obtain ⟨S, hS⟩ : ∃ S, Hid (strOf t.s = S) := ⟨_, Lib.hid rfl⟩
      rw [hS.out] at HN
      obtain ⟨Z, hZ⟩ : ∃ S, Hid (strOf s = S) := ⟨_, Lib.hid rfl⟩
      rw [hZ.out] at HN g3 g4 ⊢
      clear ha hln hsz hb1 hb2 hb3 hS hZ
      go_enter Tryz.func138, Tryz.ntmps138
      go_wp2_with fail
      refine HN.out.mono ?_
      rintro e w1 ⟨rfl, hb⟩
      have HB := Lib.hid hb
      clear hb
      cases b1 <;> cases b2 <;> cases b3
      all_goals
        go_wp2_with fail
        go_ret
        exact ⟨rfl, (HB.out.alloc HB.out.size _).alloc (by simp; exact Nat.le_succ_of_le HB.out.size) _⟩
end Go.Proofs.YtpakjjefbholdaaGreatDoor
