/- Package words: bytes, and runs of them: the walks. -/
import Derived.Test.YteacmanbiamhoaaGreatDoorWa
import Derived.Test.YteacmanbiamhoaaGreatDoorCells
import Derived.Lib.Walk
import Derived.BigGuardPart
namespace Go.Proofs.YteacmanbiamhoaaGreatDoor
open Go.RowKit
set_option linter.unusedVariables false

set_option maxHeartbeats 1000000 in
theorem isDigit_any (w : World) (x : Nat) : Calls Tryz.prog 259 #[.int .u8 (x : Int)] w fun e w' => e = .returned (.bool (dig x)) ∧ w' = w := by
  have e : dig x = (decide ((48 : Int) ≤ (x : Int)) && decide ((x : Int) ≤ 57)) := by unfold dig; rw [Bool.eq_iff_iff]; simp; omega
  rw [e]
  obtain ⟨b0, h0⟩ : ∃ b, (decide ((48 : Int) ≤ (x : Int))) = b := ⟨_, rfl⟩
  obtain ⟨b1, h1⟩ : ∃ b, (decide ((x : Int) ≤ 57)) = b := ⟨_, rfl⟩
  rw [h0, h1]
  clear e
  go_enter Tryz.func259, Tryz.ntmps259
  go_wp2_with fail
  all_goals
    go_ret
    refine ⟨?_, rfl⟩
    simp [*]
set_option maxHeartbeats 1000000 in
theorem isLetter_any (w : World) (x : Nat) : Calls Tryz.prog 262 #[.int .u8 (x : Int)] w fun e w' => e = .returned (.bool (ltr x)) ∧ w' = w := by
  have e : ltr x = (decide ((97 : Int) ≤ (x : Int)) && decide ((x : Int) ≤ 122) || decide ((65 : Int) ≤ (x : Int)) && decide ((x : Int) ≤ 90) || ((x : Int) == 95)) := by unfold ltr; rw [Bool.eq_iff_iff]; simp; omega
  rw [e]
  obtain ⟨b0, h0⟩ : ∃ b, (decide ((97 : Int) ≤ (x : Int))) = b := ⟨_, rfl⟩
  obtain ⟨b1, h1⟩ : ∃ b, (decide ((x : Int) ≤ 122)) = b := ⟨_, rfl⟩
  obtain ⟨b2, h2⟩ : ∃ b, (decide ((65 : Int) ≤ (x : Int))) = b := ⟨_, rfl⟩
  obtain ⟨b3, h3⟩ : ∃ b, (decide ((x : Int) ≤ 90)) = b := ⟨_, rfl⟩
  obtain ⟨b4, h4⟩ : ∃ b, ((x : Int) == 95) = b := ⟨_, rfl⟩
  rw [h0, h1, h2, h3, h4]
  clear e
  go_enter Tryz.func262, Tryz.ntmps262
  go_wp2_with fail
  all_goals
    go_ret
    refine ⟨?_, rfl⟩
    simp [*]
set_option maxHeartbeats 1000000 in
theorem isBlank_any (w : World) (x : Nat) : Calls Tryz.prog 258 #[.int .u8 (x : Int)] w fun e w' => e = .returned (.bool (blk x)) ∧ w' = w := by
  have e : blk x = (((x : Int) == 32) || ((x : Int) == 9) || ((x : Int) == 10) || ((x : Int) == 13)) := by unfold blk; rw [Bool.eq_iff_iff]; simp; omega
  rw [e]
  obtain ⟨b0, h0⟩ : ∃ b, ((x : Int) == 32) = b := ⟨_, rfl⟩
  obtain ⟨b1, h1⟩ : ∃ b, ((x : Int) == 9) = b := ⟨_, rfl⟩
  obtain ⟨b2, h2⟩ : ∃ b, ((x : Int) == 10) = b := ⟨_, rfl⟩
  obtain ⟨b3, h3⟩ : ∃ b, ((x : Int) == 13) = b := ⟨_, rfl⟩
  rw [h0, h1, h2, h3]
  clear e
  go_enter Tryz.func258, Tryz.ntmps258
  go_wp2_with fail
  all_goals
    go_ret
    refine ⟨?_, rfl⟩
    simp [*]
set_option maxHeartbeats 1000000 in
theorem saysItself_any (w : World) (x : Nat) : Calls Tryz.prog 292 #[.int .u8 (x : Int)] w fun e w' => e = .returned (.bool (pln x)) ∧ w' = w := by
  have e : pln x = (decide ((32 : Int) ≤ (x : Int)) && ((x : Int) != 34) && ((x : Int) != 92)) := by unfold pln; rw [Bool.eq_iff_iff]; simp; omega
  rw [e]
  obtain ⟨b0, h0⟩ : ∃ b, (decide ((32 : Int) ≤ (x : Int))) = b := ⟨_, rfl⟩
  obtain ⟨b1, h1⟩ : ∃ b, ((x : Int) != 34) = b := ⟨_, rfl⟩
  obtain ⟨b2, h2⟩ : ∃ b, ((x : Int) != 92) = b := ⟨_, rfl⟩
  rw [h0, h1, h2]
  clear e
  go_enter Tryz.func292, Tryz.ntmps292
  go_wp2_with fail
  all_goals
    go_ret
    refine ⟨?_, rfl⟩
    simp [*]
theorem wrd_any (w : World) (x : Nat) : Calls Tryz.prog 294 #[.int .u8 (x : Int)] w fun e w' => e = .returned (.bool (wrd x)) ∧ w' = w := by
  unfold wrd
  obtain ⟨b, hb⟩ : ∃ b, ltr x = b := ⟨_, rfl⟩
  obtain ⟨c, hc⟩ : ∃ c, dig x = c := ⟨_, rfl⟩
  have H1 := Lib.hid (isLetter_any w x)
  have H2 := Lib.hid (isDigit_any w x)
  rw [hb] at H1 ⊢
  rw [hc] at H2 ⊢
  clear hb hc
  go_enter Tryz.func294, Tryz.ntmps294
  go_wp2_with fail
  refine H1.out.mono ?_
  rintro e w' ⟨rfl, rfl⟩
  cases b with
  | true =>
    go_wp2_with fail
    go_ret
    exact ⟨rfl, rfl⟩
  | false =>
    go_wp2_with fail
    refine H2.out.mono ?_
    rintro e w' ⟨rfl, rfl⟩
    go_wp2_with fail
    go_ret
    exact ⟨rfl, rfl⟩
end Go.Proofs.YteacmanbiamhoaaGreatDoor
