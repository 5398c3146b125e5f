/- cmp.Compare at a kind, at int64, at int, at strings: the walks. -/
import Derived.Test.YtfobmlicmbelnaaDoorRep
import Derived.WalkLawsBesides
namespace Go.Proofs.YtfobmlicmbelnaaDoor
open Go.RowKit

theorem ret_int {k : IntKind} {a b : Int} (h : a = b) : Ending.returned (.int k a) = Ending.returned (.int k b) := by rw [h]
set_option maxHeartbeats 400000 in
theorem cmp_kind (a b : Int) (w : World) : Calls Tryd.prog 53 #[.int .u8 a, .int .u8 b] w fun e w' => e = .returned (.int .i64 (sg a b)) ∧ w = w' := by
  have HS := Lib.hid (show sg a b = if a < b then -1 else if b < a then 1 else 0 from rfl)
  by_cases h1 : a < b
  · go_enter Tryd.func53, Tryd.ntmps53
    go_wp2
    go_ret
    exact ⟨ret_int (by rw [HS.out, if_pos h1]), rfl⟩
  · by_cases h2 : b < a
    · go_enter Tryd.func53, Tryd.ntmps53
      go_wp2
      go_ret
      exact ⟨ret_int (by rw [HS.out, if_neg (by omega), if_pos h2]), rfl⟩
    · go_enter Tryd.func53, Tryd.ntmps53
      go_wp2
      go_ret
      exact ⟨ret_int (by rw [HS.out, if_neg (by omega), if_neg (by omega)]), rfl⟩
set_option maxHeartbeats 400000 in
theorem cmp_int64 (a b : Int) (w : World) : Calls Tryd.prog 54 #[.int .i64 a, .int .i64 b] w fun e w' => e = .returned (.int .i64 (sg a b)) ∧ w = w' := by
  have HS := Lib.hid (show sg a b = if a < b then -1 else if b < a then 1 else 0 from rfl)
  by_cases h1 : a < b
  · go_enter Tryd.func54, Tryd.ntmps54
    go_wp2
    go_ret
    exact ⟨ret_int (by rw [HS.out, if_pos h1]), rfl⟩
  · by_cases h2 : b < a
    · go_enter Tryd.func54, Tryd.ntmps54
      go_wp2
      go_ret
      exact ⟨ret_int (by rw [HS.out, if_neg (by omega), if_pos h2]), rfl⟩
    · go_enter Tryd.func54, Tryd.ntmps54
      go_wp2
      go_ret
      exact ⟨ret_int (by rw [HS.out, if_neg (by omega), if_neg (by omega)]), rfl⟩
set_option maxHeartbeats 400000 in
theorem cmp_int (a b : Int) (w : World) : Calls Tryd.prog 56 #[.int .i64 a, .int .i64 b] w fun e w' => e = .returned (.int .i64 (sg a b)) ∧ w = w' := by
  have HS := Lib.hid (show sg a b = if a < b then -1 else if b < a then 1 else 0 from rfl)
  by_cases h1 : a < b
  · go_enter Tryd.func56, Tryd.ntmps56
    go_wp2
    go_ret
    exact ⟨ret_int (by rw [HS.out, if_pos h1]), rfl⟩
  · by_cases h2 : b < a
    · go_enter Tryd.func56, Tryd.ntmps56
      go_wp2
      go_ret
      exact ⟨ret_int (by rw [HS.out, if_neg (by omega), if_pos h2]), rfl⟩
    · go_enter Tryd.func56, Tryd.ntmps56
      go_wp2
      go_ret
      exact ⟨ret_int (by rw [HS.out, if_neg (by omega), if_neg (by omega)]), rfl⟩
theorem toList_strOf (l : List Nat) : (strOf l).toList = l.map UInt8.ofNat := by
  rw [ByteArray.toList_eq]
  simp [strOf]
theorem less_cml : ∀ a b : List Nat, (∀ x ∈ a, x < 256) → (∀ x ∈ b, x < 256) → Op.bytesLess (a.map UInt8.ofNat) (b.map UInt8.ofNat) = decide (cml a b < 0)
  | [], [], _, _ => by simp [Op.bytesLess, cml]
  | [], y :: b, _, _ => by simp [Op.bytesLess, cml]
  | x :: a, [], _, _ => by simp [Op.bytesLess, cml]
  | x :: a, y :: b, ha, hb => by
    have ih := less_cml a b (fun x hx => ha x (by simp [hx])) (fun x hx => hb x (by simp [hx]))
    have hx := ha x (by simp)
    have hy := hb y (by simp)
    rw [List.map_cons, List.map_cons, Op.bytesLess, ih]
    have e1 : (UInt8.ofNat x < UInt8.ofNat y) = (x < y) := by
      rw [UInt8.lt_iff_toNat_lt, UInt8.toNat_ofNat', UInt8.toNat_ofNat', Nat.mod_eq_of_lt (by omega), Nat.mod_eq_of_lt (by omega)]
    have e2 : (UInt8.ofNat x == UInt8.ofNat y) = decide (x = y) := by
      by_cases h : x = y
      · subst h
        simp
      · rw [decide_eq_false h]
        refine beq_eq_false_iff_ne.2 fun h' => h ?_
        have := congrArg UInt8.toNat h'
        rw [UInt8.toNat_ofNat', UInt8.toNat_ofNat', Nat.mod_eq_of_lt (by omega), Nat.mod_eq_of_lt (by omega)] at this
        exact this
    rw [e2]
    rcases Nat.lt_trichotomy x y with h | h | h
    · rw [cml_lt h]
      simp [e1, h]
    · subst h
      rw [cml_eq]
      simp
    · rw [cml_gt h]
      simp [e1]
      omega
set_option maxHeartbeats 400000 in
theorem cmp_string (a b : List Nat) (w : World) (ha : ∀ x ∈ a, x < 256) (hb : ∀ x ∈ b, x < 256) : Calls Tryd.prog 55 #[.string (strOf a), .string (strOf b)] w fun e w' => e = .returned (.int .i64 (cml a b)) ∧ w = w' := by
  have hr := cml_range a b
  have h1 : Op.bytesLess (strOf a).toList (strOf b).toList = decide (cml a b < 0) := by rw [toList_strOf, toList_strOf, less_cml a b ha hb]
  have h2 := strOf_eq a b ha hb
  have h3 : decide (a = b) = decide (cml a b = 0) := by
    by_cases h : a = b
    · subst h
      simp [cml_self]
    · rw [decide_eq_false h, decide_eq_false fun h' => h (cml_zero h')]
  rw [h3] at h2
  clear h3 ha hb
  generalize cml a b = c at *
  generalize strOf a = s at *
  generalize strOf b = t at *
  by_cases g1 : c < 0
  · have HC := Lib.hid (show c = -1 by omega)
    rw [decide_eq_true g1] at h1
    clear h2 g1 hr
    go_enter Tryd.func55, Tryd.ntmps55
    go_wp2
    go_ret
    exact ⟨ret_int HC.out.symm, rfl⟩
  · rw [decide_eq_false g1] at h1
    by_cases g2 : c = 0
    · rw [decide_eq_true g2] at h2
      have HC := Lib.hid g2
      have h3 : (!s.toList == t.toList) = false := by rw [h2]; rfl
      clear g1 g2 hr
      go_enter Tryd.func55, Tryd.ntmps55
      go_wp2
      go_ret
      exact ⟨ret_int HC.out.symm, rfl⟩
    · rw [decide_eq_false g2] at h2
      have HC := Lib.hid (show c = 1 by omega)
      have h3 : (!s.toList == t.toList) = true := by rw [h2]; rfl
      clear g1 g2 hr
      go_enter Tryd.func55, Tryd.ntmps55
      go_wp2
      go_ret
      exact ⟨ret_int HC.out.symm, rfl⟩
end Go.Proofs.YtfobmlicmbelnaaDoor
