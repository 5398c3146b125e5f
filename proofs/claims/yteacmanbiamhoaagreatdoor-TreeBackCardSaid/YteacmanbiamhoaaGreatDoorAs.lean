/- Sums of strings. -/
import Derived.Test.YteacmanbiamhoaaGreatDoorWdh
import Derived.Laws.Concat
namespace Go.Proofs.YteacmanbiamhoaaGreatDoor
open Go.RowKit
set_option linter.unusedVariables false

theorem str_open2 (S : ByteArray) : ∃ T : List Nat, S = strOf T ∧ (∀ x ∈ T, x < 256) ∧ T.length = S.size := by
  refine ⟨S.data.toList.map UInt8.toNat, ?_, ?_, ?_⟩
  · apply ByteArray.ext
    simp [strOf, Function.comp_def]
  · intro x hx
    obtain ⟨u, -, rfl⟩ := List.mem_map.1 hx
    exact u.toNat_lt
  · rw [List.length_map]
    exact Array.length_toList
theorem strOf_app2 (a b : List Nat) : strOf a ++ strOf b = strOf (a ++ b) := by
  apply ByteArray.ext
  rw [ByteArray.data_append]
  simp [strOf]
theorem add_strs2 (a b : List Nat) (h : a.length + b.length ≤ 100000000) (w : World) : (Op.stringOp .add (strOf a) (strOf b)).run Tryz.prog w = .ok (.string (strOf (a ++ b))) w := by
  rw [← strOf_app2]
  exact run_string_add_sum (P := Tryz.prog) (w := w) (strOf a) (strOf b) (by rw [strOf_size, strOf_size]; omega)
end Go.Proofs.YteacmanbiamhoaaGreatDoor
