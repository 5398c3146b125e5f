/- strings.Repeat, of a text of our own: the library's contract. -/
import Derived.Test.YteacmanbiamhoaaGreatDoorAs
import Derived.Test.YteacmanbiamhoaaGreatDoorShelfB
import Derived.Test.YteacmanbiamhoaaGreatDoorPz
namespace Go.Proofs.YteacmanbiamhoaaGreatDoor
open Go.RowKit

theorem rep_data (l : List Nat) : ∀ c, Lib.repeatL (l.map UInt8.ofNat) c = (repN l c).map UInt8.ofNat
  | 0 => rfl
  | c + 1 => by
    rw [Lib.repeatL, repN, List.map_append, rep_data l c]
theorem rep_any (l : List Nat) (c : Nat) (S : ByteArray) (hS : S = strOf l) (w : World) (hl : l.length * c ≤ 1000000) (hc : c ≤ 1000000) :
    Calls Tryz.prog 26 #[.string S, .int .i64 (c : Int)] w fun e w' => e = .returned (.string (strOf (repN l c))) ∧ Below w.heap.size w w' := by
  subst hS
  refine (Tryz.strings_Repeat (strOf l) c w (by omega) (by rw [strOf_size]; omega)).mono ?_
  rintro e w' ⟨rfl, hb⟩
  refine ⟨?_, hb⟩
  show Ending.returned (Value.string ⟨(Lib.repeatL (l.map UInt8.ofNat).toArray.toList c).toArray⟩) = _
  rw [List.toList_toArray, rep_data]
  rfl
end Go.Proofs.YteacmanbiamhoaaGreatDoor
