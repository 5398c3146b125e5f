/- Sums of strings. -/
import Derived.Test.YtcmopnkldplngabGreatDoorWbh
import Derived.Laws.Concat
namespace Go.Proofs.YtcmopnkldplngabGreatDoor
open Go.RowKit
set_option linter.unusedVariables false
theorem strOf_app2 (a b:List Nat):strOf a ++ strOf b=strOf (a ++ b):=by
 apply ByteArray.ext
 rw [ByteArray.data_append]
 simp [strOf]
theorem add_strs2 (a b:List Nat) (h:a.length+b.length≤100000000) (w:World):(Op.stringOp .add (strOf a) (strOf b)).run Tryz.prog w = .ok (.string (strOf (a ++ b))) w:=by
 rw [← strOf_app2]
 exact run_string_add_sum (P:=Tryz.prog) (w:=w) (strOf a) (strOf b) (by rw [strOf_size,strOf_size]; omega)
end Go.Proofs.YtcmopnkldplngabGreatDoor
