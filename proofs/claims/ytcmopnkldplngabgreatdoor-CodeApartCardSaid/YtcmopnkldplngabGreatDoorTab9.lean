/- The table that the library's numbers are written by. -/
import Derived.Test.YtcmopnkldplngabGreatDoorRow
import Derived.Test.YtcmopnkldplngabGreatDoorTie
import Derived.LaidMore
import Derived.Stop.Joined
import Derived.MakeChecks
import Derived.Lib.LaidTab
import Derived.Lib.AppendIntMem
namespace Go.Proofs.YtcmopnkldplngabGreatDoor
open Go.RowKit
set_option linter.unusedVariables false
set_option maxRecDepth 100000
def Tab9 (w : World) (B : Nat) : Prop := Lib.TabBelow Tryz.prog B w "internal/strconv.uint64pow10" .u64 Lib.pow10Tab
theorem Tab9.below {w w':World} {B:Nat} (h:Tab9 w B) (hb:Below B w w'):Tab9 w' B:=fun w2 h2=>h w2 (hb.trans h2)
theorem Tab9.is {w : World} {B : Nat} (h : Tab9 w B) : Lib.TabIs Tryz.prog w "internal/strconv.uint64pow10" .u64 Lib.pow10Tab := h w (Below.refl _ _)
theorem Tab9.more {w:World} {B B':Nat} (h:Tab9 w B) (hb:B≤B'):Tab9 w B':=fun w2 h2=>h w2 (h2.mono hb)
theorem tab9_of_head {W : World} {r : List (String × DataW Unit)} (h : laidMet Tryz.prog (("internal/strconv.uint64pow10", Rows.laid_internal_strconv_uint64pow10) :: r) W) : Tab9 W W.heap.size := by
 have h4 : laidMet Tryz.prog (("internal/strconv.uint64pow10", Lib.tabData .u64 Lib.pow10Tab) :: r) W := by
   have e:(Rows.laid_internal_strconv_uint64pow10:DataW Unit)=Lib.tabData .u64 Lib.pow10Tab:=by kernel_rfl
   rw [← e]
   exact h
 exact Lib.tabBelow_of_tabIs (Lib.tabIs_of_head (g:=1) (t:=351) (e:=120) (n:=20) (by kernel_rfl) (by kernel_rfl) Tryz.underlying351 Tryz.underlying120 (by kernel_rfl) (by kernel_rfl) h4)
end Go.Proofs.YtcmopnkldplngabGreatDoor
