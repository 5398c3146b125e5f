/- What a card's laid variables give to the walks of layer 9: the signs, the errors, the table that FormatInt reads. -/
import Derived.Test.YteacmanbiamhoaaGreatDoorDoor08
import Derived.Test.YteacmanbiamhoaaGreatDoorYpt
namespace Go.Proofs.YteacmanbiamhoaaGreatDoor
open Go.RowKit
set_option maxRecDepth 100000

theorem Tab9.more {w : World} {B B' : Nat} (h : Tab9 w B) (hb : B ≤ B') : Tab9 w B' := fun w2 h2 => h w2 (h2.mono hb)
structure W9 (w : World) : Prop where
  wt : Wt w
  tab : Tab9 w w.heap.size
theorem W9.below {w w' : World} (h : W9 w) (hb : Below w.heap.size w w') : W9 w' := ⟨h.wt.below hb, (h.tab.below hb).more hb.size⟩
theorem tab9_of_head {W : World} {r : List (String × DataW Unit)} (h : laidMet Tryz.prog (("internal/strconv.uint64pow10", Rows.laid_internal_strconv_uint64pow10) :: r) W) : Tab9 W W.heap.size := by
  have h4 : laidMet Tryz.prog (("internal/strconv.uint64pow10", Lib.tabData .u64 Lib.pow10Tab) :: r) W := by
    have e : (Rows.laid_internal_strconv_uint64pow10 : DataW Unit) = Lib.tabData .u64 Lib.pow10Tab := by kernel_rfl
    rw [← e]
    exact h
  exact Lib.tabBelow_of_tabIs (Lib.tabIs_of_head (g := 4) (t := 331) (e := 222) (n := 20) (by kernel_rfl) (by kernel_rfl) Tryz.underlying331 Tryz.underlying222 (by kernel_rfl) (by kernel_rfl) h4)
theorem w9_laid {W : World} (h : laidMetH Tryz.prog laidW W) : W9 W := by
  have h0 := wt_laid h
  rw [MakeChecks.laidMetH_plain _ _ _ (by kernel_rfl)] at h
  exact ⟨h0, tab9_of_head (laidMet.tail (laidMet.tail h))⟩
end Go.Proofs.YteacmanbiamhoaaGreatDoor
