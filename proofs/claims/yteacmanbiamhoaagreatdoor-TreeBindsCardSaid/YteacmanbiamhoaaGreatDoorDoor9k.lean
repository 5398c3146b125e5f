/- What a card's laid variables give to the walks of layer 9 that part a text at its blanks. -/
import Derived.Test.YteacmanbiamhoaaGreatDoorDoor09
import Derived.Test.YteacmanbiamhoaaGreatDoorDoor08k
namespace Go.Proofs.YteacmanbiamhoaaGreatDoor
open Go.RowKit
set_option maxRecDepth 100000

structure W9k (w : World) : Prop where
  w9 : W9 w
  wk : Wk w
theorem w9k_laid {W : World} (h : laidMetH Tryz.prog laidK W) : W9k W := by
  have h0 := wk_laid h
  rw [MakeChecks.laidMetH_plain _ _ _ (by kernel_rfl)] at h
  exact ⟨⟨h0.wt, tab9_of_head (laidMet.tail (laidMet.tail h))⟩, h0⟩
end Go.Proofs.YteacmanbiamhoaaGreatDoor
