/- What WordsKeys' card's laid variables give to its walk. -/
import Derived.Test.YteacmanbiamhoaaGreatDoorDoor08
namespace Go.Proofs.YteacmanbiamhoaaGreatDoor
open Go.RowKit
set_option maxRecDepth 100000

def laidK : List (String × DataW Unit) := [("math/bits.deBruijn32tab", Rows.laid_math_bits_deBruijn32tab), ("math/bits.deBruijn64tab", Rows.laid_math_bits_deBruijn64tab), ("internal/strconv.uint64pow10", Rows.laid_internal_strconv_uint64pow10), ("strconv.ErrRange", Rows.laid_strconv_ErrRange), ("strconv.ErrSyntax", Rows.laid_strconv_ErrSyntax), ("unicode.White_Space", Rows.laid_unicode_White_Space), ("strings.asciiSpace", Rows.laid_strings_asciiSpace), ("drover/words.signs", Rows.laid_drover_words_signs)]
theorem doorK_met (os : Os) (args : Array Value) : laidMetH Tryz.prog laidK ((World.doorLaid Tryz.prog 400 os).forCall (fun _ _ => 0) ⟨#[], args, []⟩).memory :=
  laidMetH_of_parts3 (fuel := 8) (laidMet_of_run' 8 (by kernel_rfl) (by kernel_rfl)) (by kernel_rfl) (by kernel_rfl)
structure Wk (w : World) : Prop where
  wt : Wt w
  sp : Lib.TabIs Tryz.prog w "strings.asciiSpace" .u8 Lib.asciiSpaceTab
theorem wk_laid {W : World} (h : laidMetH Tryz.prog laidK W) : Wk W := by
  rw [MakeChecks.laidMetH_plain _ _ _ (by kernel_rfl)] at h
  have hE := (laidMet.tail (laidMet.tail (laidMet.tail h)))
  have hA := (laidMet.tail (laidMet.tail (laidMet.tail hE)))
  have hS := laidMet.tail hA
  refine ⟨⟨sg_of_head hS, er_of_head hE⟩, ?_⟩
  have h4 : laidMet Tryz.prog (("strings.asciiSpace", Lib.tabData .u8 Lib.asciiSpaceTab) :: ("drover/words.signs", Rows.laid_drover_words_signs) :: []) W := by
    have e : (Rows.laid_strings_asciiSpace : DataW Unit) = Lib.tabData .u8 Lib.asciiSpaceTab := by kernel_rfl
    rw [← e]
    exact hA
  exact Lib.tabIs_of_head (g := 0) (t := 130) (e := 5) (n := 256) (by kernel_rfl) (by kernel_rfl) Tryz.underlying130 Tryz.underlying5 (by kernel_rfl) (by kernel_rfl) h4
end Go.Proofs.YteacmanbiamhoaaGreatDoor
