/- What a card's laid variables give to the walks of layer 11: the signs,the errors,the table of numbers,the words of instructions. -/
import Derived.Test.YtcmopnkldplngabGreatDoorDoor08
import Derived.Test.YtcmopnkldplngabGreatDoorTab9
namespace Go.Proofs.YtcmopnkldplngabGreatDoor
open Go.RowKit
set_option linter.unusedVariables false
set_option maxRecDepth 100000
def laidO : List (String × DataW Unit) := [("math/bits.deBruijn32tab", Rows.laid_math_bits_deBruijn32tab), ("math/bits.deBruijn64tab", Rows.laid_math_bits_deBruijn64tab), ("internal/strconv.uint64pow10", Rows.laid_internal_strconv_uint64pow10), ("strconv.ErrRange", Rows.laid_strconv_ErrRange), ("strconv.ErrSyntax", Rows.laid_strconv_ErrSyntax), ("drover/words.signs", Rows.laid_drover_words_signs), ("drover/code.opWords", Rows.laid_drover_code_opWords)]
theorem doorO_met (os:Os) (args:Array Value):laidMetH Tryz.prog laidO ((World.doorLaid Tryz.prog 400 os).forCall (fun _ _ => 0) ⟨#[],args,[]⟩).memory :=
 laidMetH_of_parts3 (fuel:=8) (laidMet_of_run' 8 (by kernel_rfl) (by kernel_rfl)) (by kernel_rfl) (by kernel_rfl)
def opWs:List (List Nat):=[[99,111,110,115,116],[108,111,97,100],[115,116,111,114,101],[97,100,100],[115,117,98],[109,117,108],[100,105,118],[109,111,100],[110,101,103],[110,111,116],[101,113],[110,101],[108,116],[108,101],[103,116],[103,101],[99,97,116],[97,116],[108,101,110],[116,117,112,108,101],[115,101,108,102],[99,97,108,108],[115,112,97,119,110],[115,101,110,100],[98,101,99,111,109,101],[115,116,111,112],[106,117,109,112],[117,110,108,101,115,115],[97,110,100],[111,114],[116,114,117,116,104],[112,111,112],[114,101,116,117,114,110],[101,110,100]]
theorem ow_of_head {W : World} {r : List (String × DataW Unit)} (hS : laidMet Tryz.prog (("drover/code.opWords", Rows.laid_drover_code_opWords) :: r) W) : ∀ j, j < 34 → W.cell? ⟨0, j, none⟩ = some (.string (strOf (opWs.getD j []))) := by
 obtain ⟨ps,⟨g',t',cs,fuel,p,q,hg',ht',hvar,hd, _, _⟩, _⟩:=hS
 obtain rfl := Option.some.inj ((show Tryz.prog.globalNamed "drover/code.opWords" = some 0 by kernel_rfl).symm.trans hg')
 obtain rfl:=Option.some.inj ((show (Tryz.prog.globals[0]?).map (·.type)=some 282 by kernel_rfl).symm.trans ht')
 have hcs:=cells_of_strs (zs:=opWs.map fun s=>s.map UInt8.ofNat) Tryz.underlying282 Tryz.underlying9 (by kernel_rfl) (by kernel_rfl) hd
 intro j hj
 rw [World.var?_cell hg' hvar j]
 obtain ⟨l⟩:=cs
 simp only at hcs
 subst hcs
 have h24:opWs.length=34:=by decide
 simp only [List.getElem?_toArray,List.map_map,List.getElem?_map]
 rw [List.getElem?_eq_getElem (by omega),List.getD_eq_getElem?_getD,List.getElem?_eq_getElem (by omega)]
 rfl
structure W11 (w:World):Prop where
 wt:Wt w
 tab:Tab9 w w.heap.size
 ow:∀ j,j<34→w.cell? ⟨0,j,none⟩=some (.string (strOf (opWs.getD j [])))
theorem W11.below {w w':World} (h:W11 w) (hb:Below w.heap.size w w'):W11 w' :=
 ⟨h.wt.below hb,(h.tab.below hb).more hb.size,fun j hj=>(hb.cell (p:=⟨_,j,none⟩) (World.block_lt_of_cell? _ _ (h.ow j hj))).trans (h.ow j hj)⟩
theorem w11_laid {W:World} (h:laidMetH Tryz.prog laidO W):W11 W:=by
 rw [MakeChecks.laidMetH_plain _ _ _ (by kernel_rfl)] at h
 have hT:=laidMet.tail (laidMet.tail h)
 have hE:=laidMet.tail hT
 have hS:=laidMet.tail (laidMet.tail hE)
 exact ⟨⟨sg_of_head hS,er_of_head hE⟩,tab9_of_head hT,ow_of_head (laidMet.tail hS)⟩
end Go.Proofs.YtcmopnkldplngabGreatDoor
