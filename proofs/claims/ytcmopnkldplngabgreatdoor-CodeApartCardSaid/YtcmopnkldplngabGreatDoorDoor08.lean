/- What a card's laid variables give to the walks of layer 8: the signs,the error of a number that is too great. -/
import Derived.Test.YtcmopnkldplngabGreatDoorRow
import Derived.Test.YtcmopnkldplngabGreatDoorWbh
import Derived.Test.YtcmopnkldplngabGreatDoorTie
import Derived.LaidMore
import Derived.Stop.Joined
import Derived.Stop.LaidErr
import Derived.MakeChecks
import Derived.Lib.LaidTab
namespace Go.Proofs.YtcmopnkldplngabGreatDoor
open Go.RowKit
set_option maxRecDepth 100000
theorem cells_of_strs {H:Type} {enc:TypeId × Value→H} {P:Program} {w:World} {base:Nat} {sp:Nat→Bool} {held:Bool} {fuel:Nat} {t e:TypeId} {n:Nat} {cs:List Value} {zs:List (List UInt8)} {p:List MemPlace}
   (ht:P.underlying t=some (.array n e)) (he:P.underlying e=some .string) (hce:P.cellsOf e=1) (hct:P.cellsOf t=n)
   (h:DataW.trod enc P w base sp held fuel t cs=some (.agg (zs.map fun z => .lit (.string z)),p)):cs=zs.map fun z=>Value.string ⟨z.toArray⟩:=by
 cases fuel with
 | zero=>simp [DataW.trod] at h
 | succ fuel =>
   simp only [DataW.trod,ht,hce,hct,Nat.mul_one] at h
   split at h
   · rename_i hl
     obtain ⟨xs,hm,hx⟩:=Option.map_eq_some_iff.1 h
     have hxs:xs.map (·.1)=zs.map fun z=>(DataW.lit (.string z):DataW H):=by
       have:=congrArg Prod.fst hx
       simpa using this
     have hxl:xs.length=n:=by simpa using Lib.mapM_length hm
     have hzl:zs.length=n:=by
       have:=congrArg List.length hxs
       simp at this
       omega
     apply List.ext_getElem?
     intro i
     by_cases hi:i<n
     · obtain ⟨b,hb,hf⟩:=Lib.mapM_at hm i i (by simp [hi])
       obtain ⟨s,hc,rfl, _⟩:=DataW.trod_string he hf
       have h1:cs[i]?=some (.string s):=by
         have:=congrArg (·[0]?) hc
         simpa [List.getElem?_take,List.getElem?_drop] using this
       have h2:(xs.map (·.1))[i]?=some (DataW.lit (.string s.data.toList):DataW H):=by simp [hb]
       rw [hxs] at h2
       simp only [List.getElem?_map,Option.map_eq_some_iff,DataW.lit.injEq,Lit.string.injEq] at h2
       obtain ⟨z',hz',hz2⟩:=h2
       rw [h1,List.getElem?_map,hz']
       cases s
       simp at hz2
       simp [hz2]
     · rw [List.getElem?_eq_none (by omega),List.getElem?_eq_none (by simp; omega)]
   · cases h
theorem star_err : "*" ++ "errors.errorString" = "*errors.errorString" := by decide
theorem row_err (u : TypeId) (h : Tryz.prog.typeName? 3 u = some "*errors.errorString") : u = 387 :=
 typeName_ptr_named (nm := "errors.errorString") (by rw [star_err]; kernel_rfl) (by kernel_rfl) (by decide) u (by rw [star_err]; exact h)
theorem sg_of_head {W : World} {r : List (String × DataW Unit)} (hS : laidMet Tryz.prog (("drover/words.signs", Rows.laid_drover_words_signs) :: r) W) : ∀ j, j < 24 → W.cell? ⟨3, j, none⟩ = some (.string (strOf (signs.getD j []))) := by
 obtain ⟨ps,⟨g',t',cs,fuel,p,q,hg',ht',hvar,hd, _, _⟩, _⟩:=hS
 obtain rfl := Option.some.inj ((show Tryz.prog.globalNamed "drover/words.signs" = some 3 by kernel_rfl).symm.trans hg')
 obtain rfl:=Option.some.inj ((show (Tryz.prog.globals[3]?).map (·.type)=some 369 by kernel_rfl).symm.trans ht')
 have hcs:=cells_of_strs (zs:=signs.map fun s=>s.map UInt8.ofNat) Tryz.underlying369 Tryz.underlying9 (by kernel_rfl) (by kernel_rfl) hd
 intro j hj
 rw [World.var?_cell hg' hvar j]
 obtain ⟨l⟩:=cs
 simp only at hcs
 subst hcs
 have h24:signs.length=24:=by decide
 simp only [List.getElem?_toArray,List.map_map,List.getElem?_map]
 rw [List.getElem?_eq_getElem (by omega),List.getD_eq_getElem?_getD,List.getElem?_eq_getElem (by omega)]
 rfl
theorem er_of_head {W : World} {r : List (String × DataW Unit)} (hE : laidMet Tryz.prog (("strconv.ErrRange", Rows.laid_strconv_ErrRange) :: r) W) : ∃ ev, W.cell? ⟨7, 0, none⟩ = some ev ∧ (ev = .nilIface ∨ ∃ te pe, ev = .iface te pe) := by
 obtain ⟨a, s, hv, -, -, -⟩ := laid_sentinel (nm := "*errors.errorString") (W := W) hE (show Tryz.prog.globalNamed "strconv.ErrRange" = some 7 by kernel_rfl) (show (Tryz.prog.globals[7]?).map (·.type) = some 362 by kernel_rfl) Tryz.underlying362 row_err Tryz.underlying387 Tryz.underlying389 rfl rfl Tryz.underlying9 (by kernel_rfl) (by kernel_rfl)
 refine ⟨.iface 387 (.pointer (some a)),?_,.inr ⟨_, _,rfl⟩⟩
 rw [World.var?_cell (show Tryz.prog.globalNamed "strconv.ErrRange" = some 7 by kernel_rfl) hv 0]
 rfl
end Go.Proofs.YtcmopnkldplngabGreatDoor
