/- Texts Eh,Ec,Ed of this seat in one: see each part. -/
import Derived.Lib.ItoaLen
import Derived.Deep.RegionHeld3
import Derived.Deep.Cut
import Derived.Deep.CutBlock
import Derived.Deep.CutRange
import Derived.Deep.LoopGhost
import Derived.Test.YtcmopnkldplngabGreatDoorEb
import Derived.Test.YtcmopnkldplngabGreatDoorOsr
import Derived.Test.YtcmopnkldplngabGreatDoorAs
import Derived.Test.YtcmopnkldplngabGreatDoorCae
import Derived.Test.YtcmopnkldplngabGreatDoorShelfC
import Derived.Test.YtcmopnkldplngabGreatDoorCyz
import Derived.Test.YtcmopnkldplngabGreatDoorZac
import Derived.Test.YtcmopnkldplngabGreatDoorTuv
import Derived.Test.YtcmopnkldplngabGreatDoorYt
namespace Go.Proofs.YtcmopnkldplngabGreatDoor
open Go.RowKit
set_option linter.unusedVariables false
set_option maxRecDepth 100000
def numI3 (z:Int):List Nat:=(Lib.itoa z).map UInt8.toNat
def showI (i:In3):List Nat:=opWs.getD (i.op-1) [] ++ [32] ++ numI3 i.a ++ [32] ++ numI3 i.b
theorem isop_any (j:Nat) (hj:j<34) (w:World):Calls Tryz.prog 147 #[.int .u8 ((j+1:Nat):Int)] w fun e w'=>e = .returned (.bool true)∧w'=w:=by
 have h1:(1:Int)≤((j+1:Nat):Int):=by omega
 have h2:((j+1:Nat):Int)≤34:=by omega
 have d1:decide ((1:Int)≤((j+1:Nat):Int))=true:=decide_eq_true h1
 have d2:decide (((j+1:Nat):Int)≤34)=true:=decide_eq_true h2
 generalize ((j+1:Nat):Int)=x at *
 go_enter Tryz.func147,Tryz.ntmps147
 go_wp2_with fail
 go_ret
 exact ⟨rfl,rfl⟩
set_option maxHeartbeats 4000000 in
theorem word_any (j:Nat) (hj:j<34) (w:World) (hw:W11 w):Calls Tryz.prog 101 #[.int .u8 ((j+1:Nat):Int)] w fun e w'=>e = .returned (.string (strOf (opWs.getD j [])))∧w'=w:=by
 have y0:=hw.ow j hj
 obtain ⟨X,hX⟩:∃ X,Hid (strOf (opWs.getD j [])=X):=⟨_,Lib.hid rfl⟩
 rw [hX.out] at y0 ⊢
 have HO:=Lib.hid (isop_any j hj w)
 clear hw
 go_enter Tryz.func101,Tryz.ntmps101
 go_wp2_with (first
   | (go_at_call 147
      refine HO.out.mono ?_
      rintro e w1 ⟨rfl,rfl⟩)
   | (fail))
 go_ret
 exact ⟨rfl,rfl⟩
theorem strOf_num3 (n:Int):(⟨(Lib.itoa n).toArray⟩:ByteArray)=strOf (numI3 n):=by
 unfold strOf numI3
 rw [List.map_map]
 congr 2
 conv=>lhs; rw [← List.map_id (Lib.itoa n)]
 refine List.map_congr_left fun x _ => ?_
 simp
theorem itoa3_any (z:Int) (h0 : -9223372036854775808≤z) (h1:z≤9223372036854775807) (w:World) (hw:W11 w):Calls Tryz.prog 102 #[.int .i64 z] w fun e w'=>e = .returned (.string (strOf (numI3 z)))∧Below w.heap.size w w':=by
 refine (Tryz.strconv_Itoa z h0 h1 w hw.tab.is).mono ?_
 rintro e w' ⟨rfl,k,os,rfl⟩
 exact ⟨by rw [strOf_num3],Lib.below_grow _ _ (Nat.le_refl _) k os⟩
theorem num3_len (z:Int) (h0 : -9223372036854775808≤z) (h1:z≤9223372036854775807):(numI3 z).length≤21:=by
 unfold numI3
 rw [List.length_map]
 exact Lib.itoa_length_le z h0 h1
theorem opws_len (j:Nat) (hj:j<34):(opWs.getD j []).length≤10:=by
 have h:((List.range 34).all fun j=>decide ((opWs.getD j []).length≤10))=true:=by decide
 have:=List.all_eq_true.1 h j (List.mem_range.2 hj)
 exact of_decide_eq_true this
set_option maxHeartbeats 8000000 in
theorem show_any (i:In3) (h1:1≤i.op) (h2:i.op≤34) (a0 : -9223372036854775808≤i.a) (a1:i.a≤9223372036854775807) (b0 : -9223372036854775808≤i.b) (b1:i.b≤9223372036854775807) (w:World) (hw:W11 w) :
   Calls Tryz.prog 59 #[.agg #[.int .u8 (i.op:Int),.int .i64 i.a,.int .i64 i.b]] w fun e w'=>e = .returned (.string (strOf (showI i)))∧Below w.heap.size w w':=by
 obtain ⟨op,a,b⟩:=i
 dsimp only at *
 obtain ⟨j,rfl⟩:∃ j,op=j+1:=⟨op-1,by omega⟩
 have hj:j<34:=by omega
 have e0:showI ⟨j+1,a,b⟩=opWs.getD j [] ++ [32] ++ numI3 a ++ [32] ++ numI3 b:=rfl
 rw [e0]
 have l0:=opws_len j hj
 have l1:=num3_len a a0 a1
 have l2:=num3_len b b0 b1
 have HWD:=Lib.hid (fun (W:World) (hb:Below w.heap.size w W)=>word_any j hj W (hw.below hb))
 have HIA:=Lib.hid (fun (W:World) (hb:Below w.heap.size w W)=>itoa3_any a a0 a1 W (hw.below hb))
 have HIB:=Lib.hid (fun (W:World) (hb:Below w.heap.size w W)=>itoa3_any b b0 b1 W (hw.below hb))
 have s1:=add_strs2 (opWs.getD j []) [32] (by rw [List.length_singleton]; omega)
 have s2:=add_strs2 (opWs.getD j [] ++ [32]) (numI3 a) (by rw [List.length_append,List.length_singleton]; omega)
 have s3:=add_strs2 (opWs.getD j [] ++ [32] ++ numI3 a) [32] (by rw [List.length_append,List.length_append,List.length_singleton]; omega)
 have s4:=add_strs2 (opWs.getD j [] ++ [32] ++ numI3 a ++ [32]) (numI3 b) (by rw [List.length_append,List.length_append,List.length_append,List.length_singleton]; omega)
 have e32:strOf [32]=⟨#[32]⟩:=rfl
 rw [e32] at s1 s3
 obtain ⟨X1,hX1⟩:∃ X,Hid (strOf (opWs.getD j [])=X):=⟨_,Lib.hid rfl⟩
 obtain ⟨X2,hX2⟩:∃ X,Hid (strOf (opWs.getD j [] ++ [32])=X):=⟨_,Lib.hid rfl⟩
 obtain ⟨X3,hX3⟩:∃ X,Hid (strOf (opWs.getD j [] ++ [32] ++ numI3 a)=X):=⟨_,Lib.hid rfl⟩
 obtain ⟨X4,hX4⟩:∃ X,Hid (strOf (opWs.getD j [] ++ [32] ++ numI3 a ++ [32])=X):=⟨_,Lib.hid rfl⟩
 obtain ⟨X5,hX5⟩:∃ X,Hid (strOf (opWs.getD j [] ++ [32] ++ numI3 a ++ [32] ++ numI3 b)=X):=⟨_,Lib.hid rfl⟩
 obtain ⟨Y1,hY1⟩:∃ X,Hid (strOf (numI3 a)=X):=⟨_,Lib.hid rfl⟩
 obtain ⟨Y2,hY2⟩:∃ X,Hid (strOf (numI3 b)=X):=⟨_,Lib.hid rfl⟩
 rw [hX1.out,hX2.out] at s1
 rw [hX2.out,hX3.out,hY1.out] at s2
 rw [hX3.out,hX4.out] at s3
 rw [hX4.out,hX5.out,hY2.out] at s4
 rw [hX1.out] at HWD
 rw [hY1.out] at HIA
 rw [hY2.out] at HIB
 rw [hX5.out]
 generalize hxx:((j+1:Nat):Int)=x at *
 have hq0:=heap_new w (.cells #[.int .u8 x,.int .i64 a,.int .i64 b] 45)
 have hb0:=(Below.refl w.heap.size w).alloc (Nat.le_refl _) (.cells #[.int .u8 x,.int .i64 a,.int .i64 b] 45)
 obtain ⟨W0,hW0⟩:∃ W,Hid (w.alloc (.cells #[.int .u8 x,.int .i64 a,.int .i64 b] 45)=W):=⟨_,Lib.hid rfl⟩
 rw [hW0.out] at hq0 hb0
 have c0:=cell_block hq0 0
 have c1:=cell_block hq0 1
 have c2:=cell_block hq0 2
 have hs0:=lt_heap hq0
 have HQ0:=Lib.hid hq0
 have HB0:=Lib.hid hb0
 clear hq0 hb0 hw h1 h2 e0 l0 l1 l2 e32 hX1 hX2 hX3 hX4 hX5 hY1 hY2 hj hxx a0 a1 b0 b1
 go_enter Tryz.func59,Tryz.ntmps59
 go_upto_region 1 with (fail)
 rw [hW0.out]
 go_region_held3 (fun w'=>w'.cell? ⟨w.heap.size,0,none⟩=some (.int .u8 x)∧w'.cell? ⟨w.heap.size,1,none⟩=some (.int .i64 a)∧w'.cell? ⟨w.heap.size,2,none⟩=some (.int .i64 b)) (go_keep)
   (first
     | (go_at_call 101
        refine (HWD.out _ (by first | exact HB0.out | exact HB0.out.drew)).mono ?_
        rintro e w1 ⟨rfl,rfl⟩)
     | (go_at_call 102
        (with_reducible show Calls _ _ #[.int .i64 a] _ _)
        refine (HIA.out _ (by first | exact HB0.out | exact HB0.out.drew)).mono ?_
        rintro e w2 ⟨rfl,hb2⟩
        have HB2:=Lib.hid (HB0.out.trans ((by first | exact hb2 | exact ((Below.refl _ _).drew).trans hb2:Below W0.heap.size W0 w2).mono HB0.out.size))
        have HQ2:=Lib.hid (heap_below (w':=w2) HQ0.out (by first | exact hb2 | exact ((Below.refl _ _).drew).trans hb2))
        have c0:=cell_block HQ2.out 0
        have c1:=cell_block HQ2.out 1
        have c2:=cell_block HQ2.out 2
        clear hb2)
     | (go_at_call 102
        (with_reducible show Calls _ _ #[.int .i64 b] _ _)
        refine (HIB.out _ HB2.out).mono ?_
        rintro e w3 ⟨rfl,hb3⟩
        have HB3:=Lib.hid (HB2.out.trans (hb3.mono HB2.out.size))
        have HQ3:=Lib.hid (heap_below HQ2.out hb3)
        have c0:=cell_block HQ3.out 0
        have c1:=cell_block HQ3.out 1
        have c2:=cell_block HQ3.out 2
        clear hb3)
     | (fail))
 go_wp2_with fail
 go_ret
 exact ⟨rfl,HB3.out⟩
end Go.Proofs.YtcmopnkldplngabGreatDoor
namespace Go.Proofs.YtcmopnkldplngabGreatDoor
open Go.RowKit
set_option linter.unusedVariables false
def saidF (T:List Nat):Option (List (List Nat)):=match parseF T (fuel T) with
 | some (g,0, _)=>if (checkF g).1=0 then (match (compG g).fns with
   | []=>none
   | f :: _ => if (decide (f.code.length≤1000)&&f.code.all (fun i=>decide (1≤i.op)&&decide (i.op≤34)&&decide (-9223372036854775808≤i.a)&&decide (i.a≤9223372036854775807)&&decide (-9223372036854775808≤i.b)&&decide (i.b≤9223372036854775807))) then some (f.code.map showI) else none) else none
 | _ => none
def aw11a:List Nat:=[102,117,110,99,32,102,40,97,41,32,123,32,114,101,116,117,114,110,32,97,32,43,32,49,59,32,125]
def aw11b:List Nat:=[97,99,116,111,114,32,99,40,110,41,32,123,32,111,110,32,103,111,40,120,41,32,123,32,115,101,110,100,32,115,101,108,102,32,103,111,40,110,32,38,38,32,120,41,59,32,125,32,125]
def aw11c:List (List Nat):=[[108,111,97,100,32,48,32,48],[99,111,110,115,116,32,48,32,48],[97,100,100,32,48,32,48],[114,101,116,117,114,110,32,48,32,48],[99,111,110,115,116,32,49,32,48],[114,101,116,117,114,110,32,48,32,48]]
def aw11d:List (List Nat):=[[115,101,108,102,32,48,32,48],[108,111,97,100,32,48,32,48],[97,110,100,32,53,32,48],[108,111,97,100,32,49,32,48],[116,114,117,116,104,32,48,32,48],[115,101,110,100,32,48,32,49],[101,110,100,32,48,32,48]]
theorem aw11a_s:saidF aw11a=some aw11c:=by as_aux_lemma=>kernel_rfl
theorem aw11b_s:saidF aw11b=some aw11d:=by as_aux_lemma=>kernel_rfl
theorem said_parts {T:List Nat} {L:List (List Nat)} (h:saidF T=some L):∃ g fl f r,parseF T (fuel T)=some (g,0,fl)∧(checkF g).1=0∧(compG g).fns=f :: r∧(∀ i∈f.code,1≤i.op∧i.op≤34 ∧ -9223372036854775808≤i.a∧i.a≤9223372036854775807 ∧ -9223372036854775808≤i.b∧i.b≤9223372036854775807)∧f.code.length≤1000∧L=f.code.map showI:=by
 unfold saidF at h
 split at h
 · rename_i g fl hp
   split at h
   · rename_i hz
     split at h
     · cases h
     · rename_i f r hf
       split at h
       · rename_i hall
         cases h
         rw [Bool.and_eq_true] at hall
         refine ⟨g,fl,f,r,hp,hz,hf,fun i hi=>?_,of_decide_eq_true hall.1,rfl⟩
         have:=List.all_eq_true.1 hall.2 i hi
         simp only [Bool.and_eq_true,decide_eq_true_eq] at this
         obtain ⟨⟨⟨⟨⟨h1,h2⟩,h3⟩,h4⟩,h5⟩,h6⟩:=this
         exact ⟨h1,h2,h3,h4,h5,h6⟩
       · cases h
   · cases h
 · cases h
end Go.Proofs.YtcmopnkldplngabGreatDoor
namespace Go.Proofs.YtcmopnkldplngabGreatDoor
open Go.RowKit
set_option linter.unusedVariables false
set_option maxRecDepth 100000
def OutSd (w:World) (L:List (List Nat)) (e:Ending) (w':World):Prop:=∃ v,e = .returned v∧OwnS w' w.heap.size v L∧Below w.heap.size w w'
theorem map_take {α β:Type} (F:α→β) (l:List α) (j:Nat) (x:α) (h:l[j]?=some x):(l.take (j+1)).map F=(l.take j).map F ++ [F x]:=by
 rw [List.take_add_one,h,List.map_append]
 rfl
set_option maxHeartbeats 8000000 in
theorem said11_any (T:List Nat) (h8:∀ x∈T,x<256) (hl:T.length≤90000) {L:List (List Nat)} (hT:saidF T=some L) (S:ByteArray) (hS:S=strOf T) (w:World) (hw:W11 w) :
   Calls Tryz.prog 26 #[.string S] w (OutSd w L):=by
 subst hS
 obtain ⟨g,fl,f,r,hp,hz,hf,hin,hfl,rfl⟩:=said_parts hT
 have HP:=Lib.hid (parse_any T h8 (by omega) w hw.wt (right_any w hw.wt) (fuel T) (by unfold fuel; omega) g 0 fl hp)
 have hnb:=parse_nb hp
 have hlen:=(right_bounds (checkF_zero hz).1).1
 have HW:=Lib.hid hw
 have HIN:=Lib.hid hin
 have HF:=Lib.hid hf
 have HZ:=Lib.hid hz
 have HFL:=Lib.hid hfl
 have HCO:=Lib.hid (fun (W:World) (hb:Below w.heap.size w W) (S:Nat→Prop) (hS:∀ b,S b→b<W.heap.size) (v:Value) (hr:Rd W S g.nd v)=>compile_any g (by omega) hnb W (hw.wt.below hb) v hS hr)
 clear h8 hl hT hp hw hin hf hz hnb hlen hfl
 unfold OutP at HP
 generalize strOf T=Z at *
 obtain ⟨i0,hi0,hi1,hi2,hi3⟩:=info_parts str_info2
 have HI:=Lib.hid (And.intro hi0 (And.intro hi1 (And.intro hi2 hi3)))
 clear hi0 hi1 hi2 hi3
 go_enter Tryz.func26,Tryz.ntmps26
 go_upto_region 4 with (first
   | (go_at_call 58
      refine HP.out.mono ?_
      rintro e w1 ⟨v,rfl,hr,hb1⟩
      obtain ⟨ya,yb,rfl,hya,hyb⟩:=(Pg.rd g v).1 hr
      obtain ⟨A1,n1,c1,rfl⟩:=hya.rowf
      obtain ⟨A2,n2,c2,rfl⟩:=hyb.rowf
      have hbr:=hb1.trans ((two w1 (.cells #[.slice A1 n1 c1,.slice A2 n2 c2] 25) (.cells #[.int .i64 0,.int .i64 (fl:Int)] 36)).mono hb1.size)
      have hbs:=two w1 (.cells #[.slice A1 n1 c1,.slice A2 n2 c2] 25) (.cells #[.int .i64 0,.int .i64 (fl:Int)] 36)
      have hqp:=heap_old (heap_new w1 (.cells #[.slice A1 n1 c1,.slice A2 n2 c2] 25)) (.cells #[.int .i64 0,.int .i64 (fl:Int)] 36)
      obtain ⟨V1,hV1⟩:∃ V,Hid ((w1.alloc (.cells #[.slice A1 n1 c1,.slice A2 n2 c2] 25)).alloc (.cells #[.int .i64 0,.int .i64 (fl:Int)] 36)=V):=⟨_,Lib.hid rfl⟩
      rw [hV1.out] at hbr hbs hqp
      have HBR:=Lib.hid hbr
      have HBS:=Lib.hid hbs
      have HQP:=Lib.hid hqp
      have HRD:=Lib.hid hr
      have HB1:=Lib.hid hb1
      clear hr hb1 hya hyb hbr hbs hqp)
   | (fail))
 rw [hV1.out]
 obtain ⟨⟨p0,p1⟩,-⟩:=bx2 HQP.out
 have hlp:=lt_heap HQP.out
 have HC1:=Lib.hid (HCO.out V1 HBR.out (Nw w w1) (fun b hb=>by have:=hb.2; have:=HBS.out.size; omega) _ (Rd.keep (fun p hp=>HBS.out.cell hp.2) (fun _ h=>h) _ _ HRD.out))
 go_upto_region 5 with (first
   | (go_at_call 8
      refine HC1.out.mono ?_
      rintro e w2 ⟨hb2,⟨hne,-⟩ | ⟨-,v,rfl,hm⟩⟩
      · exact absurd HZ.out hne
      obtain ⟨vc,vt,vF,vR,rfl,hmc⟩:=hm.cells
      obtain ⟨Ac,cc,rfl,-⟩:=hmc.c
      obtain ⟨At1,ct,rfl,-⟩:=hmc.t
      obtain ⟨Af,cf,rfl,hcf1,hcf2,hfa⟩:=hmc.f
      obtain ⟨Ar,cr,rfl,-⟩:=hmc.r
      obtain ⟨gf,uf,e1,hgb,hglt,-,-,-,u3,hic⟩:=hfa 0 f (by rw [HF.out]; rfl)
      subst e1
      obtain ⟨Ai,ci,rfl,hci1,hci2,hia⟩:=hic
      have HB2:=Lib.hid hb2
      have HU:=Lib.hid u3
      have HIA:=Lib.hid hia
      have HGF:=Lib.hid (And.intro hgb hglt)
      obtain ⟨nc,hnc⟩:∃ n,Hid ((compG g).cs.length=n):=⟨_,Lib.hid rfl⟩
      obtain ⟨nt,hnt⟩:∃ n,Hid ((compG g).ts.length=n):=⟨_,Lib.hid rfl⟩
      obtain ⟨nf,hnf⟩:∃ n,Hid ((compG g).fns.length=n):=⟨_,Lib.hid rfl⟩
      obtain ⟨nr,hnr⟩:∃ n,Hid ((compG g).roles.length=n):=⟨_,Lib.hid rfl⟩
      rw [hnc.out,hnt.out,hnf.out,hnr.out]
      have hnf0:nf≠0:=by
        rw [← hnf.out,HF.out]
        simp
      have HNF:=Lib.hid hnf0
      have hqm:=heap_old (heap_new w2 (.cells #[.slice Ac nc cc,.slice At1 nt ct,.slice (some ⟨gf,0,none⟩) nf cf,.slice Ar nr cr] 33)) (.cells #[.int .i64 0,.int .i64 0] 36)
      have hqf:=heap_new' (w2.alloc (.cells #[.slice Ac nc cc,.slice At1 nt ct,.slice (some ⟨gf,0,none⟩) nf cf,.slice Ar nr cr] 33)) (.cells #[.int .i64 0,.int .i64 0] 36) (w2.heap.size+1) (by simp)
      have hbt:=two w2 (.cells #[.slice Ac nc cc,.slice At1 nt ct,.slice (some ⟨gf,0,none⟩) nf cf,.slice Ar nr cr] 33) (.cells #[.int .i64 0,.int .i64 0] 36)
      obtain ⟨V2,hV2⟩:∃ V,Hid ((w2.alloc (.cells #[.slice Ac nc cc,.slice At1 nt ct,.slice (some ⟨gf,0,none⟩) nf cf,.slice Ar nr cr] 33)).alloc (.cells #[.int .i64 0,.int .i64 0] 36)=V):=⟨_,Lib.hid rfl⟩
      rw [hV2.out] at hqm hqf hbt
      have HQM:=Lib.hid hqm
      have HQF:=Lib.hid hqf
      have HBT:=Lib.hid hbt
      clear hb2 hm hmc hfa u3 hia hgb hglt hqm hqf hbt hnf0)
   | (fail))
 rw [hV2.out]
 obtain ⟨hgb,hglt⟩:=HGF.out
 have hbf:=HNF.out
 have t0:((nf:Int) == 0)=false:=beq_eq_false_iff_ne.2 (by omega)
 have t1:(0:Int)<(nf:Int):=by omega
 obtain ⟨⟨b0,b1,b2,b3⟩,-⟩:=box4f HQM.out
 obtain ⟨⟨d0,d1⟩,-⟩:=bx2 HQF.out
 have hl1:=lt_heap HQM.out
 have hl2:=lt_heap HQF.out
 have y3:V2.cell? ⟨gf,3,none⟩=some (.slice Ai f.code.length ci):=(HBT.out.cell (p:=⟨gf,3,none⟩) hglt).trans HU.out
 have hgl:gf<V2.heap.size:=Nat.lt_of_lt_of_le hglt HBT.out.size
 obtain ⟨n,hn⟩:∃ n,Hid (f.code.length=n):=⟨_,Lib.hid rfl⟩
 rw [hn.out] at y3 hci1
 clear hbf
 go_wp2_with fail
 have HV2:Hid (Below w.heap.size w V2):=Lib.hid (HBR.out.trans ((HB2.out.trans (HBT.out.mono HB2.out.size)).mono HBR.out.size))
 clear hl1 hl2 hgl y3 d0 d1 b0 b1 b2 b3 hgb hglt t0 t1
 go_loopg [7,38] n (fun g v i wr=>∃ j:Nat,j+g=n∧i = .int .i64 (j:Int)∧Hid (OwnS wr V2.heap.size v ((f.code.take j).map showI))∧Hid (Below V2.heap.size V2 wr))
 case atStart=>exact ⟨0,by omega,rfl,Lib.hid (OwnS.nil _ _),Lib.hid (Below.refl _ _)⟩
 case round =>
   obtain ⟨j,hj,rfl,HO,HK⟩:=hrel
   cases gk with
   | zero =>
     have h1:¬ (j:Int)<(n:Int):=by omega
     have HE:Hid (OwnS wr V2.heap.size u7 (f.code.map showI)):=Lib.hid (by
       have:=HO.out
       rw [List.take_of_length_le (by rw [hn.out]; omega)] at this
       exact this)
     obtain ⟨Ao,co,eu,-⟩:=HE.out.form
     rw [List.length_map,hn.out] at eu
     subst eu
     go_wp2_with fail
     go_ret
     exact ⟨_,rfl,own_le HE.out HV2.out.size,HV2.out.trans (HK.out.mono HV2.out.size)⟩
   | succ g =>
     have h1:(j:Int)<(n:Int):=by omega
     have hjl:j<f.code.length:=by rw [hn.out]; omega
     have hfl:=HFL.out
     obtain ⟨gi,e1,hgi1,hgi2,u0,u1,u2⟩:=HIA.out j f.code[j] (List.getElem?_eq_getElem hjl)
     subst e1
     have HX:=HIN.out f.code[j] (List.getElem_mem hjl)
     have HMT:=Lib.hid (map_take showI f.code j f.code[j] (List.getElem?_eq_getElem hjl))
     generalize f.code[j]=x at *
     obtain ⟨o1,o2,a0,a1,b0,b1⟩:=HX
     have hg2:gi<V2.heap.size:=Nat.lt_of_lt_of_le hgi2 HBT.out.size
     have hg3:gi<wr.heap.size:=Nat.lt_of_lt_of_le hg2 HK.out.size
     have y0:wr.cell? ⟨gi,j*3,none⟩=some (.int .u8 (x.op:Int)):=(HK.out.cell (p:=⟨gi,j*3,none⟩) hg2).trans ((HBT.out.cell (p:=⟨gi,j*3,none⟩) hgi2).trans u0)
     have y1:wr.cell? ⟨gi,j*3+1,none⟩=some (.int .i64 x.a):=(HK.out.cell (p:=⟨gi,j*3+1,none⟩) hg2).trans ((HBT.out.cell (p:=⟨gi,j*3+1,none⟩) hgi2).trans u1)
     have y2:wr.cell? ⟨gi,j*3+2,none⟩=some (.int .i64 x.b):=(HK.out.cell (p:=⟨gi,j*3+2,none⟩) hg2).trans ((HBT.out.cell (p:=⟨gi,j*3+2,none⟩) hgi2).trans u2)
     have hq1:=heap_new wr (.cells #[.int .u8 (x.op:Int),.int .i64 x.a,.int .i64 x.b] 45)
     have hb1:=(Below.refl wr.heap.size wr).alloc (Nat.le_refl _) (.cells #[.int .u8 (x.op:Int),.int .i64 x.a,.int .i64 x.b] 45)
     obtain ⟨W1,hW1⟩:∃ W,Hid (wr.alloc (.cells #[.int .u8 (x.op:Int),.int .i64 x.a,.int .i64 x.b] 45)=W):=⟨_,Lib.hid rfl⟩
     rw [hW1.out] at hq1 hb1
     have c0:=cell_block hq1 0
     have c1:=cell_block hq1 1
     have c2:=cell_block hq1 2
     have hs1:=lt_heap hq1
     have HB1:=Lib.hid (HK.out.trans (hb1.mono HK.out.size))
     have HO1:=Lib.hid (HO.out.below hb1)
     have HSH:=Lib.hid (show_any x o1 o2 a0 a1 b0 b1 W1 (HW.out.below (HV2.out.trans (HB1.out.mono HV2.out.size))))
     obtain ⟨X,hX⟩:∃ X,Hid (strOf (showI x)=X):=⟨_,Lib.hid rfl⟩
     rw [hX.out] at HSH
     have hln:((f.code.take j).map showI).length=j:=by rw [List.length_map,List.length_take]; omega
     have hj9:j≤1000:=by omega
     have HJ2:Hid (((f.code.take (j+1)).map showI).length=j+1):=Lib.hid (by rw [List.length_map,List.length_take]; omega)
     clear hfl hq1 hb1 u0 u1 u2 o1 o2 a0 a1 b0 b1 hgi1 hgi2 hjl
     go_upto_region 11 with (fail)
     rw [hW1.out]
     go_wp2_with (first
       | (go_at_call 59
          refine HSH.out.mono ?_
          rintro e w3 ⟨rfl,hb3⟩
          have HB3:=Lib.hid (HB1.out.trans (hb3.mono HB1.out.size))
          have HO3:=Lib.hid (HO1.out.below hb3)
          have hat:=At.made w3 #[.string X] 9
          have HAT:=Lib.hid hat
          have hsz3:=HB3.out.size
          clear hb3 hat)
       | (at_builtin
          refine wpList_append_at _ rfl (.tmp 42) (.tmp 45) 29 rfl V2.heap.size 9 i0 _ 1 16 Tryz.underlying29 HI.out.1 HI.out.2.1 HI.out.2.2.1 HI.out.2.2.2 rfl (by omega) _ _ _ rfl (HO3.out.below ((Below.refl _ _).alloc (Nat.le_refl _) _)) _ _ 1 1 [.string X] rfl HAT.out rfl (by intro u hu; simp at hu; subst hu; rfl) (by unfold maxLen; omega) (by omega) (by simp; omega) ?_
          intro v' w4 ho4 hg4 hor4
          have HO4:Hid (OwnS w4 V2.heap.size v' ((f.code.take (j+1)).map showI)):=Lib.hid (by
            unfold OwnS
            rw [HMT.out,List.length_append,List.map_append]
            simpa [hX.out] using ho4)
          have HK4:Hid (Below V2.heap.size V2 w4):=Lib.hid (by
            have h2:=HO3.out.below ((Below.refl _ w3).alloc (Nat.le_refl _) (.cells #[.string X] 9))
            exact (HB3.out.alloc HB3.out.size _).grown hg4 (by simp; have:=HB3.out.size; omega) (fun k hk=>(World.ownsRow.lt h2 k hk).1))
          obtain ⟨A5,c5,e5,-⟩:=HO4.out.form
          rw [HJ2.out] at e5
          subst e5
          clear ho4 hg4 hor4)
       | (fail))
     go_roundg g
     case measure=>omega
     case rel=>exact ⟨j+1,by omega,by go_num,HO4,HK4⟩
theorem OwnS.rd {w:World} {base:Nat} {v:Value} {l:List (List Nat)} (h:OwnS w base v l) (h8:∀ s∈l,(∀ y∈s,y<256)∧s.length≤140737488355328):Rd w (fun _ => True) (.row 1 (l.map nmNd)) v:=by
 obtain ⟨A,c,rfl,hc,hcm,hcell⟩:=own_form h
 rw [Rd]
 refine ⟨A,c,by rw [List.length_map],by rw [List.length_map]; exact hc,hcm,Rds.of fun j x hx=>?_⟩
 rw [List.getElem?_map] at hx
 obtain ⟨s,hs,rfl⟩:=Option.map_eq_some_iff.1 hx
 obtain ⟨g,rfl,-,-,hu⟩:=hcell (len_pos hs)
 have hm:s∈l:=List.mem_of_getElem? hs
 refine ⟨g,0,[.string (strOf s)],rfl,trivial,rfl,fun i u hi=>?_,(nm_rd _ _).2 ⟨rfl,h8 s hm⟩⟩
 match i,hi with
 | 0,hi =>
   have e:u = .string (strOf s):=by simpa using hi.symm
   subst e
   have:=hu j (.string (strOf s)) (by rw [List.getElem?_map,hs]; rfl)
   simpa using this
theorem lit_rd {W:World} {g:Nat} {l:List (List Nat)} {A:Array Value} {fr:Nat × Nat} (hq:W.heap[g]?=some (.cells A 9 fr)) (hA:A.toList=l.map fun s => .string (strOf s)) (hl:l.length≤1000) (h8:∀ s∈l,(∀ y∈s,y<256)∧s.length≤140737488355328):Rd W (fun _ => True) (.row 1 (l.map nmNd)) (.slice (some ⟨g,0,none⟩) l.length l.length):=by
 rw [Rd]
 refine ⟨_,l.length,by rw [List.length_map],by rw [List.length_map]; exact Nat.le_refl _,by unfold maxLen; omega,Rds.of fun j x hx=>?_⟩
 rw [List.getElem?_map] at hx
 obtain ⟨s,hs,rfl⟩:=Option.map_eq_some_iff.1 hx
 have hm:s∈l:=List.mem_of_getElem? hs
 refine ⟨g,0,[.string (strOf s)],rfl,trivial,rfl,fun i u hi=>?_,(nm_rd _ _).2 ⟨rfl,h8 s hm⟩⟩
 match i,hi with
 | 0,hi =>
   have e:u = .string (strOf s):=by simpa using hi.symm
   subst e
   have h1:A[j]?=some (.string (strOf s)):=by
     rw [← Array.getElem?_toList,hA,List.getElem?_map,hs]
     rfl
   simp [World.cell?,hq,h1]
theorem aw11_8:(∀ s∈aw11c,(∀ y∈s,y<256)∧s.length≤140737488355328)∧∀ s∈aw11d,(∀ y∈s,y<256)∧s.length≤140737488355328:=by decide
set_option maxHeartbeats 8000000 in
theorem awake11_any (w:World) (hw:W11 w):Calls Tryz.prog 7 #[] w fun e w'=>e = .returned (.bool true)∧Below w.heap.size w w':=by
 have HS1:=Lib.hid (fun (W:World) (hb:Below w.heap.size w W)=>said11_any aw11a (by decide) (by decide) aw11a_s _ rfl W (hw.below hb))
 have HS2:=Lib.hid (fun (W:World) (hb:Below w.heap.size w W)=>said11_any aw11b (by decide) (by decide) aw11b_s _ rfl W (hw.below hb))
 have HB0:=Lib.hid (Below.refl w.heap.size w)
 clear hw
 go_enter Tryz.func7,Tryz.ntmps7
 go_wp2_with fail
 refine (HS1.out _ HB0.out).mono ?_
 rintro e w1 ⟨v1,rfl,ho1,hb1⟩
 obtain ⟨A1,c1,rfl,-⟩:=ho1.form
 have e6:aw11c.length=6:=rfl
 rw [e6] at ho1 ⊢
 have HO1:=Lib.hid ho1
 have HB1:=Lib.hid hb1
 clear ho1 hb1 e6
 go_wp2_with fail
 refine (sametexts_any aw11c _ (fun _ => True) (fun _ => True) _ _ ((HO1.out.below ((Below.refl _ _).alloc (Nat.le_refl _) _)).rd aw11_8.1) (lit_rd (l:=aw11c) (heap_new w1 _) (by kernel_rfl) (by decide) aw11_8.1)).mono ?_
 rintro e w2 ⟨rfl,k2,e2⟩
 have HB2:Hid (Below w.heap.size w w2):=Lib.hid (by rw [e2]; exact below_drewN (HB1.out.alloc HB1.out.size _) k2)
 clear e2
 clear HO1
 go_wp2_with fail
 refine (HS2.out _ HB2.out).mono ?_
 rintro e w3 ⟨v3,rfl,ho3,hb3⟩
 obtain ⟨A3,c3,rfl,-⟩:=ho3.form
 have e7:aw11d.length=7:=rfl
 rw [e7] at ho3 ⊢
 have HO3:=Lib.hid ho3
 have HB3:=Lib.hid (HB2.out.trans (hb3.mono HB2.out.size))
 clear ho3 hb3 e7
 go_wp2_with fail
 refine (sametexts_any aw11d _ (fun _ => True) (fun _ => True) _ _ ((HO3.out.below ((Below.refl _ _).alloc (Nat.le_refl _) _)).rd aw11_8.2) (lit_rd (l:=aw11d) (heap_new w3 _) (by kernel_rfl) (by decide) aw11_8.2)).mono ?_
 rintro e w4 ⟨rfl,k4,e4⟩
 have HB4:Hid (Below w.heap.size w w4):=Lib.hid (by rw [e4]; exact below_drewN (HB3.out.alloc HB3.out.size _) k4)
 clear e4
 clear HO3
 go_wp2_with fail
 go_ret
 exact ⟨rfl,HB4.out⟩
end Go.Proofs.YtcmopnkldplngabGreatDoor
