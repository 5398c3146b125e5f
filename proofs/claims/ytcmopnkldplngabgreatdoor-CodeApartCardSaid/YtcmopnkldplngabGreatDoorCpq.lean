/- Texts Cp,Cp1,Cp2,Cp3,Cq of this seat in one: see each part. -/
import Derived.Test.YtcmopnkldplngabGreatDoorCln
import Derived.Test.YtcmopnkldplngabGreatDoorCae
namespace Go.Proofs.YtcmopnkldplngabGreatDoor
open Go.RowKit
set_option linter.unusedVariables false
def SmC (base:Nat) (K:Bk) (E:Env) (nm:List Nat) (pr:Nat) (S:Nat→Prop) (x:Sm):Prop:=∀ (w:World) (st:Ws) (v:Value),WrS base K E nm pr w st→Rd w S x.nd v→Rm st (smN x) →
 Calls Tryz.prog 154 #[at0 K.qw,v] w (OutW base K E nm pr w (smW E st x))
def SmsC (base:Nat) (K:Bk) (E:Env) (nm:List Nat) (pr:Nat) (S:Nat→Prop) (l:List Sm):Prop:=∀ (w:World) (st:Ws) (v:Value),WrS base K E nm pr w st→Rd w S (.row 6 (l.map Sm.nd)) v→Rm st (smsN l) →
 Calls Tryz.prog 110 #[at0 K.qw,v] w (OutW base K E nm pr w (smsW E st.sc.length st l))
theorem bx6k {X:World} {g:Nat} {y0 y1 y2 y3 y4 y5:Value} {E:TypeId} (h:X.heap[g]?=some (.cells #[y0,y1,y2,y3,y4,y5] E (0,0))):X.cell? ⟨g,0,none⟩=some y0∧X.cell? ⟨g,1,none⟩=some y1∧X.cell? ⟨g,2,none⟩=some y2∧X.cell? ⟨g,3,none⟩=some y3∧X.cell? ⟨g,4,none⟩=some y4∧X.cell? ⟨g,5,none⟩=some y5:=⟨cell_block h 0,cell_block h 1,cell_block h 2,cell_block h 3,cell_block h 4,cell_block h 5⟩
end Go.Proofs.YtcmopnkldplngabGreatDoor
namespace Go.Proofs.YtcmopnkldplngabGreatDoor
open Go.RowKit
set_option linter.unusedVariables false
section
variable {base:Nat} {K:Bk} {E:Env} {nm:List Nat} {pr:Nat} {S:Nat→Prop}
set_option maxRecDepth 100000 in
set_option maxHeartbeats 8000000 in
theorem sm_let (hS:∀ b,S b→b<base) (s:List Nat) (x:List Ex) (b e:List Sm) (ln:Int) (IX:ExsC base K E nm pr S x):SmC base K E nm pr S (.mk 1 s x b e ln):=by
 intro w st v hW hr hroom
 rw [smN] at hroom
 obtain ⟨yx,yb,ye,rfl,h8,hl8,hyx,hyb,hye⟩:=(Sm.rd 1 s x b e ln v).1 hr
 have HYB:=Lib.hid hyb
 have HYE:=Lib.hid hye
 have hyx':=hyx
 rw [Rd] at hyx' hyb hye
 obtain ⟨Ax,cx,rfl,hcx,hcmx,-⟩:=hyx'
 obtain ⟨Ab,cb,rfl,hcb,hcmb,-⟩:=hyb
 obtain ⟨Ae,ce,rfl,hce,hcme,-⟩:=hye
 rw [List.length_map] at hcx hyx hcb hce HYB HYE
 rw [List.length_map,List.length_map,List.length_map]
 have hq:=hW.lt
 obtain ⟨hqc,hqw,hbw⟩:=hq
 have HOK:=Lib.hid hW.ok
 have hWA:=hW.alloc (.cells #[.int .u8 1,.string (strOf s),.slice Ax x.length cx,.slice Ab b.length cb,.slice Ae e.length ce,.int .i64 ln] 218)
 have HC0:=Lib.hid ((Cf.refl base K w).alloc hbw (.cells #[.int .u8 1,.string (strOf s),.slice Ax x.length cx,.slice Ab b.length cb,.slice Ae e.length ce,.int .i64 ln] 218))
 have HQ:=Lib.hid (heap_new w (.cells #[.int .u8 1,.string (strOf s),.slice Ax x.length cx,.slice Ab b.length cb,.slice Ae e.length ce,.int .i64 ln] 218))
 have hg:=Gr.exs E st x
 have HRM:=hroom.mono (show exsN x+1 ≤ _ by omega)
 have hrm1:=HRM.gr hg
 have hr1:=HRM.code
 have hr2:=HRM.cs
 have hr3:=HRM.sc
 have HIX:=Lib.hid (IX _ st _ hWA (Rd.cf hS hyx HC0.out.b) (by omega) (by omega) (by omega))
 obtain ⟨V0,hV0⟩:=hW
 obtain ⟨⟨a0,a1,a2,a3,a4,a5⟩,-⟩:=bx6 hV0.h
 obtain ⟨AK,cK,hAK,hcK,hcmK⟩:=row_form hV0.rk
 rw [hAK] at a4
 have HNM:Hid (NmOk s):=Lib.hid ⟨h8,hl8⟩
 have HSS:=Lib.hid hS
 obtain ⟨R,hR⟩:∃ R,Hid (smW E st (.mk 1 s x b e ln)=R):=⟨_,Lib.hid rfl⟩
 obtain ⟨s1,hs1⟩:∃ s1,Hid (exsW E st x=s1):=⟨_,Lib.hid rfl⟩
 have HE:Hid (R=(s1.let_ s).put 3 (s1.sc.length:Int) 0):=Lib.hid (by
   rw [← hR.out,smW,← hs1.out]
   rw [if_pos (show (1:Nat)=1 from rfl)])
 rw [hs1.out] at HIX hrm1
 have hm1:=hrm1.code
 have hm2:=hrm1.cs
 have hm3:=hrm1.ts
 have hm4:=hrm1.sc
 have hm5:=hrm1.vars
 rw [hR.out]
 obtain ⟨X,hX⟩:∃ X,Hid (strOf s=X):=⟨_,Lib.hid rfl⟩
 have HL:=Lib.hid (fun (w':World) (h:WrS base K E nm pr w' s1)=>letW_any h s HNM.out (by omega) (by omega))
 have HWR:=Lib.hid (fun (w':World) (h:WrS base K E nm pr w' (s1.let_ s))=>show Calls Tryz.prog 66 #[at0 K.qw,.int .u8 3,.int .i64 (s1.sc.length:Int),.int .i64 0] w' (OutW base K E nm pr w' ((s1.let_ s).put 3 (s1.sc.length:Int) 0)) from write_any h 3 (s1.sc.length:Int) 0 (by show s1.code.length ≤ _; omega))
 unfold OutLt at HL
 obtain ⟨nx,hnx⟩:∃ z,Hid (x.length=z):=⟨_,Lib.hid rfl⟩
 obtain ⟨nb,hnb⟩:∃ z,Hid (b.length=z):=⟨_,Lib.hid rfl⟩
 obtain ⟨ne,hne⟩:∃ z,Hid (e.length=z):=⟨_,Lib.hid rfl⟩
 try rw [hX.out] at HIX
 try rw [hnx.out] at HIX
 try rw [hnb.out] at HIX
 try rw [hne.out] at HIX
 try rw [hX.out] at HQ
 try rw [hnx.out] at HQ
 try rw [hnb.out] at HQ
 try rw [hne.out] at HQ
 try rw [hX.out] at HC0
 try rw [hnx.out] at HC0
 try rw [hnb.out] at HC0
 try rw [hne.out] at HC0
 try rw [hX.out] at hcx
 try rw [hnx.out] at hcx
 try rw [hnb.out] at hcx
 try rw [hne.out] at hcx
 try rw [hX.out] at hcb
 try rw [hnx.out] at hcb
 try rw [hnb.out] at hcb
 try rw [hne.out] at hcb
 try rw [hX.out] at hce
 try rw [hnx.out] at hce
 try rw [hnb.out] at hce
 try rw [hne.out] at hce
 try rw [hX.out] at HL
 try rw [hnx.out] at HL
 try rw [hnb.out] at HL
 try rw [hne.out] at HL
 try rw [hX.out] at HVA
 try rw [hnx.out] at HVA
 try rw [hnb.out] at HVA
 try rw [hne.out] at HVA
 try rw [hX.out] at HWR
 try rw [hnx.out] at HWR
 try rw [hnb.out] at HWR
 try rw [hne.out] at HWR
 try rw [hX.out] at HBR
 try rw [hnx.out] at HBR
 try rw [hnb.out] at HBR
 try rw [hne.out] at HBR
 try rw [hX.out] at HST
 try rw [hnx.out] at HST
 try rw [hnb.out] at HST
 try rw [hne.out] at HST
 try rw [hX.out] at HP
 try rw [hnx.out] at HP
 try rw [hnb.out] at HP
 try rw [hne.out] at HP
 try rw [hX.out] at HE
 try rw [hnx.out] at HE
 try rw [hnb.out] at HE
 try rw [hne.out] at HE
 try rw [hX.out] at HYB
 try rw [hnx.out] at HYB
 try rw [hnb.out] at HYB
 try rw [hne.out] at HYB
 try rw [hX.out] at HYE
 try rw [hnx.out] at HYE
 try rw [hnb.out] at HYE
 try rw [hne.out] at HYE
 try rw [hX.out]
 try rw [hnx.out]
 try rw [hnb.out]
 try rw [hne.out]
 clear hV0 hAK hWA hr hyx h8 hl8 IX hS hR hs1 hg HRM hroom hrm1
 unfold at0 at *
 try unfold layF at *
 go_enter Tryz.func154,Tryz.ntmps154
 go_wp2_with (first
   | (go_at_call 192
      refine HIX.out.mono ?_
      rintro e1 w1 ⟨rfl,hw1,hc1⟩
      have HW1:=Lib.hid hw1
      have HC1:=Lib.hid (HC0.out.trans hc1)
      have HQ1:=Lib.hid (hc1.box HOK.out HQ.out hqw (by decide) (by decide) (by decide))
      obtain ⟨d0,d1,d2,d3,d4,d5⟩:=bx6k HQ1.out
      clear hw1 hc1)
   | (go_at_call 109
      refine (HL.out _ HW1.out).mono ?_
      rintro e2 w2 ⟨rfl,hw2,hc2⟩
      have HW2:=Lib.hid hw2
      have HC2:=Lib.hid (HC1.out.trans hc2)
      clear hw2 hc2)
   | (go_at_call 66
      refine (HWR.out _ HW2.out).mono ?_
      rintro e3 w3 ⟨rfl,hw3,hc3⟩
      have HW3:=Lib.hid hw3
      have HC3:=Lib.hid (HC2.out.trans hc3)
      clear hw3 hc3)
   | (fail))
 go_end0
 exact ⟨rfl,by rw [HE.out]; exact HW3.out,HC3.out⟩
set_option maxRecDepth 100000 in
set_option maxHeartbeats 8000000 in
theorem sm_set (hS:∀ b,S b→b<base) (s:List Nat) (x:List Ex) (b e:List Sm) (ln:Int) (IX:ExsC base K E nm pr S x):SmC base K E nm pr S (.mk 2 s x b e ln):=by
 intro w st v hW hr hroom
 rw [smN] at hroom
 obtain ⟨yx,yb,ye,rfl,h8,hl8,hyx,hyb,hye⟩:=(Sm.rd 2 s x b e ln v).1 hr
 have HYB:=Lib.hid hyb
 have HYE:=Lib.hid hye
 have hyx':=hyx
 rw [Rd] at hyx' hyb hye
 obtain ⟨Ax,cx,rfl,hcx,hcmx,-⟩:=hyx'
 obtain ⟨Ab,cb,rfl,hcb,hcmb,-⟩:=hyb
 obtain ⟨Ae,ce,rfl,hce,hcme,-⟩:=hye
 rw [List.length_map] at hcx hyx hcb hce HYB HYE
 rw [List.length_map,List.length_map,List.length_map]
 have hq:=hW.lt
 obtain ⟨hqc,hqw,hbw⟩:=hq
 have HOK:=Lib.hid hW.ok
 have hWA:=hW.alloc (.cells #[.int .u8 2,.string (strOf s),.slice Ax x.length cx,.slice Ab b.length cb,.slice Ae e.length ce,.int .i64 ln] 218)
 have HC0:=Lib.hid ((Cf.refl base K w).alloc hbw (.cells #[.int .u8 2,.string (strOf s),.slice Ax x.length cx,.slice Ab b.length cb,.slice Ae e.length ce,.int .i64 ln] 218))
 have HQ:=Lib.hid (heap_new w (.cells #[.int .u8 2,.string (strOf s),.slice Ax x.length cx,.slice Ab b.length cb,.slice Ae e.length ce,.int .i64 ln] 218))
 have hg:=Gr.exs E st x
 have HRM:=hroom.mono (show exsN x+1 ≤ _ by omega)
 have hrm1:=HRM.gr hg
 have hr1:=HRM.code
 have hr2:=HRM.cs
 have hr3:=HRM.sc
 have HIX:=Lib.hid (IX _ st _ hWA (Rd.cf hS hyx HC0.out.b) (by omega) (by omega) (by omega))
 obtain ⟨V0,hV0⟩:=hW
 obtain ⟨⟨a0,a1,a2,a3,a4,a5⟩,-⟩:=bx6 hV0.h
 obtain ⟨AK,cK,hAK,hcK,hcmK⟩:=row_form hV0.rk
 rw [hAK] at a4
 have HNM:Hid (NmOk s):=Lib.hid ⟨h8,hl8⟩
 have HSS:=Lib.hid hS
 obtain ⟨R,hR⟩:∃ R,Hid (smW E st (.mk 2 s x b e ln)=R):=⟨_,Lib.hid rfl⟩
 obtain ⟨s1,hs1⟩:∃ s1,Hid (exsW E st x=s1):=⟨_,Lib.hid rfl⟩
 have HE:Hid (R=s1.put 3 (idxI s s1.sc) 0):=Lib.hid (by
   rw [← hR.out,smW,← hs1.out]
   rw [if_neg (show ¬ (2:Nat)=1 by omega)]
   rw [if_pos (show (2:Nat)=2 from rfl)])
 rw [hs1.out] at HIX hrm1
 have hm1:=hrm1.code
 have hm2:=hrm1.cs
 have hm3:=hrm1.ts
 have hm4:=hrm1.sc
 have hm5:=hrm1.vars
 rw [hR.out]
 obtain ⟨X,hX⟩:∃ X,Hid (strOf s=X):=⟨_,Lib.hid rfl⟩
 have HVA:=Lib.hid (fun (w':World) (h:WrS base K E nm pr w' s1)=>variable_any h s HNM.out (by omega))
 obtain ⟨iv,hiv⟩:∃ iv,Hid (idxI s s1.sc=iv):=⟨_,Lib.hid rfl⟩
 rw [hiv.out] at HVA HE
 have HWR:=Lib.hid (fun (w':World) (h:WrS base K E nm pr w' s1)=>show Calls Tryz.prog 66 #[at0 K.qw,.int .u8 3,.int .i64 iv,.int .i64 0] w' (OutW base K E nm pr w' (s1.put 3 iv 0)) from write_any h 3 iv 0 (by omega))
 obtain ⟨nx,hnx⟩:∃ z,Hid (x.length=z):=⟨_,Lib.hid rfl⟩
 obtain ⟨nb,hnb⟩:∃ z,Hid (b.length=z):=⟨_,Lib.hid rfl⟩
 obtain ⟨ne,hne⟩:∃ z,Hid (e.length=z):=⟨_,Lib.hid rfl⟩
 try rw [hX.out] at HIX
 try rw [hnx.out] at HIX
 try rw [hnb.out] at HIX
 try rw [hne.out] at HIX
 try rw [hX.out] at HQ
 try rw [hnx.out] at HQ
 try rw [hnb.out] at HQ
 try rw [hne.out] at HQ
 try rw [hX.out] at HC0
 try rw [hnx.out] at HC0
 try rw [hnb.out] at HC0
 try rw [hne.out] at HC0
 try rw [hX.out] at hcx
 try rw [hnx.out] at hcx
 try rw [hnb.out] at hcx
 try rw [hne.out] at hcx
 try rw [hX.out] at hcb
 try rw [hnx.out] at hcb
 try rw [hnb.out] at hcb
 try rw [hne.out] at hcb
 try rw [hX.out] at hce
 try rw [hnx.out] at hce
 try rw [hnb.out] at hce
 try rw [hne.out] at hce
 try rw [hX.out] at HL
 try rw [hnx.out] at HL
 try rw [hnb.out] at HL
 try rw [hne.out] at HL
 try rw [hX.out] at HVA
 try rw [hnx.out] at HVA
 try rw [hnb.out] at HVA
 try rw [hne.out] at HVA
 try rw [hX.out] at HWR
 try rw [hnx.out] at HWR
 try rw [hnb.out] at HWR
 try rw [hne.out] at HWR
 try rw [hX.out] at HBR
 try rw [hnx.out] at HBR
 try rw [hnb.out] at HBR
 try rw [hne.out] at HBR
 try rw [hX.out] at HST
 try rw [hnx.out] at HST
 try rw [hnb.out] at HST
 try rw [hne.out] at HST
 try rw [hX.out] at HP
 try rw [hnx.out] at HP
 try rw [hnb.out] at HP
 try rw [hne.out] at HP
 try rw [hX.out] at HE
 try rw [hnx.out] at HE
 try rw [hnb.out] at HE
 try rw [hne.out] at HE
 try rw [hX.out] at HYB
 try rw [hnx.out] at HYB
 try rw [hnb.out] at HYB
 try rw [hne.out] at HYB
 try rw [hX.out] at HYE
 try rw [hnx.out] at HYE
 try rw [hnb.out] at HYE
 try rw [hne.out] at HYE
 try rw [hX.out]
 try rw [hnx.out]
 try rw [hnb.out]
 try rw [hne.out]
 clear hV0 hAK hWA hr hyx h8 hl8 IX hS hR hs1 hg HRM hroom hrm1
 unfold at0 at *
 try unfold layF at *
 go_enter Tryz.func154,Tryz.ntmps154
 go_wp2_with (first
   | (go_at_call 192
      refine HIX.out.mono ?_
      rintro e1 w1 ⟨rfl,hw1,hc1⟩
      have HW1:=Lib.hid hw1
      have HC1:=Lib.hid (HC0.out.trans hc1)
      have HQ1:=Lib.hid (hc1.box HOK.out HQ.out hqw (by decide) (by decide) (by decide))
      obtain ⟨d0,d1,d2,d3,d4,d5⟩:=bx6k HQ1.out
      clear hw1 hc1)
   | (go_at_call 193
      refine (HVA.out _ HW1.out).mono ?_
      rintro e3 w1 ⟨rfl,rfl⟩)
   | (go_at_call 66
      refine (HWR.out _ HW1.out).mono ?_
      rintro e2 w2 ⟨rfl,hw2,hc2⟩
      have HW2:=Lib.hid hw2
      have HC2:=Lib.hid (HC1.out.trans hc2)
      clear hw2 hc2)
   | (fail))
 go_end0
 exact ⟨rfl,by rw [HE.out]; exact HW2.out,HC2.out⟩
set_option maxRecDepth 100000 in
set_option maxHeartbeats 8000000 in
theorem sm_return (hS:∀ b,S b→b<base) (s:List Nat) (x:List Ex) (b e:List Sm) (ln:Int) (IX:ExsC base K E nm pr S x):SmC base K E nm pr S (.mk 5 s x b e ln):=by
 intro w st v hW hr hroom
 rw [smN] at hroom
 obtain ⟨yx,yb,ye,rfl,h8,hl8,hyx,hyb,hye⟩:=(Sm.rd 5 s x b e ln v).1 hr
 have HYB:=Lib.hid hyb
 have HYE:=Lib.hid hye
 have hyx':=hyx
 rw [Rd] at hyx' hyb hye
 obtain ⟨Ax,cx,rfl,hcx,hcmx,-⟩:=hyx'
 obtain ⟨Ab,cb,rfl,hcb,hcmb,-⟩:=hyb
 obtain ⟨Ae,ce,rfl,hce,hcme,-⟩:=hye
 rw [List.length_map] at hcx hyx hcb hce HYB HYE
 rw [List.length_map,List.length_map,List.length_map]
 have hq:=hW.lt
 obtain ⟨hqc,hqw,hbw⟩:=hq
 have HOK:=Lib.hid hW.ok
 have hWA:=hW.alloc (.cells #[.int .u8 5,.string (strOf s),.slice Ax x.length cx,.slice Ab b.length cb,.slice Ae e.length ce,.int .i64 ln] 218)
 have HC0:=Lib.hid ((Cf.refl base K w).alloc hbw (.cells #[.int .u8 5,.string (strOf s),.slice Ax x.length cx,.slice Ab b.length cb,.slice Ae e.length ce,.int .i64 ln] 218))
 have HQ:=Lib.hid (heap_new w (.cells #[.int .u8 5,.string (strOf s),.slice Ax x.length cx,.slice Ab b.length cb,.slice Ae e.length ce,.int .i64 ln] 218))
 have hg:=Gr.exs E st x
 have HRM:=hroom.mono (show exsN x+1 ≤ _ by omega)
 have hrm1:=HRM.gr hg
 have hr1:=HRM.code
 have hr2:=HRM.cs
 have hr3:=HRM.sc
 have HIX:=Lib.hid (IX _ st _ hWA (Rd.cf hS hyx HC0.out.b) (by omega) (by omega) (by omega))
 obtain ⟨V0,hV0⟩:=hW
 obtain ⟨⟨a0,a1,a2,a3,a4,a5⟩,-⟩:=bx6 hV0.h
 obtain ⟨AK,cK,hAK,hcK,hcmK⟩:=row_form hV0.rk
 rw [hAK] at a4
 have HNM:Hid (NmOk s):=Lib.hid ⟨h8,hl8⟩
 have HSS:=Lib.hid hS
 obtain ⟨R,hR⟩:∃ R,Hid (smW E st (.mk 5 s x b e ln)=R):=⟨_,Lib.hid rfl⟩
 obtain ⟨s1,hs1⟩:∃ s1,Hid (exsW E st x=s1):=⟨_,Lib.hid rfl⟩
 have HE:Hid (R=s1.put 33 0 0):=Lib.hid (by
   rw [← hR.out,smW,← hs1.out]
   rw [if_neg (show ¬ (5:Nat)=1 by omega)]
   rw [if_neg (show ¬ (5:Nat)=2 by omega)]
   rw [if_neg (show ¬ (5:Nat)=3 by omega)]
   rw [if_neg (show ¬ (5:Nat)=4 by omega)]
   rw [if_pos (show (5:Nat)=5 from rfl)])
 rw [hs1.out] at HIX hrm1
 have hm1:=hrm1.code
 have hm2:=hrm1.cs
 have hm3:=hrm1.ts
 have hm4:=hrm1.sc
 have hm5:=hrm1.vars
 rw [hR.out]
 obtain ⟨X,hX⟩:∃ X,Hid (strOf s=X):=⟨_,Lib.hid rfl⟩
 have HWR:=Lib.hid (fun (w':World) (h:WrS base K E nm pr w' s1)=>show Calls Tryz.prog 66 #[at0 K.qw,.int .u8 33,.int .i64 0,.int .i64 0] w' (OutW base K E nm pr w' (s1.put 33 0 0)) from write_any h 33 0 0 (by omega))
 obtain ⟨nx,hnx⟩:∃ z,Hid (x.length=z):=⟨_,Lib.hid rfl⟩
 obtain ⟨nb,hnb⟩:∃ z,Hid (b.length=z):=⟨_,Lib.hid rfl⟩
 obtain ⟨ne,hne⟩:∃ z,Hid (e.length=z):=⟨_,Lib.hid rfl⟩
 try rw [hX.out] at HIX
 try rw [hnx.out] at HIX
 try rw [hnb.out] at HIX
 try rw [hne.out] at HIX
 try rw [hX.out] at HQ
 try rw [hnx.out] at HQ
 try rw [hnb.out] at HQ
 try rw [hne.out] at HQ
 try rw [hX.out] at HC0
 try rw [hnx.out] at HC0
 try rw [hnb.out] at HC0
 try rw [hne.out] at HC0
 try rw [hX.out] at hcx
 try rw [hnx.out] at hcx
 try rw [hnb.out] at hcx
 try rw [hne.out] at hcx
 try rw [hX.out] at hcb
 try rw [hnx.out] at hcb
 try rw [hnb.out] at hcb
 try rw [hne.out] at hcb
 try rw [hX.out] at hce
 try rw [hnx.out] at hce
 try rw [hnb.out] at hce
 try rw [hne.out] at hce
 try rw [hX.out] at HL
 try rw [hnx.out] at HL
 try rw [hnb.out] at HL
 try rw [hne.out] at HL
 try rw [hX.out] at HVA
 try rw [hnx.out] at HVA
 try rw [hnb.out] at HVA
 try rw [hne.out] at HVA
 try rw [hX.out] at HWR
 try rw [hnx.out] at HWR
 try rw [hnb.out] at HWR
 try rw [hne.out] at HWR
 try rw [hX.out] at HBR
 try rw [hnx.out] at HBR
 try rw [hnb.out] at HBR
 try rw [hne.out] at HBR
 try rw [hX.out] at HST
 try rw [hnx.out] at HST
 try rw [hnb.out] at HST
 try rw [hne.out] at HST
 try rw [hX.out] at HP
 try rw [hnx.out] at HP
 try rw [hnb.out] at HP
 try rw [hne.out] at HP
 try rw [hX.out] at HE
 try rw [hnx.out] at HE
 try rw [hnb.out] at HE
 try rw [hne.out] at HE
 try rw [hX.out] at HYB
 try rw [hnx.out] at HYB
 try rw [hnb.out] at HYB
 try rw [hne.out] at HYB
 try rw [hX.out] at HYE
 try rw [hnx.out] at HYE
 try rw [hnb.out] at HYE
 try rw [hne.out] at HYE
 try rw [hX.out]
 try rw [hnx.out]
 try rw [hnb.out]
 try rw [hne.out]
 clear hV0 hAK hWA hr hyx h8 hl8 IX hS hR hs1 hg HRM hroom hrm1
 unfold at0 at *
 try unfold layF at *
 go_enter Tryz.func154,Tryz.ntmps154
 go_wp2_with (first
   | (go_at_call 192
      refine HIX.out.mono ?_
      rintro e1 w1 ⟨rfl,hw1,hc1⟩
      have HW1:=Lib.hid hw1
      have HC1:=Lib.hid (HC0.out.trans hc1)
      have HQ1:=Lib.hid (hc1.box HOK.out HQ.out hqw (by decide) (by decide) (by decide))
      obtain ⟨d0,d1,d2,d3,d4,d5⟩:=bx6k HQ1.out
      clear hw1 hc1)
   | (go_at_call 66
      refine (HWR.out _ HW1.out).mono ?_
      rintro e2 w2 ⟨rfl,hw2,hc2⟩
      have HW2:=Lib.hid hw2
      have HC2:=Lib.hid (HC1.out.trans hc2)
      clear hw2 hc2)
   | (fail))
 go_end0
 exact ⟨rfl,by rw [HE.out]; exact HW2.out,HC2.out⟩
set_option maxRecDepth 100000 in
set_option maxHeartbeats 8000000 in
theorem sm_stop (hS:∀ b,S b→b<base) (s:List Nat) (x:List Ex) (b e:List Sm) (ln:Int) (IX:ExsC base K E nm pr S x):SmC base K E nm pr S (.mk 8 s x b e ln):=by
 intro w st v hW hr hroom
 rw [smN] at hroom
 obtain ⟨yx,yb,ye,rfl,h8,hl8,hyx,hyb,hye⟩:=(Sm.rd 8 s x b e ln v).1 hr
 have HYB:=Lib.hid hyb
 have HYE:=Lib.hid hye
 have hyx':=hyx
 rw [Rd] at hyx' hyb hye
 obtain ⟨Ax,cx,rfl,hcx,hcmx,-⟩:=hyx'
 obtain ⟨Ab,cb,rfl,hcb,hcmb,-⟩:=hyb
 obtain ⟨Ae,ce,rfl,hce,hcme,-⟩:=hye
 rw [List.length_map] at hcx hyx hcb hce HYB HYE
 rw [List.length_map,List.length_map,List.length_map]
 have hq:=hW.lt
 obtain ⟨hqc,hqw,hbw⟩:=hq
 have HOK:=Lib.hid hW.ok
 have hWA:=hW.alloc (.cells #[.int .u8 8,.string (strOf s),.slice Ax x.length cx,.slice Ab b.length cb,.slice Ae e.length ce,.int .i64 ln] 218)
 have HC0:=Lib.hid ((Cf.refl base K w).alloc hbw (.cells #[.int .u8 8,.string (strOf s),.slice Ax x.length cx,.slice Ab b.length cb,.slice Ae e.length ce,.int .i64 ln] 218))
 have HQ:=Lib.hid (heap_new w (.cells #[.int .u8 8,.string (strOf s),.slice Ax x.length cx,.slice Ab b.length cb,.slice Ae e.length ce,.int .i64 ln] 218))
 have hg:=Gr.exs E st x
 have HRM:=hroom.mono (show exsN x+1 ≤ _ by omega)
 have hrm1:=HRM.gr hg
 have hr1:=HRM.code
 have hr2:=HRM.cs
 have hr3:=HRM.sc
 have HIX:=Lib.hid (IX _ st _ hWA (Rd.cf hS hyx HC0.out.b) (by omega) (by omega) (by omega))
 obtain ⟨V0,hV0⟩:=hW
 obtain ⟨⟨a0,a1,a2,a3,a4,a5⟩,-⟩:=bx6 hV0.h
 obtain ⟨AK,cK,hAK,hcK,hcmK⟩:=row_form hV0.rk
 rw [hAK] at a4
 have HNM:Hid (NmOk s):=Lib.hid ⟨h8,hl8⟩
 have HSS:=Lib.hid hS
 obtain ⟨R,hR⟩:∃ R,Hid (smW E st (.mk 8 s x b e ln)=R):=⟨_,Lib.hid rfl⟩
 obtain ⟨s1,hs1⟩:∃ s1,Hid (exsW E st x=s1):=⟨_,Lib.hid rfl⟩
 have HE:Hid (R=s1.put 26 0 0):=Lib.hid (by
   rw [← hR.out,smW,← hs1.out]
   rw [if_neg (show ¬ (8:Nat)=1 by omega)]
   rw [if_neg (show ¬ (8:Nat)=2 by omega)]
   rw [if_neg (show ¬ (8:Nat)=3 by omega)]
   rw [if_neg (show ¬ (8:Nat)=4 by omega)]
   rw [if_neg (show ¬ (8:Nat)=5 by omega)]
   rw [if_neg (show ¬ (8:Nat)=6 by omega)]
   rw [if_neg (show ¬ (8:Nat)=7 by omega)]
   rw [if_pos (show (8:Nat)=8 from rfl)])
 rw [hs1.out] at HIX hrm1
 have hm1:=hrm1.code
 have hm2:=hrm1.cs
 have hm3:=hrm1.ts
 have hm4:=hrm1.sc
 have hm5:=hrm1.vars
 rw [hR.out]
 obtain ⟨X,hX⟩:∃ X,Hid (strOf s=X):=⟨_,Lib.hid rfl⟩
 have HWR:=Lib.hid (fun (w':World) (h:WrS base K E nm pr w' s1)=>show Calls Tryz.prog 66 #[at0 K.qw,.int .u8 26,.int .i64 0,.int .i64 0] w' (OutW base K E nm pr w' (s1.put 26 0 0)) from write_any h 26 0 0 (by omega))
 obtain ⟨nx,hnx⟩:∃ z,Hid (x.length=z):=⟨_,Lib.hid rfl⟩
 obtain ⟨nb,hnb⟩:∃ z,Hid (b.length=z):=⟨_,Lib.hid rfl⟩
 obtain ⟨ne,hne⟩:∃ z,Hid (e.length=z):=⟨_,Lib.hid rfl⟩
 try rw [hX.out] at HIX
 try rw [hnx.out] at HIX
 try rw [hnb.out] at HIX
 try rw [hne.out] at HIX
 try rw [hX.out] at HQ
 try rw [hnx.out] at HQ
 try rw [hnb.out] at HQ
 try rw [hne.out] at HQ
 try rw [hX.out] at HC0
 try rw [hnx.out] at HC0
 try rw [hnb.out] at HC0
 try rw [hne.out] at HC0
 try rw [hX.out] at hcx
 try rw [hnx.out] at hcx
 try rw [hnb.out] at hcx
 try rw [hne.out] at hcx
 try rw [hX.out] at hcb
 try rw [hnx.out] at hcb
 try rw [hnb.out] at hcb
 try rw [hne.out] at hcb
 try rw [hX.out] at hce
 try rw [hnx.out] at hce
 try rw [hnb.out] at hce
 try rw [hne.out] at hce
 try rw [hX.out] at HL
 try rw [hnx.out] at HL
 try rw [hnb.out] at HL
 try rw [hne.out] at HL
 try rw [hX.out] at HVA
 try rw [hnx.out] at HVA
 try rw [hnb.out] at HVA
 try rw [hne.out] at HVA
 try rw [hX.out] at HWR
 try rw [hnx.out] at HWR
 try rw [hnb.out] at HWR
 try rw [hne.out] at HWR
 try rw [hX.out] at HBR
 try rw [hnx.out] at HBR
 try rw [hnb.out] at HBR
 try rw [hne.out] at HBR
 try rw [hX.out] at HST
 try rw [hnx.out] at HST
 try rw [hnb.out] at HST
 try rw [hne.out] at HST
 try rw [hX.out] at HP
 try rw [hnx.out] at HP
 try rw [hnb.out] at HP
 try rw [hne.out] at HP
 try rw [hX.out] at HE
 try rw [hnx.out] at HE
 try rw [hnb.out] at HE
 try rw [hne.out] at HE
 try rw [hX.out] at HYB
 try rw [hnx.out] at HYB
 try rw [hnb.out] at HYB
 try rw [hne.out] at HYB
 try rw [hX.out] at HYE
 try rw [hnx.out] at HYE
 try rw [hnb.out] at HYE
 try rw [hne.out] at HYE
 try rw [hX.out]
 try rw [hnx.out]
 try rw [hnb.out]
 try rw [hne.out]
 clear hV0 hAK hWA hr hyx h8 hl8 IX hS hR hs1 hg HRM hroom hrm1
 unfold at0 at *
 try unfold layF at *
 go_enter Tryz.func154,Tryz.ntmps154
 go_wp2_with (first
   | (go_at_call 192
      refine HIX.out.mono ?_
      rintro e1 w1 ⟨rfl,hw1,hc1⟩
      have HW1:=Lib.hid hw1
      have HC1:=Lib.hid (HC0.out.trans hc1)
      have HQ1:=Lib.hid (hc1.box HOK.out HQ.out hqw (by decide) (by decide) (by decide))
      obtain ⟨d0,d1,d2,d3,d4,d5⟩:=bx6k HQ1.out
      clear hw1 hc1)
   | (go_at_call 66
      refine (HWR.out _ HW1.out).mono ?_
      rintro e2 w2 ⟨rfl,hw2,hc2⟩
      have HW2:=Lib.hid hw2
      have HC2:=Lib.hid (HC1.out.trans hc2)
      clear hw2 hc2)
   | (fail))
 go_end0
 exact ⟨rfl,by rw [HE.out]; exact HW2.out,HC2.out⟩
set_option maxRecDepth 100000 in
set_option maxHeartbeats 8000000 in
theorem sm_expr (hS:∀ b,S b→b<base) (s:List Nat) (x:List Ex) (b e:List Sm) (ln:Int) (IX:ExsC base K E nm pr S x):SmC base K E nm pr S (.mk 9 s x b e ln):=by
 intro w st v hW hr hroom
 rw [smN] at hroom
 obtain ⟨yx,yb,ye,rfl,h8,hl8,hyx,hyb,hye⟩:=(Sm.rd 9 s x b e ln v).1 hr
 have HYB:=Lib.hid hyb
 have HYE:=Lib.hid hye
 have hyx':=hyx
 rw [Rd] at hyx' hyb hye
 obtain ⟨Ax,cx,rfl,hcx,hcmx,-⟩:=hyx'
 obtain ⟨Ab,cb,rfl,hcb,hcmb,-⟩:=hyb
 obtain ⟨Ae,ce,rfl,hce,hcme,-⟩:=hye
 rw [List.length_map] at hcx hyx hcb hce HYB HYE
 rw [List.length_map,List.length_map,List.length_map]
 have hq:=hW.lt
 obtain ⟨hqc,hqw,hbw⟩:=hq
 have HOK:=Lib.hid hW.ok
 have hWA:=hW.alloc (.cells #[.int .u8 9,.string (strOf s),.slice Ax x.length cx,.slice Ab b.length cb,.slice Ae e.length ce,.int .i64 ln] 218)
 have HC0:=Lib.hid ((Cf.refl base K w).alloc hbw (.cells #[.int .u8 9,.string (strOf s),.slice Ax x.length cx,.slice Ab b.length cb,.slice Ae e.length ce,.int .i64 ln] 218))
 have HQ:=Lib.hid (heap_new w (.cells #[.int .u8 9,.string (strOf s),.slice Ax x.length cx,.slice Ab b.length cb,.slice Ae e.length ce,.int .i64 ln] 218))
 have hg:=Gr.exs E st x
 have HRM:=hroom.mono (show exsN x+1 ≤ _ by omega)
 have hrm1:=HRM.gr hg
 have hr1:=HRM.code
 have hr2:=HRM.cs
 have hr3:=HRM.sc
 have HIX:=Lib.hid (IX _ st _ hWA (Rd.cf hS hyx HC0.out.b) (by omega) (by omega) (by omega))
 obtain ⟨V0,hV0⟩:=hW
 obtain ⟨⟨a0,a1,a2,a3,a4,a5⟩,-⟩:=bx6 hV0.h
 obtain ⟨AK,cK,hAK,hcK,hcmK⟩:=row_form hV0.rk
 rw [hAK] at a4
 have HNM:Hid (NmOk s):=Lib.hid ⟨h8,hl8⟩
 have HSS:=Lib.hid hS
 obtain ⟨R,hR⟩:∃ R,Hid (smW E st (.mk 9 s x b e ln)=R):=⟨_,Lib.hid rfl⟩
 obtain ⟨s1,hs1⟩:∃ s1,Hid (exsW E st x=s1):=⟨_,Lib.hid rfl⟩
 have HE:Hid (R=s1.put 32 0 0):=Lib.hid (by
   rw [← hR.out,smW,← hs1.out]
   rw [if_neg (show ¬ (9:Nat)=1 by omega)]
   rw [if_neg (show ¬ (9:Nat)=2 by omega)]
   rw [if_neg (show ¬ (9:Nat)=3 by omega)]
   rw [if_neg (show ¬ (9:Nat)=4 by omega)]
   rw [if_neg (show ¬ (9:Nat)=5 by omega)]
   rw [if_neg (show ¬ (9:Nat)=6 by omega)]
   rw [if_neg (show ¬ (9:Nat)=7 by omega)]
   rw [if_neg (show ¬ (9:Nat)=8 by omega)]
   rw [if_pos (show (9:Nat)=9 from rfl)])
 rw [hs1.out] at HIX hrm1
 have hm1:=hrm1.code
 have hm2:=hrm1.cs
 have hm3:=hrm1.ts
 have hm4:=hrm1.sc
 have hm5:=hrm1.vars
 rw [hR.out]
 obtain ⟨X,hX⟩:∃ X,Hid (strOf s=X):=⟨_,Lib.hid rfl⟩
 have HWR:=Lib.hid (fun (w':World) (h:WrS base K E nm pr w' s1)=>show Calls Tryz.prog 66 #[at0 K.qw,.int .u8 32,.int .i64 0,.int .i64 0] w' (OutW base K E nm pr w' (s1.put 32 0 0)) from write_any h 32 0 0 (by omega))
 obtain ⟨nx,hnx⟩:∃ z,Hid (x.length=z):=⟨_,Lib.hid rfl⟩
 obtain ⟨nb,hnb⟩:∃ z,Hid (b.length=z):=⟨_,Lib.hid rfl⟩
 obtain ⟨ne,hne⟩:∃ z,Hid (e.length=z):=⟨_,Lib.hid rfl⟩
 try rw [hX.out] at HIX
 try rw [hnx.out] at HIX
 try rw [hnb.out] at HIX
 try rw [hne.out] at HIX
 try rw [hX.out] at HQ
 try rw [hnx.out] at HQ
 try rw [hnb.out] at HQ
 try rw [hne.out] at HQ
 try rw [hX.out] at HC0
 try rw [hnx.out] at HC0
 try rw [hnb.out] at HC0
 try rw [hne.out] at HC0
 try rw [hX.out] at hcx
 try rw [hnx.out] at hcx
 try rw [hnb.out] at hcx
 try rw [hne.out] at hcx
 try rw [hX.out] at hcb
 try rw [hnx.out] at hcb
 try rw [hnb.out] at hcb
 try rw [hne.out] at hcb
 try rw [hX.out] at hce
 try rw [hnx.out] at hce
 try rw [hnb.out] at hce
 try rw [hne.out] at hce
 try rw [hX.out] at HL
 try rw [hnx.out] at HL
 try rw [hnb.out] at HL
 try rw [hne.out] at HL
 try rw [hX.out] at HVA
 try rw [hnx.out] at HVA
 try rw [hnb.out] at HVA
 try rw [hne.out] at HVA
 try rw [hX.out] at HWR
 try rw [hnx.out] at HWR
 try rw [hnb.out] at HWR
 try rw [hne.out] at HWR
 try rw [hX.out] at HBR
 try rw [hnx.out] at HBR
 try rw [hnb.out] at HBR
 try rw [hne.out] at HBR
 try rw [hX.out] at HST
 try rw [hnx.out] at HST
 try rw [hnb.out] at HST
 try rw [hne.out] at HST
 try rw [hX.out] at HP
 try rw [hnx.out] at HP
 try rw [hnb.out] at HP
 try rw [hne.out] at HP
 try rw [hX.out] at HE
 try rw [hnx.out] at HE
 try rw [hnb.out] at HE
 try rw [hne.out] at HE
 try rw [hX.out] at HYB
 try rw [hnx.out] at HYB
 try rw [hnb.out] at HYB
 try rw [hne.out] at HYB
 try rw [hX.out] at HYE
 try rw [hnx.out] at HYE
 try rw [hnb.out] at HYE
 try rw [hne.out] at HYE
 try rw [hX.out]
 try rw [hnx.out]
 try rw [hnb.out]
 try rw [hne.out]
 clear hV0 hAK hWA hr hyx h8 hl8 IX hS hR hs1 hg HRM hroom hrm1
 unfold at0 at *
 try unfold layF at *
 go_enter Tryz.func154,Tryz.ntmps154
 go_wp2_with (first
   | (go_at_call 192
      refine HIX.out.mono ?_
      rintro e1 w1 ⟨rfl,hw1,hc1⟩
      have HW1:=Lib.hid hw1
      have HC1:=Lib.hid (HC0.out.trans hc1)
      have HQ1:=Lib.hid (hc1.box HOK.out HQ.out hqw (by decide) (by decide) (by decide))
      obtain ⟨d0,d1,d2,d3,d4,d5⟩:=bx6k HQ1.out
      clear hw1 hc1)
   | (go_at_call 66
      refine (HWR.out _ HW1.out).mono ?_
      rintro e2 w2 ⟨rfl,hw2,hc2⟩
      have HW2:=Lib.hid hw2
      have HC2:=Lib.hid (HC1.out.trans hc2)
      clear hw2 hc2)
   | (fail))
 go_end0
 exact ⟨rfl,by rw [HE.out]; exact HW2.out,HC2.out⟩
end
end Go.Proofs.YtcmopnkldplngabGreatDoor
namespace Go.Proofs.YtcmopnkldplngabGreatDoor
open Go.RowKit
set_option linter.unusedVariables false
def ifW (E:Env) (w:Ws) (b e:List Sm):Ws :=
 if e=[] then (smsW E w.sc.length (w.put 28 0 0) b).lay w.code.length
 else (smsW E w.sc.length (((smsW E w.sc.length (w.put 28 0 0) b).put 27 0 0).lay w.code.length) e).lay (smsW E w.sc.length (w.put 28 0 0) b).code.length
def BrC (base:Nat) (K:Bk) (E:Env) (nm:List Nat) (pr:Nat) (S:Nat→Prop) (b e:List Sm):Prop:=∀ (w:World) (st:Ws) (vb ve:Value),WrS base K E nm pr w st→Rd w S (.row 6 (b.map Sm.nd)) vb→Rd w S (.row 6 (e.map Sm.nd)) ve→Rm st (1+smsN b+smsN e+(if e≠[] then 1 else 0)) →
 Calls Tryz.prog 194 #[at0 K.qw,vb,ve] w (OutW base K E nm pr w (ifW E st b e))
section
variable {base:Nat} {K:Bk} {E:Env} {nm:List Nat} {pr:Nat} {S:Nat→Prop}
set_option maxRecDepth 100000 in
set_option maxHeartbeats 8000000 in
theorem sm_if (hS:∀ b,S b→b<base) (s:List Nat) (x:List Ex) (b e:List Sm) (ln:Int) (IX:ExsC base K E nm pr S x) (HB:BrC base K E nm pr S b e):SmC base K E nm pr S (.mk 3 s x b e ln):=by
 intro w st v hW hr hroom
 rw [smN] at hroom
 have hif:(if (3:Nat)=4∨(3:Nat)=3∧e≠[] then 1 else 0)=(if e≠[] then 1 else 0):=by simp
 rw [hif] at hroom
 obtain ⟨yx,yb,ye,rfl,h8,hl8,hyx,hyb,hye⟩:=(Sm.rd 3 s x b e ln v).1 hr
 have HYB:=Lib.hid hyb
 have HYE:=Lib.hid hye
 have hyx':=hyx
 rw [Rd] at hyx' hyb hye
 obtain ⟨Ax,cx,rfl,hcx,hcmx,-⟩:=hyx'
 obtain ⟨Ab,cb,rfl,hcb,hcmb,-⟩:=hyb
 obtain ⟨Ae,ce,rfl,hce,hcme,-⟩:=hye
 rw [List.length_map] at hcx hyx hcb hce HYB HYE
 rw [List.length_map,List.length_map,List.length_map]
 have hq:=hW.lt
 obtain ⟨hqc,hqw,hbw⟩:=hq
 have HOK:=Lib.hid hW.ok
 have hWA:=hW.alloc (.cells #[.int .u8 3,.string (strOf s),.slice Ax x.length cx,.slice Ab b.length cb,.slice Ae e.length ce,.int .i64 ln] 218)
 have HC0:=Lib.hid ((Cf.refl base K w).alloc hbw (.cells #[.int .u8 3,.string (strOf s),.slice Ax x.length cx,.slice Ab b.length cb,.slice Ae e.length ce,.int .i64 ln] 218))
 have HQ:=Lib.hid (heap_new w (.cells #[.int .u8 3,.string (strOf s),.slice Ax x.length cx,.slice Ab b.length cb,.slice Ae e.length ce,.int .i64 ln] 218))
 have hg:=Gr.exs E st x
 have HRM:=hroom.mono (show exsN x+(1+smsN b+smsN e+(if e≠[] then 1 else 0)) ≤ _ by omega)
 have hrm1:=HRM.gr hg
 have hr1:=HRM.code
 have hr2:=HRM.cs
 have hr3:=HRM.sc
 have HIX:=Lib.hid (IX _ st _ hWA (Rd.cf hS hyx HC0.out.b) (by omega) (by omega) (by omega))
 obtain ⟨V0,hV0⟩:=hW
 obtain ⟨⟨a0,a1,a2,a3,a4,a5⟩,-⟩:=bx6 hV0.h
 obtain ⟨AK,cK,hAK,hcK,hcmK⟩:=row_form hV0.rk
 rw [hAK] at a4
 have HNM:Hid (NmOk s):=Lib.hid ⟨h8,hl8⟩
 have HSS:=Lib.hid hS
 obtain ⟨R,hR⟩:∃ R,Hid (smW E st (.mk 3 s x b e ln)=R):=⟨_,Lib.hid rfl⟩
 obtain ⟨s1,hs1⟩:∃ s1,Hid (exsW E st x=s1):=⟨_,Lib.hid rfl⟩
 have HE:Hid (R=ifW E s1 b e):=Lib.hid (by
   rw [← hR.out,smW,← hs1.out]
   rw [if_neg (show ¬ (3:Nat)=1 by omega)]
   rw [if_neg (show ¬ (3:Nat)=2 by omega)]
   rw [if_pos (show (3:Nat)=3 from rfl)]
   rfl)
 rw [hs1.out] at HIX hrm1
 have hm1:=hrm1.code
 have hm2:=hrm1.cs
 have hm3:=hrm1.ts
 have hm4:=hrm1.sc
 have hm5:=hrm1.vars
 rw [hR.out]
 obtain ⟨X,hX⟩:∃ X,Hid (strOf s=X):=⟨_,Lib.hid rfl⟩
 have HBR:=Lib.hid (fun (w':World) (h:WrS base K E nm pr w' s1) (hk:Below base w w')=>HB w' s1 (.slice Ab b.length cb) (.slice Ae e.length ce) h (Rd.cf HSS.out HYB.out hk) (Rd.cf HSS.out HYE.out hk) hrm1)
 obtain ⟨nx,hnx⟩:∃ z,Hid (x.length=z):=⟨_,Lib.hid rfl⟩
 obtain ⟨nb,hnb⟩:∃ z,Hid (b.length=z):=⟨_,Lib.hid rfl⟩
 obtain ⟨ne,hne⟩:∃ z,Hid (e.length=z):=⟨_,Lib.hid rfl⟩
 try rw [hX.out] at HIX
 try rw [hnx.out] at HIX
 try rw [hnb.out] at HIX
 try rw [hne.out] at HIX
 try rw [hX.out] at HQ
 try rw [hnx.out] at HQ
 try rw [hnb.out] at HQ
 try rw [hne.out] at HQ
 try rw [hX.out] at HC0
 try rw [hnx.out] at HC0
 try rw [hnb.out] at HC0
 try rw [hne.out] at HC0
 try rw [hX.out] at hcx
 try rw [hnx.out] at hcx
 try rw [hnb.out] at hcx
 try rw [hne.out] at hcx
 try rw [hX.out] at hcb
 try rw [hnx.out] at hcb
 try rw [hnb.out] at hcb
 try rw [hne.out] at hcb
 try rw [hX.out] at hce
 try rw [hnx.out] at hce
 try rw [hnb.out] at hce
 try rw [hne.out] at hce
 try rw [hX.out] at HL
 try rw [hnx.out] at HL
 try rw [hnb.out] at HL
 try rw [hne.out] at HL
 try rw [hX.out] at HVA
 try rw [hnx.out] at HVA
 try rw [hnb.out] at HVA
 try rw [hne.out] at HVA
 try rw [hX.out] at HWR
 try rw [hnx.out] at HWR
 try rw [hnb.out] at HWR
 try rw [hne.out] at HWR
 try rw [hX.out] at HBR
 try rw [hnx.out] at HBR
 try rw [hnb.out] at HBR
 try rw [hne.out] at HBR
 try rw [hX.out] at HST
 try rw [hnx.out] at HST
 try rw [hnb.out] at HST
 try rw [hne.out] at HST
 try rw [hX.out] at HP
 try rw [hnx.out] at HP
 try rw [hnb.out] at HP
 try rw [hne.out] at HP
 try rw [hX.out] at HE
 try rw [hnx.out] at HE
 try rw [hnb.out] at HE
 try rw [hne.out] at HE
 try rw [hX.out] at HYB
 try rw [hnx.out] at HYB
 try rw [hnb.out] at HYB
 try rw [hne.out] at HYB
 try rw [hX.out] at HYE
 try rw [hnx.out] at HYE
 try rw [hnb.out] at HYE
 try rw [hne.out] at HYE
 try rw [hX.out]
 try rw [hnx.out]
 try rw [hnb.out]
 try rw [hne.out]
 clear hV0 hAK hWA hr hyx h8 hl8 IX hS hR hs1 hg HRM hroom hrm1
 unfold at0 at *
 try unfold layF at *
 go_enter Tryz.func154,Tryz.ntmps154
 go_wp2_with (first
   | (go_at_call 192
      refine HIX.out.mono ?_
      rintro e1 w1 ⟨rfl,hw1,hc1⟩
      have HW1:=Lib.hid hw1
      have HC1:=Lib.hid (HC0.out.trans hc1)
      have HQ1:=Lib.hid (hc1.box HOK.out HQ.out hqw (by decide) (by decide) (by decide))
      obtain ⟨d0,d1,d2,d3,d4,d5⟩:=bx6k HQ1.out
      clear hw1 hc1)
   | (go_at_call 194
      refine (HBR.out _ HW1.out HC1.out.b).mono ?_
      rintro e2 w2 ⟨rfl,hw2,hc2⟩
      have HW2:=Lib.hid hw2
      have HC2:=Lib.hid (HC1.out.trans hc2)
      clear hw2 hc2)
   | (fail))
 go_end0
 exact ⟨rfl,by rw [HE.out]; exact HW2.out,HC2.out⟩
set_option maxRecDepth 100000 in
set_option maxHeartbeats 8000000 in
theorem sm_while (hS:∀ b,S b→b<base) (s:List Nat) (x:List Ex) (b e:List Sm) (ln:Int) (IX:ExsC base K E nm pr S x) (HB:SmsC base K E nm pr S b):SmC base K E nm pr S (.mk 4 s x b e ln):=by
 intro w st v hW hr hroom
 rw [smN] at hroom
 rw [if_pos (show (4:Nat)=4∨(4:Nat)=3∧e≠[] from .inl rfl)] at hroom
 obtain ⟨yx,yb,ye,rfl,h8,hl8,hyx,hyb,hye⟩:=(Sm.rd 4 s x b e ln v).1 hr
 have HYB:=Lib.hid hyb
 have HYE:=Lib.hid hye
 have hyx':=hyx
 rw [Rd] at hyx' hyb hye
 obtain ⟨Ax,cx,rfl,hcx,hcmx,-⟩:=hyx'
 obtain ⟨Ab,cb,rfl,hcb,hcmb,-⟩:=hyb
 obtain ⟨Ae,ce,rfl,hce,hcme,-⟩:=hye
 rw [List.length_map] at hcx hyx hcb hce HYB HYE
 rw [List.length_map,List.length_map,List.length_map]
 have hq:=hW.lt
 obtain ⟨hqc,hqw,hbw⟩:=hq
 have HOK:=Lib.hid hW.ok
 have hWA:=hW.alloc (.cells #[.int .u8 4,.string (strOf s),.slice Ax x.length cx,.slice Ab b.length cb,.slice Ae e.length ce,.int .i64 ln] 218)
 have HC0:=Lib.hid ((Cf.refl base K w).alloc hbw (.cells #[.int .u8 4,.string (strOf s),.slice Ax x.length cx,.slice Ab b.length cb,.slice Ae e.length ce,.int .i64 ln] 218))
 have HQ:=Lib.hid (heap_new w (.cells #[.int .u8 4,.string (strOf s),.slice Ax x.length cx,.slice Ab b.length cb,.slice Ae e.length ce,.int .i64 ln] 218))
 have hg:=Gr.exs E st x
 have HRM:=hroom.mono (show exsN x+(1+smsN b+1) ≤ _ by omega)
 have hrm1:=HRM.gr hg
 have hr1:=HRM.code
 have hr2:=HRM.cs
 have hr3:=HRM.sc
 have HIX:=Lib.hid (IX _ st _ hWA (Rd.cf hS hyx HC0.out.b) (by omega) (by omega) (by omega))
 obtain ⟨V0,hV0⟩:=hW
 obtain ⟨⟨a0,a1,a2,a3,a4,a5⟩,-⟩:=bx6 hV0.h
 obtain ⟨AK,cK,hAK,hcK,hcmK⟩:=row_form hV0.rk
 rw [hAK] at a4
 have HNM:Hid (NmOk s):=Lib.hid ⟨h8,hl8⟩
 have HSS:=Lib.hid hS
 obtain ⟨R,hR⟩:∃ R,Hid (smW E st (.mk 4 s x b e ln)=R):=⟨_,Lib.hid rfl⟩
 obtain ⟨s1,hs1⟩:∃ s1,Hid (exsW E st x=s1):=⟨_,Lib.hid rfl⟩
 have HE:Hid (R=((smsW E s1.sc.length (s1.put 28 0 0) b).put 27 (st.code.length:Int) 0).lay s1.code.length):=Lib.hid (by
   rw [← hR.out,smW,← hs1.out]
   rw [if_neg (show ¬ (4:Nat)=1 by omega)]
   rw [if_neg (show ¬ (4:Nat)=2 by omega)]
   rw [if_neg (show ¬ (4:Nat)=3 by omega)]
   rw [if_pos (show (4:Nat)=4 from rfl)])
 rw [hs1.out] at HIX hrm1
 have hm1:=hrm1.code
 have hm2:=hrm1.cs
 have hm3:=hrm1.ts
 have hm4:=hrm1.sc
 have hm5:=hrm1.vars
 rw [hR.out]
 obtain ⟨X,hX⟩:∃ X,Hid (strOf s=X):=⟨_,Lib.hid rfl⟩
 have HJ:=Lib.hid (fun (w':World) (h:WrS base K E nm pr w' s1)=>jump_any h 28 (by omega))
 have hj1:(s1.put 28 0 0).code.length=s1.code.length+1:=put_len _ _ _ _
 have hsc:(s1.put 28 0 0).sc.length=s1.sc.length:=rfl
 have hrm2:Rm (s1.put 28 0 0) (smsN b+1):=(hrm1.mono (show 1+(smsN b+1) ≤ _ by omega)).gr (Gr.put _ _ _ _)
 have HST:=Lib.hid (fun (w':World) (h:WrS base K E nm pr w' (s1.put 28 0 0)) (hk:Below base w w')=>HB w' (s1.put 28 0 0) (.slice Ab b.length cb) h (Rd.cf HSS.out HYB.out hk) (hrm2.mono (by omega)))
 rw [hsc] at HST
 obtain ⟨s2,hs2⟩:∃ s2,Hid (smsW E s1.sc.length (s1.put 28 0 0) b=s2):=⟨_,Lib.hid rfl⟩
 have hg2:=smsW_gr E (s1.put 28 0 0) b
 rw [hsc] at hg2
 have hp2:=(smsW_pre E s1.sc.length (s1.put 28 0 0) b).1
 rw [hs2.out] at HST HE hg2 hp2
 have hrm3:=hrm2.gr hg2
 have hm6:=hrm3.code
 have HWR:=Lib.hid (fun (w':World) (h:WrS base K E nm pr w' s2)=>show Calls Tryz.prog 66 #[at0 K.qw,.int .u8 27,.int .i64 (st.code.length:Int),.int .i64 0] w' (OutW base K E nm pr w' (s2.put 27 (st.code.length:Int) 0)) from write_any h 27 (st.code.length:Int) 0 (by omega))
 have hl2:(s2.put 27 (st.code.length:Int) 0).code.length=s2.code.length+1:=put_len _ _ _ _
 have HL:=Lib.hid (fun (w':World) (g h:Nat) (hw:WrS base K E nm pr w' (s2.put 27 (st.code.length:Int) 0)) (hl:LayAt w' K g h s1.code.length)=>lay_any hw hl (by omega) (by omega))
 unfold OutJ layF at HJ
 obtain ⟨nx,hnx⟩:∃ z,Hid (x.length=z):=⟨_,Lib.hid rfl⟩
 obtain ⟨nb,hnb⟩:∃ z,Hid (b.length=z):=⟨_,Lib.hid rfl⟩
 obtain ⟨ne,hne⟩:∃ z,Hid (e.length=z):=⟨_,Lib.hid rfl⟩
 try rw [hX.out] at HIX
 try rw [hnx.out] at HIX
 try rw [hnb.out] at HIX
 try rw [hne.out] at HIX
 try rw [hX.out] at HQ
 try rw [hnx.out] at HQ
 try rw [hnb.out] at HQ
 try rw [hne.out] at HQ
 try rw [hX.out] at HC0
 try rw [hnx.out] at HC0
 try rw [hnb.out] at HC0
 try rw [hne.out] at HC0
 try rw [hX.out] at hcx
 try rw [hnx.out] at hcx
 try rw [hnb.out] at hcx
 try rw [hne.out] at hcx
 try rw [hX.out] at hcb
 try rw [hnx.out] at hcb
 try rw [hnb.out] at hcb
 try rw [hne.out] at hcb
 try rw [hX.out] at hce
 try rw [hnx.out] at hce
 try rw [hnb.out] at hce
 try rw [hne.out] at hce
 try rw [hX.out] at HL
 try rw [hnx.out] at HL
 try rw [hnb.out] at HL
 try rw [hne.out] at HL
 try rw [hX.out] at HVA
 try rw [hnx.out] at HVA
 try rw [hnb.out] at HVA
 try rw [hne.out] at HVA
 try rw [hX.out] at HWR
 try rw [hnx.out] at HWR
 try rw [hnb.out] at HWR
 try rw [hne.out] at HWR
 try rw [hX.out] at HBR
 try rw [hnx.out] at HBR
 try rw [hnb.out] at HBR
 try rw [hne.out] at HBR
 try rw [hX.out] at HST
 try rw [hnx.out] at HST
 try rw [hnb.out] at HST
 try rw [hne.out] at HST
 try rw [hX.out] at HP
 try rw [hnx.out] at HP
 try rw [hnb.out] at HP
 try rw [hne.out] at HP
 try rw [hX.out] at HE
 try rw [hnx.out] at HE
 try rw [hnb.out] at HE
 try rw [hne.out] at HE
 try rw [hX.out] at HYB
 try rw [hnx.out] at HYB
 try rw [hnb.out] at HYB
 try rw [hne.out] at HYB
 try rw [hX.out] at HYE
 try rw [hnx.out] at HYE
 try rw [hnb.out] at HYE
 try rw [hne.out] at HYE
 try rw [hX.out]
 try rw [hnx.out]
 try rw [hnb.out]
 try rw [hne.out]
 clear hV0 hAK hWA hr hyx h8 hl8 IX hS hR hs1 hg HRM hroom hrm1
 unfold at0 at *
 try unfold layF at *
 go_enter Tryz.func154,Tryz.ntmps154
 go_wp2_with (first
   | (go_at_call 192
      refine HIX.out.mono ?_
      rintro e1 w1 ⟨rfl,hw1,hc1⟩
      have HW1:=Lib.hid hw1
      have HC1:=Lib.hid (HC0.out.trans hc1)
      have HQ1:=Lib.hid (hc1.box HOK.out HQ.out hqw (by decide) (by decide) (by decide))
      obtain ⟨d0,d1,d2,d3,d4,d5⟩:=bx6k HQ1.out
      clear hw1 hc1)
   | (go_at_call 195
      refine (HJ.out _ HW1.out).mono ?_
      rintro e2 w2 ⟨g1,g2,rfl,hl2,hw2,hc2⟩
      have HW2:=Lib.hid hw2
      have HC2:=Lib.hid (HC1.out.trans hc2)
      have HL2:=Lib.hid hl2
      have HQ2:=Lib.hid (hc2.box HOK.out HQ1.out hqw (by decide) (by decide) (by decide))
      obtain ⟨f0,f1,f2,f3,f4,f5⟩:=bx6k HQ2.out
      clear hw2 hc2 hl2)
   | (go_at_call 110
      refine (HST.out _ HW2.out HC2.out.b).mono ?_
      rintro e3 w3 ⟨rfl,hw3,hc3⟩
      have HW3:=Lib.hid hw3
      have HC3:=Lib.hid (HC2.out.trans hc3)
      have HL3:=Lib.hid (HL2.out.cf hc3 HOK.out)
      clear hw3 hc3)
   | (go_at_call 66
      refine (HWR.out _ HW3.out).mono ?_
      rintro e4 w4 ⟨rfl,hw4,hc4⟩
      have HW4:=Lib.hid hw4
      have HC4:=Lib.hid (HC3.out.trans hc4)
      have HL4:=Lib.hid (HL3.out.cf hc4 HOK.out)
      clear hw4 hc4)
   | (go_at_call 218
      refine (HL.out _ _ _ HW4.out HL4.out).mono ?_
      rintro e5 w5 ⟨rfl,hw5,hc5⟩
      have HW5:=Lib.hid hw5
      have HC5:=Lib.hid (HC4.out.trans hc5)
      clear hw5 hc5)
   | (fail))
 go_end0
 exact ⟨rfl,by rw [HE.out]; exact HW5.out,HC5.out⟩
end
end Go.Proofs.YtcmopnkldplngabGreatDoor
namespace Go.Proofs.YtcmopnkldplngabGreatDoor
open Go.RowKit
set_option linter.unusedVariables false
section
variable {base:Nat} {K:Bk} {E:Env} {nm:List Nat} {pr:Nat} {S:Nat→Prop}
set_option maxRecDepth 100000 in
set_option maxHeartbeats 8000000 in
theorem sm_send (hS:∀ b,S b→b<base) (s:List Nat) (x:List Ex) (b e:List Sm) (ln:Int) (IX:ExsC base K E nm pr S x):SmC base K E nm pr S (.mk 6 s x b e ln):=by
 intro w st v hW hr hroom
 rw [smN] at hroom
 obtain ⟨yx,yb,ye,rfl,h8,hl8,hyx,hyb,hye⟩:=(Sm.rd 6 s x b e ln v).1 hr
 have HYB:=Lib.hid hyb
 have HYE:=Lib.hid hye
 have hyx':=hyx
 rw [Rd] at hyx' hyb hye
 obtain ⟨Ax,cx,rfl,hcx,hcmx,-⟩:=hyx'
 obtain ⟨Ab,cb,rfl,hcb,hcmb,-⟩:=hyb
 obtain ⟨Ae,ce,rfl,hce,hcme,-⟩:=hye
 rw [List.length_map] at hcx hyx hcb hce HYB HYE
 rw [List.length_map,List.length_map,List.length_map]
 have hq:=hW.lt
 obtain ⟨hqc,hqw,hbw⟩:=hq
 have HOK:=Lib.hid hW.ok
 have hWA:=hW.alloc (.cells #[.int .u8 6,.string (strOf s),.slice Ax x.length cx,.slice Ab b.length cb,.slice Ae e.length ce,.int .i64 ln] 218)
 have HC0:=Lib.hid ((Cf.refl base K w).alloc hbw (.cells #[.int .u8 6,.string (strOf s),.slice Ax x.length cx,.slice Ab b.length cb,.slice Ae e.length ce,.int .i64 ln] 218))
 have HQ:=Lib.hid (heap_new w (.cells #[.int .u8 6,.string (strOf s),.slice Ax x.length cx,.slice Ab b.length cb,.slice Ae e.length ce,.int .i64 ln] 218))
 have hg:=Gr.exs E st x
 have HRM:=hroom.mono (show exsN x+1 ≤ _ by omega)
 have hrm1:=HRM.gr hg
 have hr1:=HRM.code
 have hr2:=HRM.cs
 have hr3:=HRM.sc
 have HIX:=Lib.hid (IX _ st _ hWA (Rd.cf hS hyx HC0.out.b) (by omega) (by omega) (by omega))
 obtain ⟨V0,hV0⟩:=hW
 obtain ⟨⟨a0,a1,a2,a3,a4,a5⟩,-⟩:=bx6 hV0.h
 obtain ⟨AK,cK,hAK,hcK,hcmK⟩:=row_form hV0.rk
 rw [hAK] at a4
 have HNM:Hid (NmOk s):=Lib.hid ⟨h8,hl8⟩
 have HSS:=Lib.hid hS
 obtain ⟨R,hR⟩:∃ R,Hid (smW E st (.mk 6 s x b e ln)=R):=⟨_,Lib.hid rfl⟩
 obtain ⟨s1,hs1⟩:∃ s1,Hid (exsW E st x=s1):=⟨_,Lib.hid rfl⟩
 have HE:Hid (R=s1.tag s ((x.length:Int)-1)):=Lib.hid (by
   rw [← hR.out,smW,← hs1.out]
   rw [if_neg (show ¬ (6:Nat)=1 by omega)]
   rw [if_neg (show ¬ (6:Nat)=2 by omega)]
   rw [if_neg (show ¬ (6:Nat)=3 by omega)]
   rw [if_neg (show ¬ (6:Nat)=4 by omega)]
   rw [if_neg (show ¬ (6:Nat)=5 by omega)]
   rw [if_pos (show (6:Nat)=6 from rfl)])
 rw [hs1.out] at HIX hrm1
 have hm1:=hrm1.code
 have hm2:=hrm1.cs
 have hm3:=hrm1.ts
 have hm4:=hrm1.sc
 have hm5:=hrm1.vars
 rw [hR.out]
 obtain ⟨X,hX⟩:∃ X,Hid (strOf s=X):=⟨_,Lib.hid rfl⟩
 have HP:=Lib.hid (fun (w':World) (h:WrS base K E nm pr w' s1)=>placeT_any h s HNM.out (by omega))
 obtain ⟨pi,hpi⟩:∃ z,Hid (plcI s s1.ts=z):=⟨_,Lib.hid rfl⟩
 obtain ⟨bz,hbz⟩:∃ z:Int,Hid ((x.length:Int)-1=z):=⟨_,Lib.hid rfl⟩
 have HWR:=Lib.hid (fun (w':World) (h:WrS base K E nm pr w' { s1 with ts:=plcL s s1.ts })=>show Calls Tryz.prog 66 #[at0 K.qw,.int .u8 24,.int .i64 (pi:Int),.int .i64 bz] w' (OutW base K E nm pr w' (({ s1 with ts:=plcL s s1.ts }:Ws).put 24 (pi:Int) bz)) from write_any h 24 (pi:Int) bz (by show s1.code.length≤1000000; omega))
 have HE2:Hid (s1.tag s ((x.length:Int)-1)=({ s1 with ts:=plcL s s1.ts }:Ws).put 24 (pi:Int) bz):=Lib.hid (by rw [← hpi.out,← hbz.out]; rfl)
 rw [HE2.out] at HE
 rw [hpi.out] at HP
 have hxl:x.length≤9223372036854775807:=by unfold maxLen at hcmx; omega
 have hwr2:wrap64 ((x.length:Int)-1)=bz:=by rw [← hbz.out]; exact IntWalk.wrap64_in _ ⟨by omega,by omega⟩
 have hwr:IntKind.i64.wrap ((x.length:Int)-1)=bz:=by rw [← hbz.out]; exact IntWalk.i64_in _ (by omega)
 clear hwr2
 unfold OutPl at HP
 obtain ⟨nx,hnx⟩:∃ z,Hid (x.length=z):=⟨_,Lib.hid rfl⟩
 obtain ⟨nb,hnb⟩:∃ z,Hid (b.length=z):=⟨_,Lib.hid rfl⟩
 obtain ⟨ne,hne⟩:∃ z,Hid (e.length=z):=⟨_,Lib.hid rfl⟩
 try rw [hX.out] at HIX
 try rw [hnx.out] at HIX
 try rw [hnb.out] at HIX
 try rw [hne.out] at HIX
 try rw [hX.out] at HQ
 try rw [hnx.out] at HQ
 try rw [hnb.out] at HQ
 try rw [hne.out] at HQ
 try rw [hX.out] at HC0
 try rw [hnx.out] at HC0
 try rw [hnb.out] at HC0
 try rw [hne.out] at HC0
 try rw [hX.out] at hcx
 try rw [hnx.out] at hcx
 try rw [hnb.out] at hcx
 try rw [hne.out] at hcx
 try rw [hX.out] at hcb
 try rw [hnx.out] at hcb
 try rw [hnb.out] at hcb
 try rw [hne.out] at hcb
 try rw [hX.out] at hce
 try rw [hnx.out] at hce
 try rw [hnb.out] at hce
 try rw [hne.out] at hce
 try rw [hX.out] at HL
 try rw [hnx.out] at HL
 try rw [hnb.out] at HL
 try rw [hne.out] at HL
 try rw [hX.out] at HVA
 try rw [hnx.out] at HVA
 try rw [hnb.out] at HVA
 try rw [hne.out] at HVA
 try rw [hX.out] at HWR
 try rw [hnx.out] at HWR
 try rw [hnb.out] at HWR
 try rw [hne.out] at HWR
 try rw [hX.out] at HBR
 try rw [hnx.out] at HBR
 try rw [hnb.out] at HBR
 try rw [hne.out] at HBR
 try rw [hX.out] at HST
 try rw [hnx.out] at HST
 try rw [hnb.out] at HST
 try rw [hne.out] at HST
 try rw [hX.out] at HP
 try rw [hnx.out] at HP
 try rw [hnb.out] at HP
 try rw [hne.out] at HP
 try rw [hX.out] at HE
 try rw [hnx.out] at HE
 try rw [hnb.out] at HE
 try rw [hne.out] at HE
 try rw [hX.out] at HYB
 try rw [hnx.out] at HYB
 try rw [hnb.out] at HYB
 try rw [hne.out] at HYB
 try rw [hX.out] at HYE
 try rw [hnx.out] at HYE
 try rw [hnb.out] at HYE
 try rw [hne.out] at HYE
 try rw [hX.out]
 try rw [hnx.out]
 try rw [hnb.out]
 try rw [hne.out]
 clear hV0 hAK hWA hr hyx h8 hl8 IX hS hR hs1 hg HRM hroom hrm1
 unfold at0 at *
 try unfold layF at *
 go_enter Tryz.func154,Tryz.ntmps154
 go_upto_region 18 with (first
   | (go_at_call 192
      refine HIX.out.mono ?_
      rintro e1 w1 ⟨rfl,hw1,hc1⟩
      have HW1:=Lib.hid hw1
      have HC1:=Lib.hid (HC0.out.trans hc1)
      have HQ1:=Lib.hid (hc1.box HOK.out HQ.out hqw (by decide) (by decide) (by decide))
      obtain ⟨d0,d1,d2,d3,d4,d5⟩:=bx6k HQ1.out
      clear hw1 hc1)
   | (fail))
 try rw [hnx.out] at hwr
 obtain ⟨V1,hV1⟩:=HW1.out
 obtain ⟨⟨k1,-⟩,-⟩:=bx6 hV1.h
 go_region_held3 (fun w'=>w'.cell? ⟨K.qw,0,none⟩=some (.pointer (some ⟨K.qc,0,none⟩))∧w'.cell? ⟨w.heap.size,1,none⟩=some (.string X)∧w'.cell? ⟨w.heap.size,2,none⟩=some (.slice Ax nx cx)) (go_keep)
   (first
     | (go_at_call 196
        refine (HP.out _ HW1.out.drew).mono ?_
        rintro e2 w2 ⟨rfl,hw2,hc2⟩
        have HW2:=Lib.hid hw2
        have HC2:=Lib.hid (HC1.out.drew.trans hc2)
        have HQ2:=Lib.hid (hc2.box HOK.out (show w1.drew.heap[w.heap.size]? = _ from HQ1.out) hqw (by decide) (by decide) (by decide))
        obtain ⟨t0,t1,t2,t3,t4,t5⟩:=bx6k HQ2.out
        obtain ⟨V2,hV2⟩:=hw2
        obtain ⟨⟨k2,-⟩,-⟩:=bx6 hV2.h
        clear hc2 hV2)
     | (go_at_call 66
        refine (HWR.out _ HW2.out).mono ?_
        rintro e3 w3 ⟨rfl,hw3,hc3⟩
        have HW3:=Lib.hid hw3
        have HC3:=Lib.hid (HC2.out.trans hc3)
        obtain ⟨r0,r1,r2,r3,r4,r5⟩:=bx6k (hc3.box HOK.out HQ2.out hqw (by decide) (by decide) (by decide))
        obtain ⟨V3,hV3⟩:=hw3
        obtain ⟨⟨k3,-⟩,-⟩:=bx6 hV3.h
        clear hc3 hV3)
     | (fail))
 go_wp2_with fail
 go_end0
 exact ⟨rfl,by rw [HE.out]; exact HW3.out,HC3.out⟩
set_option maxRecDepth 100000 in
set_option maxHeartbeats 8000000 in
theorem sm_become (hS:∀ b,S b→b<base) (s:List Nat) (x:List Ex) (b e:List Sm) (ln:Int) (IX:ExsC base K E nm pr S x):SmC base K E nm pr S (.mk 7 s x b e ln):=by
 intro w st v hW hr hroom
 rw [smN] at hroom
 obtain ⟨yx,yb,ye,rfl,h8,hl8,hyx,hyb,hye⟩:=(Sm.rd 7 s x b e ln v).1 hr
 have HYB:=Lib.hid hyb
 have HYE:=Lib.hid hye
 have hyx':=hyx
 rw [Rd] at hyx' hyb hye
 obtain ⟨Ax,cx,rfl,hcx,hcmx,-⟩:=hyx'
 obtain ⟨Ab,cb,rfl,hcb,hcmb,-⟩:=hyb
 obtain ⟨Ae,ce,rfl,hce,hcme,-⟩:=hye
 rw [List.length_map] at hcx hyx hcb hce HYB HYE
 rw [List.length_map,List.length_map,List.length_map]
 have hq:=hW.lt
 obtain ⟨hqc,hqw,hbw⟩:=hq
 have HOK:=Lib.hid hW.ok
 have hWA:=hW.alloc (.cells #[.int .u8 7,.string (strOf s),.slice Ax x.length cx,.slice Ab b.length cb,.slice Ae e.length ce,.int .i64 ln] 218)
 have HC0:=Lib.hid ((Cf.refl base K w).alloc hbw (.cells #[.int .u8 7,.string (strOf s),.slice Ax x.length cx,.slice Ab b.length cb,.slice Ae e.length ce,.int .i64 ln] 218))
 have HQ:=Lib.hid (heap_new w (.cells #[.int .u8 7,.string (strOf s),.slice Ax x.length cx,.slice Ab b.length cb,.slice Ae e.length ce,.int .i64 ln] 218))
 have hg:=Gr.exs E st x
 have HRM:=hroom.mono (show exsN x+1 ≤ _ by omega)
 have hrm1:=HRM.gr hg
 have hr1:=HRM.code
 have hr2:=HRM.cs
 have hr3:=HRM.sc
 have HIX:=Lib.hid (IX _ st _ hWA (Rd.cf hS hyx HC0.out.b) (by omega) (by omega) (by omega))
 obtain ⟨V0,hV0⟩:=hW
 obtain ⟨⟨a0,a1,a2,a3,a4,a5⟩,-⟩:=bx6 hV0.h
 obtain ⟨AK,cK,hAK,hcK,hcmK⟩:=row_form hV0.rk
 rw [hAK] at a4
 have HNM:Hid (NmOk s):=Lib.hid ⟨h8,hl8⟩
 have HSS:=Lib.hid hS
 obtain ⟨R,hR⟩:∃ R,Hid (smW E st (.mk 7 s x b e ln)=R):=⟨_,Lib.hid rfl⟩
 obtain ⟨s1,hs1⟩:∃ s1,Hid (exsW E st x=s1):=⟨_,Lib.hid rfl⟩
 have HE:Hid (R=s1.put 25 (locL s E.roles:Int) 0):=Lib.hid (by
   rw [← hR.out,smW,← hs1.out]
   rw [if_neg (show ¬ (7:Nat)=1 by omega)]
   rw [if_neg (show ¬ (7:Nat)=2 by omega)]
   rw [if_neg (show ¬ (7:Nat)=3 by omega)]
   rw [if_neg (show ¬ (7:Nat)=4 by omega)]
   rw [if_neg (show ¬ (7:Nat)=5 by omega)]
   rw [if_neg (show ¬ (7:Nat)=6 by omega)]
   rw [if_pos (show (7:Nat)=7 from rfl)])
 rw [hs1.out] at HIX hrm1
 have hm1:=hrm1.code
 have hm2:=hrm1.cs
 have hm3:=hrm1.ts
 have hm4:=hrm1.sc
 have hm5:=hrm1.vars
 rw [hR.out]
 obtain ⟨X,hX⟩:∃ X,Hid (strOf s=X):=⟨_,Lib.hid rfl⟩
 have HWR:=Lib.hid (fun (w':World) (h:WrS base K E nm pr w' s1)=>show Calls Tryz.prog 66 #[at0 K.qw,.int .u8 25,.int .i64 (locL s E.roles:Int),.int .i64 0] w' (OutW base K E nm pr w' (s1.put 25 (locL s E.roles:Int) 0)) from write_any h 25 _ 0 (by omega))
 obtain ⟨iv,hiv⟩:∃ iv:Int,Hid ((locL s E.roles:Int)=iv):=⟨_,Lib.hid rfl⟩
 rw [hiv.out] at HWR HE
 have HLK:=Lib.hid (fun (w':World) (s1:Ws) (h:WrS base K E nm pr w' s1)=>show (Instr.lookup 107 (.map (some K.br)) (.string (strOf s)) false).run Tryz.prog w' = .ok (.int .i64 iv) w'∧w'.cell? ⟨K.qw,0,none⟩=some (.pointer (some ⟨K.qc,0,none⟩))∧w'.cell? ⟨K.qc,1,none⟩=some (.map (some K.br)) from by
   obtain ⟨V',hV'⟩:=h
   rw [← hiv.out]
   obtain ⟨⟨a0,-⟩,-⟩:=bx6 hV'.h
   obtain ⟨⟨p0,p1,p2,p3,p4,-⟩,-⟩:=bx9 hV'.cm.h
   exact ⟨hV'.cm.r.look s HNM.out,a0,p1⟩)
 obtain ⟨nx,hnx⟩:∃ z,Hid (x.length=z):=⟨_,Lib.hid rfl⟩
 obtain ⟨nb,hnb⟩:∃ z,Hid (b.length=z):=⟨_,Lib.hid rfl⟩
 obtain ⟨ne,hne⟩:∃ z,Hid (e.length=z):=⟨_,Lib.hid rfl⟩
 try rw [hX.out] at HIX
 try rw [hnx.out] at HIX
 try rw [hnb.out] at HIX
 try rw [hne.out] at HIX
 try rw [hX.out] at HQ
 try rw [hnx.out] at HQ
 try rw [hnb.out] at HQ
 try rw [hne.out] at HQ
 try rw [hX.out] at HC0
 try rw [hnx.out] at HC0
 try rw [hnb.out] at HC0
 try rw [hne.out] at HC0
 try rw [hX.out] at hcx
 try rw [hnx.out] at hcx
 try rw [hnb.out] at hcx
 try rw [hne.out] at hcx
 try rw [hX.out] at hcb
 try rw [hnx.out] at hcb
 try rw [hnb.out] at hcb
 try rw [hne.out] at hcb
 try rw [hX.out] at hce
 try rw [hnx.out] at hce
 try rw [hnb.out] at hce
 try rw [hne.out] at hce
 try rw [hX.out] at HL
 try rw [hnx.out] at HL
 try rw [hnb.out] at HL
 try rw [hne.out] at HL
 try rw [hX.out] at HVA
 try rw [hnx.out] at HVA
 try rw [hnb.out] at HVA
 try rw [hne.out] at HVA
 try rw [hX.out] at HWR
 try rw [hnx.out] at HWR
 try rw [hnb.out] at HWR
 try rw [hne.out] at HWR
 try rw [hX.out] at HBR
 try rw [hnx.out] at HBR
 try rw [hnb.out] at HBR
 try rw [hne.out] at HBR
 try rw [hX.out] at HST
 try rw [hnx.out] at HST
 try rw [hnb.out] at HST
 try rw [hne.out] at HST
 try rw [hX.out] at HP
 try rw [hnx.out] at HP
 try rw [hnb.out] at HP
 try rw [hne.out] at HP
 try rw [hX.out] at HE
 try rw [hnx.out] at HE
 try rw [hnb.out] at HE
 try rw [hne.out] at HE
 try rw [hX.out] at HYB
 try rw [hnx.out] at HYB
 try rw [hnb.out] at HYB
 try rw [hne.out] at HYB
 try rw [hX.out] at HYE
 try rw [hnx.out] at HYE
 try rw [hnb.out] at HYE
 try rw [hne.out] at HYE
 try rw [hX.out]
 try rw [hnx.out]
 try rw [hnb.out]
 try rw [hne.out]
 clear hV0 hAK hWA hr hyx h8 hl8 IX hS hR hs1 hg HRM hroom hrm1
 unfold at0 at *
 try unfold layF at *
 go_enter Tryz.func154,Tryz.ntmps154
 go_upto_region 20 with (first
   | (go_at_call 192
      refine HIX.out.mono ?_
      rintro e1 w1 ⟨rfl,hw1,hc1⟩
      have HW1:=Lib.hid hw1
      have HC1:=Lib.hid (HC0.out.trans hc1)
      have HQ1:=Lib.hid (hc1.box HOK.out HQ.out hqw (by decide) (by decide) (by decide))
      obtain ⟨d0,d1,d2,d3,d4,d5⟩:=bx6k HQ1.out
      clear hw1 hc1)
   | (fail))
 obtain ⟨k1,k2,k3⟩:=HLK.out _ _ HW1.out.drew
 obtain ⟨-,k4,k5⟩:=HLK.out _ _ HW1.out
 rw [hX.out] at k1
 go_region_held3 (fun w'=>(w'.cell? ⟨K.qw,0,none⟩=some (.pointer (some ⟨K.qc,0,none⟩))∧w'.cell? ⟨K.qc,1,none⟩=some (.map (some K.br))∧w'.cell? ⟨w.heap.size,1,none⟩=some (.string X))∧(Instr.lookup 107 (.map (some K.br)) (.string X) false).run Tryz.prog w' = .ok (.int .i64 iv) w') (go_keep)
   (first
     | (go_at_call 66
        refine (HWR.out _ HW1.out.drew).mono ?_
        rintro e2 w2 ⟨rfl,hw2,hc2⟩
        have HW2:=Lib.hid hw2
        have HC2:=Lib.hid (HC1.out.drew.trans hc2)
        obtain ⟨m1,m2,m3⟩:=HLK.out _ _ hw2
        rw [hX.out] at m1
        obtain ⟨t0,t1,t2,t3,t4,t5⟩:=bx6k (hc2.box HOK.out (show w1.drew.heap[w.heap.size]? = _ from HQ1.out) hqw (by decide) (by decide) (by decide))
        clear hw2 hc2)
     | (fail))
 go_wp2_with fail
 go_end0
 exact ⟨rfl,by rw [HE.out]; exact HW2.out,HC2.out⟩
end
end Go.Proofs.YtcmopnkldplngabGreatDoor
namespace Go.Proofs.YtcmopnkldplngabGreatDoor
open Go.RowKit
set_option linter.unusedVariables false
section
variable {base:Nat} {K:Bk} {E:Env} {nm:List Nat} {pr:Nat} {S:Nat→Prop}
set_option maxRecDepth 100000 in
set_option maxHeartbeats 4000000 in
theorem branches_any (hS:∀ b,S b→b<base) (b e:List Sm) (HB:SmsC base K E nm pr S b) (HE:SmsC base K E nm pr S e):BrC base K E nm pr S b e:=by
 intro w st vb ve hW rb re hroom
 have RB:=Lib.hid rb
 have RE:=Lib.hid re
 rw [Rd] at rb re
 obtain ⟨Ab,cb,rfl,hcb,hcmb,-⟩:=rb
 obtain ⟨Ae,ce,rfl,hce,hcme,-⟩:=re
 rw [List.length_map] at hcb hce RB RE ⊢
 rw [List.length_map]
 have hq:=hW.lt
 obtain ⟨hqc,hqw,hbw⟩:=hq
 have HOK:=Lib.hid hW.ok
 have HJ1:=Lib.hid (jump_any hW 28 (by have:=hroom.code; omega))
 have hrm1:Rm (st.put 28 0 0) (smsN b+smsN e+(if e≠[] then 1 else 0)):=(hroom.mono (show 1+(smsN b+smsN e+(if e≠[] then 1 else 0)) ≤ _ by omega)).gr (Gr.put _ _ _ _)
 have HST1:=Lib.hid (fun (w':World) (h:WrS base K E nm pr w' (st.put 28 0 0)) (hk:Below base w w')=>HB w' (st.put 28 0 0) (.slice Ab b.length cb) h (Rd.cf hS RB.out hk) (hrm1.mono (by omega)))
 have hsc:(st.put 28 0 0).sc.length=st.sc.length:=rfl
 have hj1:(st.put 28 0 0).code.length=st.code.length+1:=put_len _ _ _ _
 rw [hsc] at HST1
 have hg2:=smsW_gr E (st.put 28 0 0) b
 have hs2c:=smsW_sc E (st.put 28 0 0) b
 rw [hsc] at hg2 hs2c
 have hp2:=(smsW_pre E st.sc.length (st.put 28 0 0) b).1
 obtain ⟨s2,hs2⟩:∃ s2,Hid (smsW E st.sc.length (st.put 28 0 0) b=s2):=⟨_,Lib.hid rfl⟩
 rw [hs2.out] at HST1 hg2 hs2c hp2
 have hrm2:Rm s2 (smsN e+(if e≠[] then 1 else 0)):=(hrm1.mono (show smsN b+(smsN e+(if e≠[] then 1 else 0)) ≤ _ by omega)).gr hg2
 have hc2:=hrm2.code
 by_cases he:e=[]
 · subst he
   have HE2:Hid (ifW E st b []=s2.lay st.code.length):=Lib.hid (by unfold ifW; rw [if_pos rfl,hs2.out])
   rw [HE2.out]
   have HL1:=Lib.hid (fun (w':World) (g h:Nat) (hw:WrS base K E nm pr w' s2) (hl:LayAt w' K g h st.code.length)=>lay_any hw hl (by omega) (by omega))
   obtain ⟨nb,hnb⟩:∃ z,Hid (b.length=z):=⟨_,Lib.hid rfl⟩
   rw [hnb.out] at HST1 hcb ⊢
   rw [List.length_nil]
   unfold OutJ layF at HJ1
   clear hW hroom hrm1 hrm2 hg2 hs2 hs2c RB RE HB HE hS hnb
   unfold at0 at *
   go_enter Tryz.func194,Tryz.ntmps194
   go_wp2_with (first
     | (go_at_call 195
        refine HJ1.out.mono ?_
        rintro e1 w1 ⟨g1,g2,rfl,hl1,hw1,hc1⟩
        have HW1:=Lib.hid hw1
        have HC1:=Lib.hid hc1
        have HL:=Lib.hid hl1
        clear hw1 hc1 hl1)
     | (go_at_call 110
        refine (HST1.out _ HW1.out HC1.out.b).mono ?_
        rintro e2 w2 ⟨rfl,hw2,hc2⟩
        have HW2:=Lib.hid hw2
        have HC2:=Lib.hid (HC1.out.trans hc2)
        have HL2:=Lib.hid (HL.out.cf hc2 HOK.out)
        clear hw2 hc2)
     | (go_at_call 218
        refine (HL1.out _ _ _ HW2.out HL2.out).mono ?_
        rintro e3 w3 ⟨rfl,hw3,hc3⟩
        have HW3:=Lib.hid hw3
        have HC3:=Lib.hid (HC2.out.trans hc3)
        clear hw3 hc3)
     | (fail))
   go_end0
   exact ⟨rfl,HW3.out,HC3.out⟩
 · rw [if_pos he] at hrm2 hc2
   have hne:0<e.length:=by
     cases e with
     | nil=>exact absurd rfl he
     | cons y r=>simp
   have t1:((e.length:Int) == 0)=false:=beq_eq_false_iff_ne.2 (by omega)
   have HJ2:=Lib.hid (fun (w':World) (h:WrS base K E nm pr w' s2)=>jump_any h 27 (by omega))
   have hl3:(s2.put 27 0 0).code.length=s2.code.length+1:=put_len _ _ _ _
   have HL1:=Lib.hid (fun (w':World) (g h:Nat) (hw:WrS base K E nm pr w' (s2.put 27 0 0)) (hl:LayAt w' K g h st.code.length)=>lay_any hw hl (by omega) (by omega))
   have hl4:((s2.put 27 0 0).lay st.code.length).code.length=s2.code.length+1:=by rw [lay_len]; exact hl3
   have hs4:((s2.put 27 0 0).lay st.code.length).sc.length=st.sc.length:=hs2c
   have hrm4:Rm ((s2.put 27 0 0).lay st.code.length) (smsN e):=by
     have h1:Rm (s2.put 27 0 0) (0+smsN e):=(hrm2.mono (show 1+(0+smsN e) ≤ _ by omega)).gr (Gr.put _ _ _ _)
     exact h1.gr (Gr.lay _ _)
   have HST2:=Lib.hid (fun (w':World) (h:WrS base K E nm pr w' ((s2.put 27 0 0).lay st.code.length)) (hk:Below base w w')=>HE w' _ (.slice Ae e.length ce) h (Rd.cf hS RE.out hk) hrm4)
   rw [hs4] at HST2
   have hg5:=smsW_gr E ((s2.put 27 0 0).lay st.code.length) e
   rw [hs4] at hg5
   have hp5:=(smsW_pre E st.sc.length ((s2.put 27 0 0).lay st.code.length) e).1
   rw [hl4] at hp5
   obtain ⟨s5,hs5⟩:∃ s5,Hid (smsW E st.sc.length ((s2.put 27 0 0).lay st.code.length) e=s5):=⟨_,Lib.hid rfl⟩
   rw [hs5.out] at HST2 hg5 hp5
   have hc5:=hg5.code
   rw [hl4] at hc5
   have HL2:=Lib.hid (fun (w':World) (g h:Nat) (hw:WrS base K E nm pr w' s5) (hl:LayAt w' K g h s2.code.length)=>lay_any hw hl (by omega) (by omega))
   have HE2:Hid (ifW E st b e=s5.lay s2.code.length):=Lib.hid (by unfold ifW; rw [if_neg he,hs2.out,hs5.out])
   rw [HE2.out]
   obtain ⟨nb,hnb⟩:∃ z,Hid (b.length=z):=⟨_,Lib.hid rfl⟩
   obtain ⟨ne,hnn⟩:∃ z,Hid (e.length=z):=⟨_,Lib.hid rfl⟩
   rw [hnb.out] at HST1 hcb ⊢
   rw [hnn.out] at HST2 hce t1 hne ⊢
   unfold OutJ layF at HJ1 HJ2
   clear hW hroom hrm1 hrm2 hrm4 hg2 hg5 hs2 hs5 hs2c hs4 RB RE HB HE hS hnb hnn he
   unfold at0 at *
   go_enter Tryz.func194,Tryz.ntmps194
   go_wp2_with (first
     | (go_at_call 195
        refine HJ1.out.mono ?_
        rintro e1 w1 ⟨g1,g2,rfl,hl1,hw1,hc1⟩
        have HW1:=Lib.hid hw1
        have HC1:=Lib.hid hc1
        have HLa:=Lib.hid hl1
        clear hw1 hc1 hl1 HJ1)
     | (go_at_call 110
        refine (HST1.out _ HW1.out HC1.out.b).mono ?_
        rintro e2 w2 ⟨rfl,hw2,hc2⟩
        have HW2:=Lib.hid hw2
        have HC2:=Lib.hid (HC1.out.trans hc2)
        have HLb:=Lib.hid (HLa.out.cf hc2 HOK.out)
        clear hw2 hc2 HST1)
     | (go_at_call 195
        refine (HJ2.out _ HW2.out).mono ?_
        rintro e3 w3 ⟨g3,g4,rfl,hl3,hw3,hc3⟩
        have HW3:=Lib.hid hw3
        have HC3:=Lib.hid (HC2.out.trans hc3)
        have HLc:=Lib.hid (HLb.out.cf hc3 HOK.out)
        have HMc:=Lib.hid hl3
        clear hw3 hc3 hl3)
     | (go_at_call 218
        refine (HL1.out _ _ _ HW3.out HLc.out).mono ?_
        rintro e4 w4 ⟨rfl,hw4,hc4⟩
        have HW4:=Lib.hid hw4
        have HC4:=Lib.hid (HC3.out.trans hc4)
        have HMd:=Lib.hid (HMc.out.cf hc4 HOK.out)
        clear hw4 hc4 HL1)
     | (go_at_call 110
        refine (HST2.out _ HW4.out HC4.out.b).mono ?_
        rintro e5 w5 ⟨rfl,hw5,hc5⟩
        have HW5:=Lib.hid hw5
        have HC5:=Lib.hid (HC4.out.trans hc5)
        have HMe:=Lib.hid (HMd.out.cf hc5 HOK.out)
        clear hw5 hc5)
     | (go_at_call 218
        refine (HL2.out _ _ _ HW5.out HMe.out).mono ?_
        rintro e6 w6 ⟨rfl,hw6,hc6⟩
        have HW6:=Lib.hid hw6
        have HC6:=Lib.hid (HC5.out.trans hc6)
        clear hw6 hc6)
     | (fail))
   go_end0
   exact ⟨rfl,HW6.out,HC6.out⟩
set_option maxRecDepth 100000 in
set_option maxHeartbeats 4000000 in
theorem stmtsW_any (hS:∀ b,S b→b<base) (l:List Sm) (IH:∀ x∈l,SmC base K E nm pr S x):SmsC base K E nm pr S l:=by
 intro w st v hW hr hroom
 rw [Rd] at hr
 obtain ⟨A,cp,rfl,hcp,hcpm,hr⟩:=hr
 rw [List.length_map] at hcp ⊢
 have HR:=Lib.hid hr
 have HSS:=Lib.hid hS
 have HIH:=Lib.hid IH
 have HOK:=Lib.hid hW.ok
 have HW0:=Lib.hid hW
 have HRM:=Lib.hid hroom
 have hq:=hW.lt
 obtain ⟨hqc,hqw,hbw⟩:=hq
 obtain ⟨V0,hV0⟩:=hW
 obtain ⟨⟨a0,a1,a2,a3,a4,a5⟩,-⟩:=bx6 hV0.h
 obtain ⟨AK,cK,hAK,hcK,hcmK⟩:=row_form hV0.rs
 rw [hAK] at a5
 obtain ⟨m,hm⟩:∃ m,Hid (l.length=m):=⟨_,Lib.hid rfl⟩
 rw [hm.out] at hcp ⊢
 obtain ⟨R,hR⟩:∃ R,Hid (smsW E st.sc.length st l=R):=⟨_,Lib.hid rfl⟩
 rw [hR.out]
 obtain ⟨m0,hm0⟩:∃ m,st.sc.length=m:=⟨_,rfl⟩
 rw [hm0] at hR a5 hcK
 have hbq:=hV0.cm.ok.le.2.2.2.2.2
 unfold maxLen at hcpm
 clear hr hS hV0 hAK IH hroom
 unfold at0 at *
 go_enter Tryz.func110,Tryz.ntmps110
 go_wp2_with fail
 go_loopg [14] m (fun g i wr=>∃ (j:Nat) (sj:Ws),j+g=m∧i = .int .i64 (j:Int)∧Hid (smsW E m0 sj (l.drop j)=R)∧Hid (Rm sj (smsN (l.drop j)))∧m0≤sj.sc.length∧Hid (WrS base K E nm pr wr sj)∧Hid (Cf base K w wr))
 case atStart=>exact ⟨0,st,by omega,rfl,Lib.hid (by rw [List.drop_zero]; exact hR.out),Lib.hid (by rw [List.drop_zero]; exact HRM.out),by omega,HW0,Lib.hid (Cf.refl _ _ _)⟩
 case round =>
   clear HW0 a0 a1 a2 a3 a4 a5
   obtain ⟨j,sj,hj,rfl,HF,HN,hmj,HW,HK⟩:=hrel
   obtain ⟨hrc,hrw,hrb⟩:=HW.out.lt
   cases gk with
   | zero =>
     have h1:¬ (j:Int)<(m:Int):=by omega
     have HE:Hid (({ sj with sc:=sj.sc.take m0 }:Ws)=R):=Lib.hid (by rw [← HF.out,List.drop_eq_nil_of_le (by rw [hm.out]; omega),smsW])
     obtain ⟨V,hV⟩:=HW.out
     obtain ⟨⟨b0,b1,b2,b3,b4,b5⟩,g0,g1,g2,g3,g4,g5⟩:=bx6 hV.h
     obtain ⟨A2,c2,hA2,hc2,hcm2⟩:=row_form hV.rs
     have HT:=Lib.hid (hV.trunc hA2 hmj)
     have HCT:=Lib.hid (HK.out.set (p:=⟨K.qw,5,none⟩) (.inr rfl) hbq (.slice A2 m0 c2))
     rw [hA2] at b5
     obtain ⟨nj,hnj⟩:∃ z,Hid (sj.sc.length=z):=⟨_,Lib.hid rfl⟩
     rw [hnj.out] at b5 hmj hc2
     have hmc:m0≤c2:=by omega
     clear HF HIH HN hV hA2 hnj
     go_wp2_with fail
     go_end0
     exact ⟨rfl,by rw [← HE.out]; exact ⟨_,HT.out⟩,HCT.out⟩
   | succ g =>
     have h1:(j:Int)<(m:Int):=by omega
     have h2:j<m:=by omega
     have hjl:j<l.length:=by rw [hm.out]; exact h2
     obtain ⟨bb,o,vs,rfl,hSb,hvl,hrg,hx⟩:=HR.out.at j (Sm.nd l[j]) (by simp [hjl])
     have HD:=Lib.hid (List.drop_eq_getElem_cons hjl)
     have HIX:=Lib.hid (HIH.out l[j] (List.getElem_mem hjl))
     generalize l[j]=x at *
     have HF2:=Lib.hid (HF.out.symm.trans (by rw [HD.out,smsW]))
     have hN:=HN.out
     rw [HD.out,smsN] at hN
     have hgx:=smW_gr E sj x
     obtain ⟨k,s,xs,sb,se,ln⟩:=x
     have HX:=Lib.hid hx
     obtain ⟨yx,yb,ye,hv,-,-,hyx,hyb,hye⟩:=(Sm.rd k s xs sb se ln _).1 hx
     obtain ⟨A3,n3,c3,rfl⟩:=hyx.rowf
     obtain ⟨A4,n4,c4,rfl⟩:=hyb.rowf
     obtain ⟨A5,n5,c5,rfl⟩:=hye.rowf
     have hv2:vs=[.int .u8 (k:Int),.string (strOf s),.slice A3 n3 c3,.slice A4 n4 c4,.slice A5 n5 c5,.int .i64 ln]:=bx6v hv
     subst hv2
     have hbb:=HSS.out bb hSb
     have hcell:∀ i u,[Value.int .u8 (k:Int),.string (strOf s),.slice A3 n3 c3,.slice A4 n4 c4,.slice A5 n5 c5,.int .i64 ln][i]?=some u→wr.cell? ⟨bb,o+j*6+i,none⟩=some u:=fun i u hu=>by
       have:=hrg i u hu
       rw [Nat.zero_add] at this
       exact (HK.out.b.cell (p:=⟨bb,o+j*6+i,none⟩) hbb).trans this
     have y0:wr.cell? ⟨bb,o+j*6,none⟩=some (.int .u8 (k:Int)):=hcell 0 _ rfl
     have y1:=hcell 1 _ rfl
     have y2:=hcell 2 _ rfl
     have y3:=hcell 3 _ rfl
     have y4:=hcell 4 _ rfl
     have y5:=hcell 5 _ rfl
     have hbr:bb<wr.heap.size:=by omega
     have HC1:=Lib.hid (HK.out.alloc hrb (.cells #[.int .u8 (k:Int),.string (strOf s),.slice A3 n3 c3,.slice A4 n4 c4,.slice A5 n5 c5,.int .i64 ln] 218))
     have HXC:=Lib.hid (HIX.out _ sj _ (HW.out.alloc (.cells #[.int .u8 (k:Int),.string (strOf s),.slice A3 n3 c3,.slice A4 n4 c4,.slice A5 n5 c5,.int .i64 ln] 218)) (Rd.cf HSS.out HX.out HC1.out.b) (hN.mono (by omega)))
     have HN2:=Lib.hid (hN.gr hgx)
     have hm2:m0≤(smW E sj (.mk k s xs sb se ln)).sc.length:=Nat.le_trans hmj hgx.pre.length_le
     obtain ⟨s2,hs2⟩:∃ s2,Hid (smW E sj (.mk k s xs sb se ln)=s2):=⟨_,Lib.hid rfl⟩
     rw [hs2.out] at HXC HN2 HF2 hm2
     clear hrg hx hv hyx hyb hye HF HD hjl hcell HIH HIX HN hN hgx HX hs2
     generalize strOf s=X at *
     go_wp2_with (first
       | (go_at_call 154
          refine HXC.out.mono ?_
          rintro e w1 ⟨rfl,hw1,hc1⟩
          have HW1:=Lib.hid hw1
          have HK1:=Lib.hid (HC1.out.trans hc1)
          clear hw1 hc1)
       | (fail))
     go_roundg g
     case measure=>omega
     case rel=>exact ⟨j+1,s2,by omega,by go_num,Lib.hid HF2.out.symm,HN2,hm2,HW1,HK1⟩
theorem sm_all (hS:∀ b,S b→b<base):∀ (N:Nat) (x:Sm) (d c c':Nat),SizeOf.sizeOf x<N→smR d x c=some c'→NbS x→SmC base K E nm pr S x
 | 0,x,d,c,c',h, _, _ => absurd h (by omega)
 | N + 1,.mk k s x b e ln,d,c,c',hN,hr,hn=>by
   obtain ⟨h1,c1,c2,hx,hb,he⟩:=smR_parts hr
   rw [NbS] at hn
   have hkids:∀ (l:List Sm) (d c c':Nat),(∀ y∈l,SizeOf.sizeOf y<N)→smsR d l c=some c'→NbSs l→∀ y∈l,SmC base K E nm pr S y:=by
     intro l
     induction l with
     | nil=>intro d c c' _ _ _ y hy; cases hy
     | cons z r ih =>
       intro d c c' hsz hx hnb y hy
       obtain ⟨c1,hz,hr⟩:=smsR_parts hx
       rw [NbSs] at hnb
       rcases List.mem_cons.1 hy with rfl | hy
       · exact sm_all hS N y _ _ _ (hsz _ (by simp)) hz hnb.1
       · exact ih _ _ _ (fun y hy=>hsz y (by simp [hy])) hr hnb.2 y hy
   have IX:=exs_all (base:=base) (K:=K) (E:=E) (nm:=nm) (pr:=pr) hS x _ _ _ hx hn.1
   have IB:=stmtsW_any hS b (hkids b _ _ _ (fun y hy=>by
     have:=List.sizeOf_lt_of_mem hy
     simp at hN
     omega) hb hn.2.1)
   have IE:=stmtsW_any hS e (hkids e _ _ _ (fun y hy=>by
     have:=List.sizeOf_lt_of_mem hy
     simp at hN
     omega) he hn.2.2)
   have hk:=rightS_kin h1
   have h0:k=1∨k=2∨k=3∨k=4∨k=5∨k=6∨k=7∨k=8∨k=9:=by omega
   rcases h0 with rfl | rfl | rfl | rfl | rfl | rfl | rfl | rfl | rfl
   · exact sm_let hS s x b e ln IX
   · exact sm_set hS s x b e ln IX
   · exact sm_if hS s x b e ln IX (branches_any hS b e IB IE)
   · exact sm_while hS s x b e ln IX IB
   · exact sm_return hS s x b e ln IX
   · exact sm_send hS s x b e ln IX
   · exact sm_become hS s x b e ln IX
   · exact sm_stop hS s x b e ln IX
   · exact sm_expr hS s x b e ln IX
theorem sms_all (hS:∀ b,S b→b<base) (l:List Sm) (d c c':Nat) (hr:smsR d l c=some c') (hn:NbSs l):SmsC base K E nm pr S l:=by
 refine stmtsW_any hS l fun y hy=>?_
 have:∀ (l:List Sm) (c:Nat),smsR d l c=some c'→∀ y∈l,∃ a b,smR d y a=some b:=by
   intro l
   induction l with
   | nil=>intro c _ y hy; cases hy
   | cons z r ih =>
     intro c hx y hy
     obtain ⟨c1,hz,hr⟩:=smsR_parts hx
     rcases List.mem_cons.1 hy with rfl | hy
     · exact ⟨_, _,hz⟩
     · exact ih _ hr y hy
 obtain ⟨a,b,hab⟩:=this l c hr y hy
 exact sm_all hS _ y _ _ _ (Nat.lt_succ_self _) hab (hn.at y hy)
end
end Go.Proofs.YtcmopnkldplngabGreatDoor
