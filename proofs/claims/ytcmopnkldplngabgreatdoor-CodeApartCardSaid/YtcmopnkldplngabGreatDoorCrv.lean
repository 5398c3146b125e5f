/- Texts Cr,Cs,Ct,Cu,Cv,Cx,Cw1 of this seat in one: see each part. -/
import Derived.Test.YtcmopnkldplngabGreatDoorCpq
import Derived.Test.YtcmopnkldplngabGreatDoorKgk
namespace Go.Proofs.YtcmopnkldplngabGreatDoor
open Go.RowKit
set_option linter.unusedVariables false
section
variable {base:Nat} {K:Bk} {E:Env} {S:Nat→Prop}
theorem CmAt.qw {w:World} {cs:List Cst} {ts:Tss} {V:Vs} (h:CmAt base K E w cs ts V) (q:Nat) (hq:K.qc<q):CmAt base { K with qw:=q } E w cs ts V:=by
 obtain ⟨h1,h2,h3,h4,h5,h6,h7,h8,h9⟩:=h.ok
 exact ⟨⟨h1,h2,h3,h4,h5,h6,h7,h8,hq⟩,h.h,h.f,h.r,h.o1,h.o2,h.o3,h.c,h.t,h.rc,h.rt,h.cok,h.tok⟩
theorem WrAt.name {nm:List Nat} {pr:Nat} {w:World} {s:Ws} {V:Vs} (h:WrAt base K E nm pr w s V) (nm':List Nat):WrAt base K E nm' pr (w.setCell ⟨K.qw,1,none⟩ (.string (strOf nm'))) s V :=
 WrAt.put h.cm h.h h.rk h.rs h.ne h.sok 1 _ (by simp [wrCells])
theorem WrAt.params {nm:List Nat} {pr:Nat} {w:World} {s:Ws} {V:Vs} (h:WrAt base K E nm pr w s V) (pr':Nat):WrAt base K E nm pr' (w.setCell ⟨K.qw,2,none⟩ (.int .i64 (pr':Int))) s V :=
 WrAt.put h.cm h.h h.rk h.rs h.ne h.sok 2 _ (by simp [wrCells])
theorem lets_sc:∀ (l:Tss) (w:Ws),(lets w l).sc=w.sc ++ l∧(lets w l).vars≤max w.vars (w.sc.length+l.length)∧(lets w l).cs=w.cs∧(lets w l).ts=w.ts∧(lets w l).code=w.code
 | [],w=>⟨by simp [lets],Nat.le_max_left _ _,rfl,rfl,rfl⟩
 | x :: r,w=>by
   obtain ⟨h1,h2,h3,h4,h5⟩:=lets_sc r (w.let_ x)
   refine ⟨?_,?_,h3,h4,h5⟩
   · show (lets (w.let_ x) r).sc = _
     rw [h1]
     show (w.sc ++ [x]) ++ r = _
     simp
   · have e1:(w.let_ x).vars=max w.vars (w.sc.length+1):=rfl
     have e2:(w.let_ x).sc.length=w.sc.length+1:=by show (w.sc ++ [x]).length = _; simp
     rw [e1,e2] at h2
     show (lets (w.let_ x) r).vars ≤ _
     rw [List.length_cons]
     omega
theorem nm_at {w:World} {A:Option Addr} {l:Tss} (h:Rds w S A 1 0 (l.map nmNd)) {j:Nat} (hj:j<l.length):∃ bb o,A=some ⟨bb,o,none⟩∧S bb∧w.cell? ⟨bb,o+j,none⟩=some (.string (strOf l[j]))∧NmOk l[j]:=by
 obtain ⟨bb,o,vs,rfl,hSb,hvl,hrg,hx⟩:=h.at j (nmNd l[j]) (by simp [hj])
 obtain ⟨hv,h8,h47⟩:=(nm_rd _ _).1 hx
 have hv2:vs=[.string (strOf l[j])]:=by
   injection hv with hv
   have:=congrArg Array.toList hv
   simpa using this
 subst hv2
 refine ⟨bb,o,rfl,hSb,?_,h8,h47⟩
 have:=hrg 0 _ rfl
 rw [show o+(0+j)*1+0=o+j by omega] at this
 exact this
def OutBd (base:Nat) (K:Bk) (E:Env) (nm:List Nat) (pr:Nat) (w:World) (s:Ws) (q:Nat) (e:Ending) (w':World):Prop :=
 e = .returned (at0 q)∧WrS base { K with qw:=q } E nm pr w' s∧Cf base { K with qw:=q } w w'
set_option maxRecDepth 100000 in
set_option maxHeartbeats 8000000 in
theorem bodyW_any (hS:∀ b,S b→b<base) {w:World} {cs:List Cst} {ts:Tss} {V:Vs} (hC:CmAt base K E w cs ts V) (b:Bd) (state:Tss) (vb vst:Value) (rb:Rd w S b.nd vb) (rs:Rd w S (.row 1 (state.map nmNd)) vst)
   (c c':Nat) (hr:smsR 1 b.st c=some c') (hn:NbSs b.st) (hbd:cs.length+ts.length+state.length+b.ps.length+smsN b.st≤900000) :
   Calls Tryz.prog 64 #[at0 K.qc,vb,vst] w (OutBd base K E b.name (state.length+b.ps.length) w (bdW E cs ts state b) (w.heap.size+1)):=by
 obtain ⟨y,z,rfl,h8,hl8,hy,hz⟩:=(hd_rd b.name b.ps 6 (b.st.map Sm.nd) b.ln vb).1 rb
 have HZ:=Lib.hid hz
 rw [Rd] at hy hz rs
 obtain ⟨A1,c1,rfl,hc1,hcm1,hr1⟩:=hy
 obtain ⟨A2,c2,rfl,hc2,hcm2,-⟩:=hz
 obtain ⟨A3,c3,rfl,hc3,hcm3,hr3⟩:=rs
 rw [List.length_map] at hc1 hc2 hc3 HZ ⊢
 rw [List.length_map,List.length_map]
 have hqc:=lt_heap hC.h
 have hle:=hC.ok.le
 have hbw:base≤w.heap.size:=by omega
 have HSS:=Lib.hid hS
 have HRP:=Lib.hid hr1
 have HRS:=Lib.hid hr3
 obtain ⟨K2,hK2⟩:∃ K2,K2={ K with qw:=w.heap.size+1 }:=⟨_,rfl⟩
 have eqw:K2.qw=w.heap.size+1:=by rw [hK2]
 have eqc:K2.qc=K.qc:=by rw [hK2]
 have HB0:=two w (.cells #[.string (strOf b.name),.slice A1 b.ps.length c1,.slice A2 b.st.length c2,.int .i64 b.ln] 87) (.cells #[.pointer (some ⟨K.qc,0,none⟩),.string ⟨#[]⟩,.int .i64 0,.int .i64 0,.slice none 0 0,.slice none 0 0] 171)
 have hCq:=(hC.below HB0).qw (w.heap.size+1) (by omega)
 rw [← hK2] at hCq
 obtain ⟨W0,hW0⟩:∃ W0,Hid ((w.alloc (.cells #[.string (strOf b.name),.slice A1 b.ps.length c1,.slice A2 b.st.length c2,.int .i64 b.ln] 87)).alloc (.cells #[.pointer (some ⟨K.qc,0,none⟩),.string ⟨#[]⟩,.int .i64 0,.int .i64 0,.slice none 0 0,.slice none 0 0] 171)=W0):=⟨_,Lib.hid rfl⟩
 have HQ0:=heap_old (heap_new w (.cells #[.string (strOf b.name),.slice A1 b.ps.length c1,.slice A2 b.st.length c2,.int .i64 b.ln] 87)) (.cells #[.pointer (some ⟨K.qc,0,none⟩),.string ⟨#[]⟩,.int .i64 0,.int .i64 0,.slice none 0 0,.slice none 0 0] 171)
 have HQ1:=heap_new' (w.alloc (.cells #[.string (strOf b.name),.slice A1 b.ps.length c1,.slice A2 b.st.length c2,.int .i64 b.ln] 87)) (.cells #[.pointer (some ⟨K.qc,0,none⟩),.string ⟨#[]⟩,.int .i64 0,.int .i64 0,.slice none 0 0,.slice none 0 0] 171) (w.heap.size+1) (by simp)
 rw [hW0.out] at hCq HQ0 HQ1 HB0
 have HC0:Hid (Cf base K2 w W0):=Lib.hid (Cf.of_below hbw HB0)
 have HW:Hid (WrS base K2 E [] 0 W0 ⟨cs,ts,[],0,[]⟩):=Lib.hid ⟨{ V with k := .slice none 0 0,s := .slice none 0 0 },hCq.vs rfl rfl,by
   rw [eqw,HQ1,← eqc]
   rfl,World.ownsRow_nil _ _ _ _,World.ownsRow_nil _ _ _ _,by
   show V.t.ownBlock=none∨V.t.ownBlock≠none
   cases V.t.ownBlock with
   | none=>exact .inl rfl
   | some g=>exact .inr (by simp),by simp⟩
 have HQ:=Lib.hid HQ0
 have HOK:=Lib.hid hCq.ok
 obtain ⟨e1,e2,e3,e4,e5⟩:=lets_sc state ⟨cs,ts,[],0,[]⟩
 obtain ⟨f1,f2,f3,f4,f5⟩:=lets_sc b.ps (lets ⟨cs,ts,[],0,[]⟩ state)
 obtain ⟨s1,hs1⟩:∃ s1,Hid (lets ⟨cs,ts,[],0,[]⟩ state=s1):=⟨_,Lib.hid rfl⟩
 rw [hs1.out] at e1 e2 e3 e4 e5 f1 f2 f3 f4 f5
 obtain ⟨s2,hs2⟩:∃ s2,Hid (lets s1 b.ps=s2):=⟨_,Lib.hid rfl⟩
 rw [hs2.out] at f1 f2 f3 f4 f5
 have g1:s1.sc.length=state.length:=by rw [e1]; simp
 have g2:s2.sc.length=state.length+b.ps.length:=by rw [f1,List.length_append,g1]
 simp only [List.length_nil] at e2
 have HS1V:Hid (s1.vars≤state.length):=Lib.hid (by omega)
 have hrm:Rm s2 (smsN b.st):=⟨by rw [f5,e5]; show 0 + _ ≤ _; omega,by rw [f3,e3]; show cs.length + _ ≤ _; omega,by rw [f4,e4]; show ts.length + _ ≤ _; omega,by omega,by omega⟩
 have HST:=Lib.hid (fun (w':World) (h:WrS base K2 E b.name (state.length+b.ps.length) w' s2) (hk:Below base w w')=>sms_all hS b.st _ _ _ hr hn w' s2 (.slice A2 b.st.length c2) h (Rd.cf hS HZ.out hk) hrm)
 obtain ⟨R,hR⟩:∃ R,Hid (bdW E cs ts state b=R):=⟨_,Lib.hid rfl⟩
 have HE:Hid (smsW E s2.sc.length s2 b.st=R):=Lib.hid (by
   rw [← hR.out]
   unfold bdW
   rw [hs1.out,hs2.out,g2,List.length_append])
 rw [HE.out] at HST
 rw [hR.out]
 unfold OutBd
 rw [← hK2]
 have HKN:Hid (w.heap.size≠K2.qc∧w.heap.size≠K2.qw∧w.heap.size≠K2.bc∧w.heap.size≠K2.bt):=Lib.hid (by
   obtain ⟨h1,h2,h3,h4,h5,h6,h7,h8,h9⟩:=HOK.out
   omega)
 have hn12:state.length+b.ps.length≤900000:=by omega
 have hn1:state.length≤900000:=by omega
 have hn2:b.ps.length≤900000:=by omega
 obtain ⟨n1,hnn1⟩:∃ n,Hid (state.length=n):=⟨_,Lib.hid rfl⟩
 obtain ⟨n2,hnn2⟩:∃ n,Hid (b.ps.length=n):=⟨_,Lib.hid rfl⟩
 obtain ⟨n3,hnn3⟩:∃ n,Hid (b.st.length=n):=⟨_,Lib.hid rfl⟩
 obtain ⟨X,hX⟩:∃ n,Hid (strOf b.name=n):=⟨_,Lib.hid rfl⟩
 have HRR:=Lib.hid (show lets ⟨cs,ts,[],0,[]⟩ state=s1 from hs1.out)
 have HRP2:=Lib.hid (show lets s1 b.ps=s2 from hs2.out)
 rw [hnn1.out] at hc3 HST HS1V g1 g2 hn1 hn12 ⊢
 rw [hnn2.out] at hc1 HQ HST g2 hn2 hn12 hW0 ⊢
 rw [hnn3.out] at hc2 HQ HST hW0 ⊢
 rw [hX.out] at HQ hW0 ⊢
 unfold maxLen at hcm1 hcm2 hcm3
 clear hC rb hr1 hr3 hr hn HZ hS hle hCq HQ0 HQ1 HB0 e1 e2 e3 e4 e5 f1 f2 f3 f4 f5 hrm hR HE hs1 hs2 h8 hl8 hbd
 unfold at0 at *
 go_enter Tryz.func64,Tryz.ntmps64
 go_upto_region 2 with fail
 rw [hW0.out]
 rw [← eqw]
 have HEQ:=Lib.hid eqw
 clear eqw eqc hK2
 obtain ⟨d0,d1,d2,d3⟩:=bx4k HQ
 go_wp2_with fail
 go_loopg [17,9] n1 (fun g i u wr=>∃ (j:Nat) (sj:Ws),j+g=n1∧i = .int .i64 (j:Int)∧Hid (lets sj (state.drop j)=s1)∧sj.sc.length=j∧sj.vars≤j∧Hid (WrS base K2 E [] 0 wr sj)∧Hid (Cf base K2 W0 wr))
 case atStart=>exact ⟨0,⟨cs,ts,[],0,[]⟩,by omega,rfl,Lib.hid (by rw [List.drop_zero]; exact HRR.out),rfl,Nat.le_refl _,HW,Lib.hid (Cf.refl _ _ _)⟩
 case round =>
   clear HW d0 d1 d2 d3
   obtain ⟨j,sj,hj,rfl,HF,hjs,hjv,HW,HK⟩:=hrel
   obtain ⟨hrc,hrw,hrb⟩:=HW.out.lt
   cases gk with
   | zero =>
     have h1:¬ (j:Int)<(n1:Int):=by omega
     have hjn:j=n1:=by omega
     have HE:Hid (sj=s1):=Lib.hid (by rw [← HF.out,List.drop_eq_nil_of_le (by rw [hnn1.out]; omega)]; rfl)
     rw [HE.out] at HW
     have HB1:=HK.out.cells HQ HKN.out.1 HKN.out.2.1 HKN.out.2.2.1 HKN.out.2.2.2 (by decide) (by decide) (by decide)
     obtain ⟨d0,d1,d2,d3⟩:=bx4k HB1
     have hbx:=lt_heap HB1
     have HWs:=HW
     clear HF HE hjs hjv HW hj
     have hs1v:s1.vars≤n1:=HS1V.out
     go_wp2_with fail
     go_loopg [28,11] n2 (fun g i u wr=>∃ (j:Nat) (sj:Ws),j+g=n2∧i = .int .i64 (j:Int)∧Hid (lets sj (b.ps.drop j)=s2)∧sj.sc.length=n1+j∧sj.vars≤n1+j∧Hid (WrS base K2 E [] 0 wr sj)∧Hid (Cf base K2 W0 wr))
     case atStart=>exact ⟨0,s1,by omega,rfl,Lib.hid (by rw [List.drop_zero]; exact HRP2.out),by omega,hs1v,HWs,HK⟩
     case round =>
       clear HWs d0 d1 d2 d3 HB1 hs1v hbx HK
       obtain ⟨j,sj,hj,rfl,HF,hjs,hjv,HW,HK⟩:=hrel
       obtain ⟨hrc,hrw,hrb⟩:=HW.out.lt
       cases gk with
       | zero =>
         have h1:¬ (j:Int)<(n2:Int):=by omega
         have hjn:j=n2:=by omega
         have HE:Hid (sj=s2):=Lib.hid (by rw [← HF.out,List.drop_eq_nil_of_le (by rw [hnn2.out]; omega)]; rfl)
         rw [HE.out] at HW
         have HB1:=HK.out.cells HQ HKN.out.1 HKN.out.2.1 HKN.out.2.2.1 HKN.out.2.2.2 (by decide) (by decide) (by decide)
         obtain ⟨V2,hV2⟩:=HW.out
         obtain ⟨⟨c0,c1',c2',c3',c4,c5⟩,f0,f1,f2,f3,f4,f5⟩:=bx6 hV2.h
         obtain ⟨A,cp,hA,hcA,hcB⟩:=row_form hV2.rs
         rw [hA,g2] at c5
         have hbq:=HOK.out.le.2.2.2.2.2
         have hC0:=HC0.out.trans HK.out
         have HC9:=Lib.hid (fun (x y:Value)=>((hC0.set (p:=⟨K2.qw,1,none⟩) (.inr rfl) hbq x).set (p:=⟨K2.qw,2,none⟩) (.inr rfl) hbq y).drew)
         have HC8:=Lib.hid (fun (x y:Value)=>((hC0.set (p:=⟨K2.qw,2,none⟩) (.inr rfl) hbq x).set (p:=⟨K2.qw,1,none⟩) (.inr rfl) hbq y).drew)
         have HG9:=Lib.hid (HST.out _ ⟨V2,(show WrAt base K2 E b.name (n1+n2) (((wr.setCell ⟨K2.qw,1,none⟩ (.string X)).setCell ⟨K2.qw,2,none⟩ (.int .i64 ((n1+n2:Nat):Int))).drew) s2 V2 from by rw [← hX.out]; exact ((hV2.name b.name).params (n1+n2)).drew)⟩ (HC9.out _ _).b)
         have HG8:=Lib.hid (HST.out _ ⟨V2,(show WrAt base K2 E b.name (n1+n2) (((wr.setCell ⟨K2.qw,2,none⟩ (.int .i64 ((n1+n2:Nat):Int))).setCell ⟨K2.qw,1,none⟩ (.string X)).drew) s2 V2 from by rw [← hX.out]; exact ((hV2.params (n1+n2)).name b.name).drew)⟩ (HC8.out _ _).b)
         have hcst:((n1+n2:Nat):Int)=(n1:Int)+(n2:Int):=by omega
         rw [hcst] at HG9 HG8
         have hne:=HKN.out.2.1
         have hne2:=HKN.out.2.1.symm
         obtain ⟨e0,e1,e2,e3⟩:=bx4k HB1
         have hbx:=lt_heap HB1
         have hlq:=lt_heap hV2.h
         have HQR:=Lib.hid HEQ.out
         clear HF HE hjs hjv HW hj hV2 hA hC0
         go_upto_region 12 with fail
         go_region
         all_goals go_wp2_with (first
           | (go_at_call 110
              first
                | (with_reducible refine HG9.out.mono ?_)
                | (with_reducible refine HG8.out.mono ?_)
              rintro e w1 ⟨rfl,hw1,hc1⟩
              have HW1:=Lib.hid hw1
              first
                | (have HK1:=Lib.hid ((HC9.out (.string X) (.int .i64 ((n1:Int)+(n2:Int)))).trans hc1))
                | (have HK1:=Lib.hid ((HC8.out (.int .i64 ((n1:Int)+(n2:Int))) (.string X)).trans hc1))
              clear hw1 hc1)
           | (fail))
         all_goals go_ret
         all_goals exact ⟨by rw [HEQ.out]; rfl,HW1.out,HK1.out⟩
       | succ g =>
         have h1:(j:Int)<(n2:Int):=by omega
         have h2:j<n2:=by omega
         have hjl:j<b.ps.length:=by rw [hnn2.out]; exact h2
         obtain ⟨bb,o,rfl,hSb,hcell,hxok⟩:=nm_at HRP.out hjl
         have HD:=Lib.hid (List.drop_eq_getElem_cons hjl)
         generalize b.ps[j]=x at *
         have HF2:=Lib.hid (HF.out.symm.trans (by rw [HD.out,lets]))
         have hbb:=HSS.out bb hSb
         have hbr:bb<wr.heap.size:=by omega
         have y0:wr.cell? ⟨bb,o+j,none⟩=some (.string (strOf x)):=(HK.out.b.cell (p:=⟨bb,o+j,none⟩) hbb).trans ((HC0.out.b.cell (p:=⟨bb,o+j,none⟩) hbb).trans hcell)
         have HL:=Lib.hid (letW_any HW.out x hxok (by omega) (by omega))
         have hl2:(sj.let_ x).sc.length=n1+(j+1):=by show (sj.sc ++ [x]).length = _; simp [hjs]; omega
         have hv2:(sj.let_ x).vars≤n1+(j+1):=by show max sj.vars (sj.sc.length+1) ≤ _; omega
         clear hxok hcell HD HF HRP
         generalize strOf x=Y at *
         go_wp2_with (first
           | (go_at_call 109
              refine HL.out.mono ?_
              rintro e w1 ⟨rfl,hw1,hc1⟩
              have HW1:=Lib.hid hw1
              have HK1:=Lib.hid (HK.out.trans hc1)
              clear hw1 hc1)
           | (fail))
         go_roundg g
         case measure=>omega
         case rel=>exact ⟨j+1,sj.let_ x,by omega,by go_num,Lib.hid HF2.out.symm,hl2,hv2,HW1,HK1⟩
   | succ g =>
     have h1:(j:Int)<(n1:Int):=by omega
     have h2:j<n1:=by omega
     have hjl:j<state.length:=by rw [hnn1.out]; exact h2
     obtain ⟨bb,o,rfl,hSb,hcell,hxok⟩:=nm_at HRS.out hjl
     have HD:=Lib.hid (List.drop_eq_getElem_cons hjl)
     generalize state[j]=x at *
     have HF2:=Lib.hid (HF.out.symm.trans (by rw [HD.out,lets]))
     have hbb:=HSS.out bb hSb
     have hbr:bb<wr.heap.size:=by omega
     have y0:wr.cell? ⟨bb,o+j,none⟩=some (.string (strOf x)):=(HK.out.b.cell (p:=⟨bb,o+j,none⟩) hbb).trans ((HC0.out.b.cell (p:=⟨bb,o+j,none⟩) hbb).trans hcell)
     have HL:=Lib.hid (letW_any HW.out x hxok (by omega) (by omega))
     have hl2:(sj.let_ x).sc.length=j+1:=by show (sj.sc ++ [x]).length = _; simp [hjs]
     have hv2:(sj.let_ x).vars≤j+1:=by show max sj.vars (sj.sc.length+1) ≤ _; omega
     clear hxok hcell HD HF HRS
     generalize strOf x=X at *
     go_wp2_with (first
       | (go_at_call 109
          refine HL.out.mono ?_
          rintro e w1 ⟨rfl,hw1,hc1⟩
          have HW1:=Lib.hid hw1
          have HK1:=Lib.hid (HK.out.trans hc1)
          clear hw1 hc1)
       | (fail))
     go_roundg g
     case measure=>omega
     case rel=>exact ⟨j+1,sj.let_ x,by omega,by go_num,Lib.hid HF2.out.symm,hl2,hv2,HW1,HK1⟩
end
end Go.Proofs.YtcmopnkldplngabGreatDoor
namespace Go.Proofs.YtcmopnkldplngabGreatDoor
open Go.RowKit
set_option linter.unusedVariables false
structure Kc (base:Nat) (K:Bk) (w w':World):Prop where
 b:Below base w w'
 o:∀ k o,w.heap[k]?=some o→k≠K.qc→k≠K.bc→k≠K.bt→(∀ c T fr,o = .cells c T fr→T≠9∧T≠116)→w'.heap[k]?=some o
section
variable {base:Nat} {K:Bk} {E:Env} {S:Nat→Prop}
theorem Kc.refl (base:Nat) (K:Bk) (w:World):Kc base K w w:=⟨Below.refl _ _,fun _ _ h _ _ _ _ => h⟩
theorem Kc.trans {a w w':World} (h:Kc base K a w) (k:Kc base K w w'):Kc base K a w':=⟨h.b.trans k.b,fun i o hi h1 h2 h3 h4=>k.o i o (h.o i o hi h1 h2 h3 h4) h1 h2 h3 h4⟩
theorem Kc.below {a w w':World} (h:Kc base K a w) (hb:base≤w.heap.size) (k:Below w.heap.size w w'):Kc base K a w':=h.trans ⟨k.mono hb,fun i o hi _ _ _ _ => heap_below hi k⟩
theorem Kc.drew {a w:World} (h:Kc base K a w):Kc base K a w.drew:=⟨⟨h.b.os,h.b.tape,h.b.output,h.b.size,h.b.block⟩,h.o⟩
theorem Kc.cells {w w':World} (h:Kc base K w w') {k:Nat} {c:Array Value} {T:TypeId} {fr:Nat × Nat} (hk:w.heap[k]?=some (.cells c T fr)) (h1:k≠K.qc) (h2:k≠K.bc) (h3:k≠K.bt) (h6:T≠9) (h7:T≠116):w'.heap[k]?=some (.cells c T fr) :=
 h.o k _ hk h1 h2 h3 fun c' T' fr' e=>by cases e; exact ⟨h6,h7⟩
theorem Cf.kc {w w':World} {q:Nat} (h:Cf base { K with qw:=q } w w') (hq:w.heap.size≤q):Kc base K w w' :=
 ⟨h.b,fun k o hk h1 h2 h3 h4=>h.o k o hk ⟨⟨h1,fun e=>by have:=lt_heap hk; have:k=q:=e; omega,h2,h3⟩,fun c T fr e=>⟨.inr (by have:=lt_heap hk; show k<q; omega),h4 c T fr e⟩⟩⟩
def FnV (w:World) (b:Nat) (f:Fnc) (v:Value):Prop:=∃ k,v = .agg #[.string (strOf f.name),.int .i64 (f.params:Int),.int .i64 (f.vars:Int),k]∧w.ownsRow b 45 3 k f.code.length (ivs f.code)
def OutFn (base:Nat) (K:Bk) (E:Env) (w:World) (cs:List Cst) (ts:Tss) (f:Fnc) (e:Ending) (w':World):Prop :=
 ∃ v V,e = .returned v∧FnV w' w.heap.size f v∧CmAt base K E w' cs ts V∧Kc base K w w'
theorem body_gr {cs:List Cst} {ts state:Tss} {b:Bd} (hbd:cs.length+ts.length+state.length+b.ps.length+smsN b.st≤900000):(bdW E cs ts state b).code.length≤900000∧(bdW E cs ts state b).cs.length≤900000:=by
 obtain ⟨e1,e2,e3,e4,e5⟩:=lets_sc state ⟨cs,ts,[],0,[]⟩
 obtain ⟨f1,f2,f3,f4,f5⟩:=lets_sc b.ps (lets ⟨cs,ts,[],0,[]⟩ state)
 have h:=smsW_gr E (lets (lets ⟨cs,ts,[],0,[]⟩ state) b.ps) b.st
 have e:(lets (lets ⟨cs,ts,[],0,[]⟩ state) b.ps).sc.length=(state ++ b.ps).length:=by rw [f1,e1]; simp
 rw [e] at h
 have h1:=h.code
 have h2:=h.cs
 rw [f5,e5] at h1
 rw [f3,e3] at h2
 unfold bdW
 dsimp only [List.length_nil] at h1 h2
 omega
theorem own_le {w:World} {b b':Nat} {T:TypeId} {sz n:Nat} {v:Value} {xs:List Value} (h:w.ownsRow b T sz v n xs) (hb:b'≤b):w.ownsRow b' T sz v n xs:=by
 obtain ⟨h1,h2⟩:=h
 refine ⟨h1,?_⟩
 rcases h2 with h2 | ⟨g,cap,cur,h3,h4,h5⟩
 · exact .inl h2
 · exact .inr ⟨g,cap,cur,h3,by omega,h5⟩
theorem fn_end {nm:List Nat} {pr q g:Nat} {w w3 W9:World} {s:Ws} {V3:Vs} {arr:Array Value} (hqw:K.qc<K.qw) (hk:Kp g w3 W9) (hV:WrAt base { K with qw:=q } E nm pr w3 s V3) (hK:Kc base K w w3) (hf:w3.heap[g]?=some (.cells arr 42 (0,0))) (hbw:base≤w.heap.size) (hg:w.heap.size≤g) (hq:w.heap.size≤q) :
   CmAt base K E W9 s.cs s.ts V3∧W9.ownsRow w.heap.size 45 3 V3.k s.code.length (ivs s.code)∧Kc base K w W9:=by
 have h1:CmAt base K E w3 s.cs s.ts V3:=hV.cm.qw K.qw hqw
 refine ⟨h1.keep hk (fun e=>?_) (fun es cl b hb e=>?_) (.inr (row_ne h1.rc hf (fun c fr e=>by injection e with _ e3; exact absurd e3 (by decide)))) (.inr (row_ne h1.rt hf (fun c fr e=>by injection e with _ e3; exact absurd e3 (by decide)))),?_,?_⟩
 · cases Option.some.inj e
   rw [h1.h] at hf
   injection hf with hf
   injection hf with _ e3
   exact absurd e3 (by decide)
 · cases Option.some.inj e
   rw [hf] at hb
   cases hb
 · exact World.ownsRow.kept (own_le hV.rk hq) hk (.inr (row_ne hV.rk hf (fun c fr e=>by injection e with _ e3; exact absurd e3 (by decide))))
 · refine ⟨hK.b.grown hk (by have:=hK.b.size; omega) (fun k e=>by cases e; omega),fun k o hk0 a1 a2 a3 a4=>?_⟩
   have:=lt_heap hk0
   exact hk.heap (hK.o k o hk0 a1 a2 a3 a4) (by omega)
set_option maxRecDepth 100000 in
set_option maxHeartbeats 8000000 in
theorem function_any (hS:∀ b,S b→b<base) {w:World} {cs:List Cst} {ts:Tss} {V:Vs} (hC:CmAt base K E w cs ts V) (b:Bd) (vb:Value) (rb:Rd w S b.nd vb)
   (c c':Nat) (hr:smsR 1 b.st c=some c') (hn:NbSs b.st) (hbd:cs.length+ts.length+b.ps.length+smsN b.st≤900000) :
   Calls Tryz.prog 29 #[at0 K.qc,vb] w (OutFn base K E w (fnE (bdW E cs ts [] b)).cs (fnE (bdW E cs ts [] b)).ts ((fnE (bdW E cs ts [] b)).fnc b b.ps.length)):=by
 have hqc:=lt_heap hC.h
 have hle:=hC.ok.le
 have hqw:K.qc<K.qw:=hC.ok.w
 have hbw:base≤w.heap.size:=by omega
 obtain ⟨y,z,rfl,h8,hl8,hy,hz⟩:=(hd_rd b.name b.ps 6 (b.st.map Sm.nd) b.ln vb).1 rb
 obtain ⟨A1,n1,c1,rfl⟩:=hy.rowf
 obtain ⟨A2,n2,c2,rfl⟩:=hz.rowf
 obtain ⟨g1,g2⟩:=body_gr (E:=E) (state:=[]) (by simpa using hbd)
 have HB0:=two w (.cells #[.string (strOf b.name),.slice A1 n1 c1,.slice A2 n2 c2,.int .i64 b.ln] 87) (.cells #[.string ⟨#[]⟩,.int .i64 0,.int .i64 0,.slice none 0 0] 42)
 have HQ0:=heap_old (heap_new w (.cells #[.string (strOf b.name),.slice A1 n1 c1,.slice A2 n2 c2,.int .i64 b.ln] 87)) (.cells #[.string ⟨#[]⟩,.int .i64 0,.int .i64 0,.slice none 0 0] 42)
 have HQ1:=heap_new' (w.alloc (.cells #[.string (strOf b.name),.slice A1 n1 c1,.slice A2 n2 c2,.int .i64 b.ln] 87)) (.cells #[.string ⟨#[]⟩,.int .i64 0,.int .i64 0,.slice none 0 0] 42) (w.heap.size+1) (by simp)
 obtain ⟨W0,hW0⟩:∃ W0,Hid ((w.alloc (.cells #[.string (strOf b.name),.slice A1 n1 c1,.slice A2 n2 c2,.int .i64 b.ln] 87)).alloc (.cells #[.string ⟨#[]⟩,.int .i64 0,.int .i64 0,.slice none 0 0] 42)=W0):=⟨_,Lib.hid rfl⟩
 have hsz:W0.heap.size=w.heap.size+2:=by rw [← hW0.out]; simp
 rw [hW0.out] at HB0 HQ0 HQ1
 have HK0:Hid (Kc base K w W0):=Lib.hid ((Kc.refl _ _ _).below hbw HB0)
 have HC1:=Lib.hid (bodyW_any hS (hC.below HB0) b [] _ (.slice none 0 0) (Rd.cf hS rb (HB0.mono hbw)) (by rw [Rd]; exact ⟨none,0,rfl,Nat.le_refl _,by unfold maxLen; omega,by simp [Rds]⟩) c c' hr hn (by simpa using hbd))
 obtain ⟨K2,hK2⟩:∃ K2,Hid ({ K with qw:=W0.heap.size+1 }=K2):=⟨_,Lib.hid rfl⟩
 have ec:K2.qc=K.qc:=by rw [← hK2.out]
 have eb:K2.bc=K.bc:=by rw [← hK2.out]
 have et:K2.bt=K.bt:=by rw [← hK2.out]
 have ew:K2.qw=W0.heap.size+1:=by rw [← hK2.out]
 unfold OutBd at HC1
 obtain ⟨o1,o2,o3,o4,o5,o6,o7,o8,o9⟩:=hC.ok
 have HKN:Hid (w.heap.size+1≠K2.qc∧w.heap.size+1≠K2.qw∧w.heap.size+1≠K2.bc∧w.heap.size+1≠K2.bt):=Lib.hid (by rw [ec,eb,et,ew]; omega)
 have hwq:w.heap.size+2<K2.qw:=by rw [ew]; omega
 have EC:=Lib.hid ec
 have HQW:=Lib.hid hqw
 have EW:=Lib.hid (show W0.heap.size+1=K2.qw from ew.symm)
 rw [hK2.out,EW.out] at HC1
 obtain ⟨R,hR⟩:∃ R,Hid (bdW E cs ts [] b=R):=⟨_,Lib.hid rfl⟩
 rw [hR.out] at HC1 g1 g2 ⊢
 obtain ⟨pr,hpr⟩:∃ pr,Hid (b.ps.length=pr):=⟨_,Lib.hid rfl⟩
 have HCn:=Lib.hid (fun w' (h:WrS base K2 E b.name pr w' R)=>show Calls Tryz.prog 65 #[.pointer (some ⟨K2.qw,0,none⟩),.agg #[.int .u8 1,.int .i64 0,.string ⟨#[]⟩,.slice none 0 0]] w' (OutW base K2 E b.name pr w' (R.cst ⟨1,0,[]⟩)) from constant_any h ⟨1,0,[]⟩ ⟨by decide,by decide,by decide,by simp,by simp⟩ (by omega) (by omega))
 have hl3:(R.cst ⟨1,0,[]⟩).code.length≤1000000:=by rw [cst_len]; omega
 have HWr:=Lib.hid (fun w' (h:WrS base K2 E b.name pr w' (R.cst ⟨1,0,[]⟩))=>show Calls Tryz.prog 66 #[.pointer (some ⟨K2.qw,0,none⟩),.int .u8 33,.int .i64 0,.int .i64 0] w' (OutW base K2 E b.name pr w' (fnE R)) from write_any h 33 0 0 hl3)
 rw [List.length_nil,Nat.zero_add,hpr.out] at HC1
 rw [hpr.out]
 obtain ⟨X,hX⟩:∃ X,Hid (strOf b.name=X):=⟨_,Lib.hid rfl⟩
 have HQ:=Lib.hid HQ0
 rw [hX.out] at HQ0 hW0 HC1 ⊢
 obtain ⟨r0,r1,r2,r3⟩:=bx4k HQ0
 have HQF:=Lib.hid HQ1
 have hg0:w.heap.size<W0.heap.size:=by omega
 clear hC rb h8 hl8 hy hz hr hn hbd hle hqw g1 g2 HB0 HQ1 ec eb et ew o1 o2 o3 o4 o5 o6 o7 o8 o9 hl3 HQ hS
 unfold at0 at *
 go_enter Tryz.func29,Tryz.ntmps29
 go_upto_region 1 with fail
 rw [hW0.out]
 go_wp2_with (first
   | (go_at_call 64
      refine HC1.out.mono ?_
      rintro e w1 ⟨rfl,hw1,hc1⟩
      have HK1:=Lib.hid hc1
      have HN1:=Lib.hid (HCn.out w1 hw1)
      clear hw1 hc1)
   | (go_at_call 65
      refine HN1.out.mono ?_
      rintro e w2 ⟨rfl,hw2,hc2⟩
      have HK2:=Lib.hid (HK1.out.trans hc2)
      have HN2:=Lib.hid (HWr.out w2 hw2)
      clear hw2 hc2)
   | (go_at_call 66
      refine HN2.out.mono ?_
      rintro e w3 ⟨rfl,hw3,hc3⟩
      have HK3:=Lib.hid (HK2.out.trans hc3)
      obtain ⟨V3,hV3⟩:=hw3
      have HV3:=Lib.hid hV3
      obtain ⟨⟨c0,c1,c2,c3,c4,c5⟩,f0,f1,f2,f3,f4,f5⟩:=bx6 hV3.h
      rw [hX.out] at c1
      obtain ⟨AK,cK,hAK,-,-⟩:=row_form hV3.rk
      have HAK:=Lib.hid hAK
      rw [hAK] at c4
      have HFN:=HK3.out.cells HQF.out HKN.out.1 HKN.out.2.1 HKN.out.2.2.1 HKN.out.2.2.2 (by decide) (by decide) (by decide)
      have hlq:=lt_heap hV3.h
      have hlf:=lt_heap HFN
      obtain ⟨s0,s1,s2,s3⟩:=bx4k HFN
      have hz0:=free_block HFN 0
      have hz1:=free_block HFN 1
      have hz2:=free_block HFN 2
      have hz3:=free_block HFN 3
      have HEND:=Lib.hid (fun W9 (hk:Kp (w.heap.size+1) w3 W9)=>fn_end (q:=W0.heap.size+1) HQW.out hk (by rw [hK2.out]; exact hV3) (HK0.out.trans (Cf.kc (q:=W0.heap.size+1) (by rw [hK2.out]; exact HK3.out) (by omega))) HFN hbw (by omega) (by omega))
      clear hV3 hc3 hAK)
   | (fail))
 have q1:=heap_set HFN 0 (.string X)
 have q2:=heap_set q1 1 (.int .i64 (pr:Int))
 have q3:=heap_set q2 2 (.int .i64 ((fnE R).vars:Int))
 have q4:=heap_set q3 3 (.slice AK (fnE R).code.length cK)
 have kk:=(((Kp.refl (w.heap.size+1) w3).set (p:=⟨w.heap.size+1,0,none⟩) rfl (.string X)).set (p:=⟨w.heap.size+1,1,none⟩) rfl (.int .i64 (pr:Int))).set (p:=⟨w.heap.size+1,2,none⟩) rfl (.int .i64 ((fnE R).vars:Int)) |>.set (p:=⟨w.heap.size+1,3,none⟩) rfl (.slice AK (fnE R).code.length cK)
 have hend:=HEND.out _ kk
 generalize (((w3.setCell ⟨w.heap.size+1,0,none⟩ (.string X)).setCell ⟨w.heap.size+1,1,none⟩ (.int .i64 (pr:Int))).setCell ⟨w.heap.size+1,2,none⟩ (.int .i64 ((fnE R).vars:Int))).setCell ⟨w.heap.size+1,3,none⟩ (.slice AK (fnE R).code.length cK)=W9 at q4 hend ⊢
 simp at q4
 obtain ⟨p0,p1,p2,p3⟩:=bx4k q4
 clear q1 q2 q3 q4 kk HEND
 refine bodyPost_ret (v := .agg #[.string X,.int .i64 (pr:Int),.int .i64 ((fnE R).vars:Int),.slice AK (fnE R).code.length cK]) (by simp [results,Tryz.results29,go_sem,p0,p1,p2,p3]) rfl ?_
 exact ⟨_,V3,rfl,⟨V3.k,by rw [HAK.out,← hX.out]; rfl,hend.2.1⟩,hend.1,hend.2.2⟩
set_option maxRecDepth 100000 in
set_option maxHeartbeats 8000000 in
theorem roleBody_any (hS:∀ b,S b→b<base) {w:World} {cs:List Cst} {ts:Tss} {V:Vs} (hC:CmAt base K E w cs ts V) (b:Bd) (state:Tss) (vb vst:Value) (rb:Rd w S b.nd vb) (rs:Rd w S (.row 1 (state.map nmNd)) vst)
   (c c':Nat) (hr:smsR 1 b.st c=some c') (hn:NbSs b.st) (hbd:cs.length+ts.length+state.length+b.ps.length+smsN b.st≤900000) :
   Calls Tryz.prog 30 #[at0 K.qc,vb,vst] w (OutFn base K E w (rlE (bdW E cs ts state b)).cs (rlE (bdW E cs ts state b)).ts ((rlE (bdW E cs ts state b)).fnc b (state.length+b.ps.length))):=by
 have hqc:=lt_heap hC.h
 have hle:=hC.ok.le
 have hqw:K.qc<K.qw:=hC.ok.w
 have hbw:base≤w.heap.size:=by omega
 obtain ⟨y,z,rfl,h8,hl8,hy,hz⟩:=(hd_rd b.name b.ps 6 (b.st.map Sm.nd) b.ln vb).1 rb
 obtain ⟨A1,n1,c1,rfl⟩:=hy.rowf
 obtain ⟨A5,n5,c5,rfl⟩:=rs.rowf
 obtain ⟨A2,n2,c2,rfl⟩:=hz.rowf
 obtain ⟨g1,g2⟩:=body_gr (E:=E) hbd
 have HB0:=two w (.cells #[.string (strOf b.name),.slice A1 n1 c1,.slice A2 n2 c2,.int .i64 b.ln] 87) (.cells #[.string ⟨#[]⟩,.int .i64 0,.int .i64 0,.slice none 0 0] 42)
 have HQ0:=heap_old (heap_new w (.cells #[.string (strOf b.name),.slice A1 n1 c1,.slice A2 n2 c2,.int .i64 b.ln] 87)) (.cells #[.string ⟨#[]⟩,.int .i64 0,.int .i64 0,.slice none 0 0] 42)
 have HQ1:=heap_new' (w.alloc (.cells #[.string (strOf b.name),.slice A1 n1 c1,.slice A2 n2 c2,.int .i64 b.ln] 87)) (.cells #[.string ⟨#[]⟩,.int .i64 0,.int .i64 0,.slice none 0 0] 42) (w.heap.size+1) (by simp)
 obtain ⟨W0,hW0⟩:∃ W0,Hid ((w.alloc (.cells #[.string (strOf b.name),.slice A1 n1 c1,.slice A2 n2 c2,.int .i64 b.ln] 87)).alloc (.cells #[.string ⟨#[]⟩,.int .i64 0,.int .i64 0,.slice none 0 0] 42)=W0):=⟨_,Lib.hid rfl⟩
 have hsz:W0.heap.size=w.heap.size+2:=by rw [← hW0.out]; simp
 rw [hW0.out] at HB0 HQ0 HQ1
 have HK0:Hid (Kc base K w W0):=Lib.hid ((Kc.refl _ _ _).below hbw HB0)
 have HC1:=Lib.hid (bodyW_any hS (hC.below HB0) b state _ _ (Rd.cf hS rb (HB0.mono hbw)) (Rd.cf hS rs (HB0.mono hbw)) c c' hr hn hbd)
 obtain ⟨K2,hK2⟩:∃ K2,Hid ({ K with qw:=W0.heap.size+1 }=K2):=⟨_,Lib.hid rfl⟩
 have ec:K2.qc=K.qc:=by rw [← hK2.out]
 have eb:K2.bc=K.bc:=by rw [← hK2.out]
 have et:K2.bt=K.bt:=by rw [← hK2.out]
 have ew:K2.qw=W0.heap.size+1:=by rw [← hK2.out]
 unfold OutBd at HC1
 obtain ⟨o1,o2,o3,o4,o5,o6,o7,o8,o9⟩:=hC.ok
 have HKN:Hid (w.heap.size+1≠K2.qc∧w.heap.size+1≠K2.qw∧w.heap.size+1≠K2.bc∧w.heap.size+1≠K2.bt):=Lib.hid (by rw [ec,eb,et,ew]; omega)
 have hwq:w.heap.size+2<K2.qw:=by rw [ew]; omega
 have EC:=Lib.hid ec
 have HQW:=Lib.hid hqw
 have EW:=Lib.hid (show W0.heap.size+1=K2.qw from ew.symm)
 rw [hK2.out,EW.out] at HC1
 obtain ⟨R,hR⟩:∃ R,Hid (bdW E cs ts state b=R):=⟨_,Lib.hid rfl⟩
 rw [hR.out] at HC1 g1 g2 ⊢
 obtain ⟨pr,hpr⟩:∃ pr,Hid (state.length+b.ps.length=pr):=⟨_,Lib.hid rfl⟩
 have HWr:=Lib.hid (fun w' (h:WrS base K2 E b.name pr w' R)=>show Calls Tryz.prog 66 #[.pointer (some ⟨K2.qw,0,none⟩),.int .u8 34,.int .i64 0,.int .i64 0] w' (OutW base K2 E b.name pr w' (rlE R)) from write_any h 34 0 0 (by omega))
 rw [hpr.out] at HC1
 rw [hpr.out]
 obtain ⟨X,hX⟩:∃ X,Hid (strOf b.name=X):=⟨_,Lib.hid rfl⟩
 have HQ:=Lib.hid HQ0
 rw [hX.out] at HQ0 hW0 HC1 ⊢
 obtain ⟨r0,r1,r2,r3⟩:=bx4k HQ0
 have HQF:=Lib.hid HQ1
 have hg0:w.heap.size<W0.heap.size:=by omega
 clear hC rb h8 hl8 hy hz hr hn hbd hle hqw g1 g2 HB0 HQ1 ec eb et ew o1 o2 o3 o4 o5 o6 o7 o8 o9 HQ hS rs
 unfold at0 at *
 go_enter Tryz.func30,Tryz.ntmps30
 go_upto_region 1 with fail
 rw [hW0.out]
 go_wp2_with (first
   | (go_at_call 64
      refine HC1.out.mono ?_
      rintro e w1 ⟨rfl,hw1,hc1⟩
      have HK1:=Lib.hid hc1
      have HN1:=Lib.hid (HWr.out w1 hw1)
      clear hw1 hc1)
   | (go_at_call 66
      refine HN1.out.mono ?_
      rintro e w3 ⟨rfl,hw3,hc3⟩
      have HK3:=Lib.hid (HK1.out.trans hc3)
      obtain ⟨V3,hV3⟩:=hw3
      have HV3:=Lib.hid hV3
      obtain ⟨⟨c0,c1,c2,c3,c4,c5⟩,f0,f1,f2,f3,f4,f5⟩:=bx6 hV3.h
      rw [hX.out] at c1
      obtain ⟨AK,cK,hAK,-,-⟩:=row_form hV3.rk
      have HAK:=Lib.hid hAK
      rw [hAK] at c4
      have HFN:=HK3.out.cells HQF.out HKN.out.1 HKN.out.2.1 HKN.out.2.2.1 HKN.out.2.2.2 (by decide) (by decide) (by decide)
      have hlq:=lt_heap hV3.h
      have hlf:=lt_heap HFN
      obtain ⟨s0,s1,s2,s3⟩:=bx4k HFN
      have hz0:=free_block HFN 0
      have hz1:=free_block HFN 1
      have hz2:=free_block HFN 2
      have hz3:=free_block HFN 3
      have HEND:=Lib.hid (fun W9 (hk:Kp (w.heap.size+1) w3 W9)=>fn_end (q:=W0.heap.size+1) HQW.out hk (by rw [hK2.out]; exact hV3) (HK0.out.trans (Cf.kc (q:=W0.heap.size+1) (by rw [hK2.out]; exact HK3.out) (by omega))) HFN hbw (by omega) (by omega))
      clear hV3 hc3 hAK)
   | (fail))
 have q1:=heap_set HFN 0 (.string X)
 have q2:=heap_set q1 1 (.int .i64 (pr:Int))
 have q3:=heap_set q2 2 (.int .i64 ((rlE R).vars:Int))
 have q4:=heap_set q3 3 (.slice AK (rlE R).code.length cK)
 have kk:=(((Kp.refl (w.heap.size+1) w3).set (p:=⟨w.heap.size+1,0,none⟩) rfl (.string X)).set (p:=⟨w.heap.size+1,1,none⟩) rfl (.int .i64 (pr:Int))).set (p:=⟨w.heap.size+1,2,none⟩) rfl (.int .i64 ((rlE R).vars:Int)) |>.set (p:=⟨w.heap.size+1,3,none⟩) rfl (.slice AK (rlE R).code.length cK)
 have hend:=HEND.out _ kk
 generalize (((w3.setCell ⟨w.heap.size+1,0,none⟩ (.string X)).setCell ⟨w.heap.size+1,1,none⟩ (.int .i64 (pr:Int))).setCell ⟨w.heap.size+1,2,none⟩ (.int .i64 ((rlE R).vars:Int))).setCell ⟨w.heap.size+1,3,none⟩ (.slice AK (rlE R).code.length cK)=W9 at q4 hend ⊢
 simp at q4
 obtain ⟨p0,p1,p2,p3⟩:=bx4k q4
 clear q1 q2 q3 q4 kk HEND
 refine bodyPost_ret (v := .agg #[.string X,.int .i64 (pr:Int),.int .i64 ((rlE R).vars:Int),.slice AK (rlE R).code.length cK]) (by simp [results,Tryz.results30,go_sem,p0,p1,p2,p3]) rfl ?_
 exact ⟨_,V3,rfl,⟨V3.k,by rw [HAK.out,← hX.out]; rfl,hend.2.1⟩,hend.1,hend.2.2⟩
end
end Go.Proofs.YtcmopnkldplngabGreatDoor
namespace Go.Proofs.YtcmopnkldplngabGreatDoor
open Go.RowKit
set_option linter.unusedVariables false
set_option linter.unusedSimpArgs false
def OpD (D:DataW Unit) (f:List Nat→Nat):Prop:=∀ s,(∀ x∈s,x<256)→Maps.has D (nk s)=decide (f s≠0)∧D.atKey (nk s) (.lit (.int .u8 0)) = .lit (.int .u8 (f s:Int))
theorem OpD.put {D:DataW Unit} {f:List Nat→Nat} (h:OpD D f) (hm:Maps.IsMap D) (t:List Nat) (h8:∀ x∈t,x<256) (v:Nat) (hv:v≠0):OpD (D.put (nk t) (.lit (.int .u8 (v:Int)))) (fun s=>if s=t then v else f s):=fun s hs=>by
 by_cases e:s=t
 · subst e
   refine ⟨by rw [Maps.has_put_same hm (show WideAt.IsKeyLit (nk s) from trivial)]; simp [hv],?_⟩
   simp only [if_true]
   exact Maps.atKey_put_same hm (show WideAt.IsKeyLit (nk s) from trivial) _ _
 · simp only [e,if_false]
   rw [Maps.has_put_other (nk_ne hs h8 e),Maps.atKey_put_other (nk_ne hs h8 e)]
   exact h s hs
theorem wf_u8n {k:Nat} (hk:k<256):(Lit.int .u8 (k:Int)).wf=true:=by
 have h1:IntKind.u8.min=0:=by decide
 have h2:IntKind.u8.max=255:=by decide
 simp [Lit.wf,h1,h2]
 omega
def OpM (w:World) (b n:Nat) (f:List Nat→Nat):Prop:=∃ D:DataW Unit,w.ownsMap Tryz.prog 9 (plainElem Tryz.prog 43) b n D∧Maps.IsMap D∧OpD D f
theorem OpM.made (w:World):OpM (w.alloc (.map #[] 0)) w.heap.size 0 (fun _ => 0):=⟨.map [],World.ownsMap_made w _ _ _,Maps.isMap_empty,fun s _ => ⟨rfl,rfl⟩⟩
theorem OpM.put {w:World} {b n:Nat} {f:List Nat→Nat} (h:OpM w b n f) (t:List Nat) (h8:∀ x∈t,x<256) (v:Nat) (hv:v≠0) (hv2:v<256) (hn:n<1000) (hl:t.length≤1000:=by decide) :
   ∃ w2,(Instr.mapUpdate 108 (.map (some b)) (.string (strOf t)) (.int .u8 (v:Int))).run Tryz.prog w = .ok () w2∧OpM w2 b (n+1) (fun s=>if s=t then v else f s)∧w.grownBy w2 (some b):=by
 obtain ⟨D,h1,h2,h3⟩:=h
 obtain ⟨w2,e,h4,h5⟩:=h1.update str_key op_u (by unfold maxLen; omega) (key_nk t (by omega)) (plainElem_int (H:=Unit) Tryz.underlying43 (show (Lit.int .u8 (v:Int)).wf=true from wf_u8n hv2))
 exact ⟨w2,e,⟨_,h4,h2.put _ _,h3.put h2 t h8 v hv⟩,h5⟩
theorem OpM.at {w:World} {b n:Nat} {f g:List Nat→Nat} (h:OpM w b n f) (hf:∀ s,f s=g s):OpAt w b g:=by
 obtain ⟨D,h1,h2,h3⟩:=h
 exact ⟨D,n,h1,fun s hs=>by rw [← hf s]; exact h3 s hs⟩
theorem fill_one {w:World} {b:Nat} (h:OpM w b 0 (fun _ => 0)):∃ v1 v2,((Instr.mapUpdate 108 (.map (some b)) (.string { data:=#[45] }) (.int .u8 9)).run Tryz.prog w = .ok () v1∧(Instr.mapUpdate 108 (.map (some b)) (.string { data:=#[33] }) (.int .u8 10)).run Tryz.prog v1 = .ok () v2)∧OpAt v2 b opOne∧w.grownBy v2 (some b):=by
 obtain ⟨v1,e1,h1,g1⟩:=(h).put [45] (by simp) 9 (by decide) (by decide) (by decide)
 obtain ⟨v2,e2,h2,g2⟩:=(h1).put [33] (by simp) 10 (by decide) (by decide) (by decide)
 refine ⟨v1,v2,⟨e1,e2⟩,h2.at fun s=>?_,(g1).trans (g2)⟩
 unfold opOne
 by_cases k1:s=[45]
 · subst k1; decide
 by_cases k2:s=[33]
 · subst k2; decide
 simp only [k1,k2,if_false]
theorem fill_two {w:World} {b:Nat} (h:OpM w b 0 (fun _ => 0)):∃ v1 v2 v3 v4 v5 v6 v7 v8 v9 v10 v11 v12,((Instr.mapUpdate 108 (.map (some b)) (.string { data:=#[61,61] }) (.int .u8 11)).run Tryz.prog w = .ok () v1∧(Instr.mapUpdate 108 (.map (some b)) (.string { data:=#[33,61] }) (.int .u8 12)).run Tryz.prog v1 = .ok () v2∧(Instr.mapUpdate 108 (.map (some b)) (.string { data:=#[60] }) (.int .u8 13)).run Tryz.prog v2 = .ok () v3∧(Instr.mapUpdate 108 (.map (some b)) (.string { data:=#[60,61] }) (.int .u8 14)).run Tryz.prog v3 = .ok () v4∧(Instr.mapUpdate 108 (.map (some b)) (.string { data:=#[62] }) (.int .u8 15)).run Tryz.prog v4 = .ok () v5∧(Instr.mapUpdate 108 (.map (some b)) (.string { data:=#[62,61] }) (.int .u8 16)).run Tryz.prog v5 = .ok () v6∧(Instr.mapUpdate 108 (.map (some b)) (.string { data:=#[43] }) (.int .u8 4)).run Tryz.prog v6 = .ok () v7∧(Instr.mapUpdate 108 (.map (some b)) (.string { data:=#[45] }) (.int .u8 5)).run Tryz.prog v7 = .ok () v8∧(Instr.mapUpdate 108 (.map (some b)) (.string { data:=#[42] }) (.int .u8 6)).run Tryz.prog v8 = .ok () v9∧(Instr.mapUpdate 108 (.map (some b)) (.string { data:=#[47] }) (.int .u8 7)).run Tryz.prog v9 = .ok () v10∧(Instr.mapUpdate 108 (.map (some b)) (.string { data:=#[37] }) (.int .u8 8)).run Tryz.prog v10 = .ok () v11∧(Instr.mapUpdate 108 (.map (some b)) (.string { data:=#[43,43] }) (.int .u8 17)).run Tryz.prog v11 = .ok () v12)∧OpAt v12 b opTwo∧w.grownBy v12 (some b):=by
 obtain ⟨v1,e1,h1,g1⟩:=(h).put [61,61] (by simp) 11 (by decide) (by decide) (by decide)
 obtain ⟨v2,e2,h2,g2⟩:=(h1).put [33,61] (by simp) 12 (by decide) (by decide) (by decide)
 obtain ⟨v3,e3,h3,g3⟩:=(h2).put [60] (by simp) 13 (by decide) (by decide) (by decide)
 obtain ⟨v4,e4,h4,g4⟩:=(h3).put [60,61] (by simp) 14 (by decide) (by decide) (by decide)
 obtain ⟨v5,e5,h5,g5⟩:=(h4).put [62] (by simp) 15 (by decide) (by decide) (by decide)
 obtain ⟨v6,e6,h6,g6⟩:=(h5).put [62,61] (by simp) 16 (by decide) (by decide) (by decide)
 obtain ⟨v7,e7,h7,g7⟩:=(h6).put [43] (by simp) 4 (by decide) (by decide) (by decide)
 obtain ⟨v8,e8,h8,g8⟩:=(h7).put [45] (by simp) 5 (by decide) (by decide) (by decide)
 obtain ⟨v9,e9,h9,g9⟩:=(h8).put [42] (by simp) 6 (by decide) (by decide) (by decide)
 obtain ⟨v10,e10,h10,g10⟩:=(h9).put [47] (by simp) 7 (by decide) (by decide) (by decide)
 obtain ⟨v11,e11,h11,g11⟩:=(h10).put [37] (by simp) 8 (by decide) (by decide) (by decide)
 obtain ⟨v12,e12,h12,g12⟩:=(h11).put [43,43] (by simp) 17 (by decide) (by decide) (by decide)
 refine ⟨v1,v2,v3,v4,v5,v6,v7,v8,v9,v10,v11,v12,⟨e1,e2,e3,e4,e5,e6,e7,e8,e9,e10,e11,e12⟩,h12.at fun s=>?_,(((((((((((g1).trans g2).trans g3).trans g4).trans g5).trans g6).trans g7).trans g8).trans g9).trans g10).trans g11).trans g12⟩
 unfold opTwo
 by_cases k1:s=[61,61]
 · subst k1; decide
 by_cases k2:s=[33,61]
 · subst k2; decide
 by_cases k3:s=[60]
 · subst k3; decide
 by_cases k4:s=[60,61]
 · subst k4; decide
 by_cases k5:s=[62]
 · subst k5; decide
 by_cases k6:s=[62,61]
 · subst k6; decide
 by_cases k7:s=[43]
 · subst k7; decide
 by_cases k8:s=[45]
 · subst k8; decide
 by_cases k9:s=[42]
 · subst k9; decide
 by_cases k10:s=[47]
 · subst k10; decide
 by_cases k11:s=[37]
 · subst k11; decide
 by_cases k12:s=[43,43]
 · subst k12; decide
 simp only [k1,k2,k3,k4,k5,k6,k7,k8,k9,k10,k11,k12,if_false]
theorem fill_skip {w:World} {b:Nat} (h:OpM w b 0 (fun _ => 0)):∃ v1 v2,((Instr.mapUpdate 108 (.map (some b)) (.string { data:=#[38,38] }) (.int .u8 29)).run Tryz.prog w = .ok () v1∧(Instr.mapUpdate 108 (.map (some b)) (.string { data:=#[124,124] }) (.int .u8 30)).run Tryz.prog v1 = .ok () v2)∧OpAt v2 b opSkip∧w.grownBy v2 (some b):=by
 obtain ⟨v1,e1,h1,g1⟩:=(h).put [38,38] (by simp) 29 (by decide) (by decide) (by decide)
 obtain ⟨v2,e2,h2,g2⟩:=(h1).put [124,124] (by simp) 30 (by decide) (by decide) (by decide)
 refine ⟨v1,v2,⟨e1,e2⟩,h2.at fun s=>?_,(g1).trans (g2)⟩
 unfold opSkip
 by_cases k1:s=[38,38]
 · subst k1; decide
 by_cases k2:s=[124,124]
 · subst k2; decide
 simp only [k1,k2,if_false]
theorem ix_u:Tryz.prog.underlying 107=some (.map 9 3):=Tryz.underlying107
theorem IxAt.put {w:World} {b:Nat} {l:Tss} (h:IxAt w b l) (x:List Nat) (hx:NmOk x) (hl:l.length≤1000000):∃ w2,(Instr.mapUpdate 107 (.map (some b)) (.string (strOf x)) (.int .i64 (l.length:Int))).run Tryz.prog w = .ok () w2∧IxAt w2 b (l ++ [x])∧w.grownBy w2 (some b):=by
 obtain ⟨D,n,h1,h2,h3,h4⟩:=h.own
 obtain ⟨w2,e,h5,h6⟩:=h1.update str_key ix_u (by unfold maxLen; omega) (key_nk x hx.2) (plainElem_int (H:=Unit) Tryz.underlying3 (show (Lit.int .i64 (l.length:Int)).wf=true from wf_nat (by omega)))
 exact ⟨w2,e,⟨_,n+1,h5,by rw [List.length_append]; exact Nat.succ_le_succ h2,h3.put _ _,h4.put h3 x hx.1⟩,h6⟩
theorem IxAt.made (w:World):IxAt (w.alloc (.map #[] 0)) w.heap.size []:=⟨.map [],0,World.ownsMap_made w _ _ _,Nat.le_refl _,Maps.isMap_empty,IxD.nil⟩
def V00:Vs:=⟨.slice none 0 0,.slice none 0 0,.slice none 0 0,.slice none 0 0⟩
theorem grown_below {w w':World} (k:Below w.heap.size w w'):w.grownBy w' none:=⟨k.os,k.tape,k.output,k.size,fun i hi _ => k.block i hi⟩
theorem IxAt.below {w w':World} {b:Nat} {l:Tss} (h:IxAt w b l) (k:Below w.heap.size w w'):IxAt w' b l:=h.kept (grown_below k) (by simp)
theorem OpAt.below {w w':World} {b:Nat} {f:List Nat→Nat} (h:OpAt w b f) (k:Below w.heap.size w w'):OpAt w' b f:=h.kept (grown_below k) (by simp)
theorem OpM.below {w w':World} {b n:Nat} {f:List Nat→Nat} (h:OpM w b n f) (k:Below w.heap.size w w'):OpM w' b n f:=by
 obtain ⟨D,h1,h2⟩:=h
 exact ⟨D,h1.kept (grown_below k) (by simp),h2⟩
theorem ct_made (w:World):CtAt (w.alloc (.map #[] 0)) w.heap.size []:=⟨.map [],World.ownsMap_made w _ _ _,Maps.isMap_empty,PlD.nil _ _⟩
theorem tg_made (w:World):TgAt (w.alloc (.map #[] 0)) w.heap.size []:=⟨.map [],World.ownsMap_made w _ _ _,Maps.isMap_empty,PlD.nil _ _⟩
theorem CtAt.below {w w':World} {b:Nat} {l:List Cst} (h:CtAt w b l) (k:Below w.heap.size w w'):CtAt w' b l:=h.kept (grown_below k) (by simp)
theorem TgAt.below {w w':World} {b:Nat} {l:Tss} (h:TgAt w b l) (k:Below w.heap.size w w'):TgAt w' b l:=h.kept (grown_below k) (by simp)
theorem nc_lay (w:World) (P:Obj):∃ b1 v2 v3 c1 c2 c3 c4 c5 c6 c7 c8 c9 ca cb cc d1 d2 K,
   (((w.alloc P).alloc (.map #[] 0)).alloc (.map #[] 0)).alloc (.map #[] 0)=b1 ∧
   ((Instr.mapUpdate 108 (.map (some (w.heap.size+1+1+1))) (.string { data:=#[45] }) (.int .u8 9)).run Tryz.prog b1 = .ok () v2∧(Instr.mapUpdate 108 (.map (some (w.heap.size+1+1+1))) (.string { data:=#[33] }) (.int .u8 10)).run Tryz.prog v2 = .ok () v3)∧((Instr.mapUpdate 108 (.map (some v3.heap.size)) (.string { data:=#[61,61] }) (.int .u8 11)).run Tryz.prog (v3.alloc (.map #[] 0)) = .ok () c1∧(Instr.mapUpdate 108 (.map (some v3.heap.size)) (.string { data:=#[33,61] }) (.int .u8 12)).run Tryz.prog c1 = .ok () c2∧(Instr.mapUpdate 108 (.map (some v3.heap.size)) (.string { data:=#[60] }) (.int .u8 13)).run Tryz.prog c2 = .ok () c3∧(Instr.mapUpdate 108 (.map (some v3.heap.size)) (.string { data:=#[60,61] }) (.int .u8 14)).run Tryz.prog c3 = .ok () c4∧(Instr.mapUpdate 108 (.map (some v3.heap.size)) (.string { data:=#[62] }) (.int .u8 15)).run Tryz.prog c4 = .ok () c5∧(Instr.mapUpdate 108 (.map (some v3.heap.size)) (.string { data:=#[62,61] }) (.int .u8 16)).run Tryz.prog c5 = .ok () c6∧(Instr.mapUpdate 108 (.map (some v3.heap.size)) (.string { data:=#[43] }) (.int .u8 4)).run Tryz.prog c6 = .ok () c7∧(Instr.mapUpdate 108 (.map (some v3.heap.size)) (.string { data:=#[45] }) (.int .u8 5)).run Tryz.prog c7 = .ok () c8∧(Instr.mapUpdate 108 (.map (some v3.heap.size)) (.string { data:=#[42] }) (.int .u8 6)).run Tryz.prog c8 = .ok () c9∧(Instr.mapUpdate 108 (.map (some v3.heap.size)) (.string { data:=#[47] }) (.int .u8 7)).run Tryz.prog c9 = .ok () ca∧(Instr.mapUpdate 108 (.map (some v3.heap.size)) (.string { data:=#[37] }) (.int .u8 8)).run Tryz.prog ca = .ok () cb∧(Instr.mapUpdate 108 (.map (some v3.heap.size)) (.string { data:=#[43,43] }) (.int .u8 17)).run Tryz.prog cb = .ok () cc)∧((Instr.mapUpdate 108 (.map (some cc.heap.size)) (.string { data:=#[38,38] }) (.int .u8 29)).run Tryz.prog (cc.alloc (.map #[] 0)) = .ok () d1∧(Instr.mapUpdate 108 (.map (some cc.heap.size)) (.string { data:=#[124,124] }) (.int .u8 30)).run Tryz.prog d1 = .ok () d2) ∧
   K.bf=w.heap.size+1∧K.br=w.heap.size+1+1∧K.b1=w.heap.size+1+1+1∧K.b2=v3.heap.size∧K.b3=cc.heap.size∧K.bc=d2.heap.size∧K.bt=d2.heap.size+1∧K.qc=d2.heap.size+1+1∧K.qw=K.qc+1 ∧
   CmAt w.heap.size K ⟨[],[]⟩ (((d2.alloc (.map #[] 0)).alloc (.map #[] 0)).alloc (.cells (cmCells K V00) 112 (0,0))) [] [] V00 ∧
   Below w.heap.size w (((d2.alloc (.map #[] 0)).alloc (.map #[] 0)).alloc (.cells (cmCells K V00) 112 (0,0))) ∧
   (((d2.alloc (.map #[] 0)).alloc (.map #[] 0)).alloc (.cells (cmCells K V00) 112 (0,0))).heap[w.heap.size]?=some P:=by
 obtain ⟨A2,hA2⟩:∃ A2,((w.alloc P).alloc (.map #[] 0)).alloc (.map #[] 0)=A2:=⟨_,rfl⟩
 have s2:A2.heap.size=w.heap.size+3:=by rw [← hA2]; simp
 have p0:A2.heap[w.heap.size]?=some P:=by rw [← hA2]; exact heap_old (heap_old (heap_new w P) _) _
 have k0:Below w.heap.size w A2:=by rw [← hA2]; exact (((Below.refl _ _).alloc (Nat.le_refl _) P).alloc (by simp) _).alloc (by simp; omega) _
 have i1:IxAt A2 (w.heap.size+1) []:=by
   have:=(IxAt.made (w.alloc P)).below ((Below.refl _ _).alloc (Nat.le_refl _) (.map #[] 0))
   rw [hA2] at this
   simpa using this
 have i2:IxAt A2 (w.heap.size+2) []:=by
   have:=IxAt.made ((w.alloc P).alloc (.map #[] 0))
   rw [hA2] at this
   simpa using this
 obtain ⟨v2,v3,e1,o1,g1⟩:=fill_one (OpM.made A2)
 have e1':=e1
 rw [s2,show w.heap.size+3=w.heap.size+1+1+1 from rfl] at e1'
 have k1:Below A2.heap.size A2 v3:=((Below.refl _ _).alloc (Nat.le_refl _) (.map #[] 0)).grown g1 (by simp) (fun k e=>by cases e; exact Nat.le_refl _)
 have s3:=k1.size
 have s3':A2.heap.size<v3.heap.size:=by have:=g1.size; simp at this; omega
 obtain ⟨c1,c2,c3,c4,c5,c6,c7,c8,c9,ca,cb,cc,e2,o2,g2⟩:=fill_two (OpM.made v3)
 have k2:Below v3.heap.size v3 cc:=((Below.refl _ _).alloc (Nat.le_refl _) (.map #[] 0)).grown g2 (by simp) (fun k e=>by cases e; exact Nat.le_refl _)
 have s4':v3.heap.size<cc.heap.size:=by have:=g2.size; simp at this; omega
 obtain ⟨d1,d2,e3,o3,g3⟩:=fill_skip (OpM.made cc)
 have k3:Below cc.heap.size cc d2:=((Below.refl _ _).alloc (Nat.le_refl _) (.map #[] 0)).grown g3 (by simp) (fun k e=>by cases e; exact Nat.le_refl _)
 have s5':cc.heap.size<d2.heap.size:=by have:=g3.size; simp at this; omega
 obtain ⟨K,hK⟩:∃ K:Bk,K=⟨w.heap.size+1,w.heap.size+2,w.heap.size+3,v3.heap.size,cc.heap.size,d2.heap.size,d2.heap.size+1,d2.heap.size+2,d2.heap.size+3⟩:=⟨_,rfl⟩
 have k4:Below d2.heap.size d2 (((d2.alloc (.map #[] 0)).alloc (.map #[] 0)).alloc (.cells (cmCells K V00) 112 (0,0))):=(((Below.refl _ _).alloc (Nat.le_refl _) _).alloc (by simp) _).alloc (by simp; omega) _
 have t1:CtAt ((d2.alloc (.map #[] 0)).alloc (.map #[] 0)) d2.heap.size []:=(ct_made d2).below ((Below.refl _ _).alloc (Nat.le_refl _) _)
 have t2:TgAt ((d2.alloc (.map #[] 0)).alloc (.map #[] 0)) (d2.heap.size+1) []:=by have:=tg_made (d2.alloc (.map #[] 0)); simpa using this
 have t3:=heap_new' ((d2.alloc (.map #[] 0)).alloc (.map #[] 0)) (.cells (cmCells K V00) 112 (0,0)) (d2.heap.size+2) (by simp)
 have t1:=t1.below ((Below.refl _ _).alloc (Nat.le_refl _) (.cells (cmCells K V00) 112 (0,0)))
 have t2:=t2.below ((Below.refl _ _).alloc (Nat.le_refl _) (.cells (cmCells K V00) 112 (0,0)))
 have key:CmAt w.heap.size K ⟨[],[]⟩ (((d2.alloc (.map #[] 0)).alloc (.map #[] 0)).alloc (.cells (cmCells K V00) 112 (0,0))) [] [] V00∧Below w.heap.size w (((d2.alloc (.map #[] 0)).alloc (.map #[] 0)).alloc (.cells (cmCells K V00) 112 (0,0)))∧((((d2.alloc (.map #[] 0)).alloc (.map #[] 0)).alloc (.cells (cmCells K V00) 112 (0,0)))).heap[w.heap.size]?=some P:=by
   generalize ((d2.alloc (.map #[] 0)).alloc (.map #[] 0)).alloc (.cells (cmCells K V00) 112 (0,0))=W at k4 t1 t2 t3 ⊢
   have k34:=k3.trans (k4.mono (by omega))
   have k24:=k2.trans (k34.mono (by omega))
   have k14:=k1.trans (k24.mono (by omega))
   refine ⟨⟨?_,?_,?_,?_,?_,?_,?_,?_,?_,World.ownsRow_nil _ _ _ _,World.ownsRow_nil _ _ _ _,(by simp),(by simp)⟩,k0.trans (k14.mono (by omega)),heap_below p0 k14⟩
   · subst hK
     constructor <;> dsimp only <;> omega
   · rw [show K.qc=d2.heap.size+2 by rw [hK]]; exact t3
   · rw [show K.bf=w.heap.size+1 by rw [hK]]; exact i1.below k14
   · rw [show K.br=w.heap.size+2 by rw [hK]]; exact i2.below k14
   · rw [show K.b1=A2.heap.size by rw [hK,s2]]; exact o1.below k24
   · rw [show K.b2=v3.heap.size by rw [hK]]; exact o2.below k34
   · rw [show K.b3=cc.heap.size by rw [hK]]; exact o3.below k4
   · rw [show K.bc=d2.heap.size by rw [hK]]; exact t1
   · rw [show K.bt=d2.heap.size+1 by rw [hK]]; exact t2
 refine ⟨_,v2,v3,c1,c2,c3,c4,c5,c6,c7,c8,c9,ca,cb,cc,d1,d2,K,by rw [hA2],e1',e2,e3,by rw [hK],by rw [hK],by rw [hK],by rw [hK],by rw [hK],by rw [hK],by rw [hK],by rw [hK],by rw [hK],key.1,key.2.1,key.2.2⟩
section
variable {base:Nat} {K:Bk} {E:Env} {S:Nat→Prop}
theorem CmAt.newf {w w2:World} {l:Tss} (h:CmAt base K E w [] [] V00) (hg:w.grownBy w2 (some K.bf)) (hf:IxAt w2 K.bf l):CmAt base K ⟨l,E.roles⟩ w2 [] [] V00:=by
 obtain ⟨o1,o2,o3,o4,o5,o6,o7,o8,o9⟩:=h.ok
 have ne:∀ k,K.bf<k→some k≠some K.bf:=fun k hk e=>by have:=Option.some.inj e; omega
 exact ⟨h.ok,(hg.block _ (lt_heap h.h) (ne _ (by omega))).trans h.h,hf,h.r.kept hg (ne _ (by omega)),h.o1.kept hg (ne _ (by omega)),h.o2.kept hg (ne _ (by omega)),h.o3.kept hg (ne _ (by omega)),h.c.kept hg (ne _ (by omega)),h.t.kept hg (ne _ (by omega)),h.rc.kept hg (.inl rfl),h.rt.kept hg (.inl rfl),h.cok,h.tok⟩
theorem CmAt.newr {w w2:World} {l:Tss} (h:CmAt base K E w [] [] V00) (hg:w.grownBy w2 (some K.br)) (hf:IxAt w2 K.br l):CmAt base K ⟨E.fns,l⟩ w2 [] [] V00:=by
 obtain ⟨o1,o2,o3,o4,o5,o6,o7,o8,o9⟩:=h.ok
 have ne:∀ k,k≠K.br→some k≠some K.br:=fun k hk e=>hk (Option.some.inj e)
 exact ⟨h.ok,(hg.block _ (lt_heap h.h) (ne _ (by omega))).trans h.h,h.f.kept hg (ne _ (by omega)),hf,h.o1.kept hg (ne _ (by omega)),h.o2.kept hg (ne _ (by omega)),h.o3.kept hg (ne _ (by omega)),h.c.kept hg (ne _ (by omega)),h.t.kept hg (ne _ (by omega)),h.rc.kept hg (.inl rfl),h.rt.kept hg (.inl rfl),h.cok,h.tok⟩
def OutNc (w:World) (E:Env) (e:Ending) (w':World):Prop:=∃ K,e = .returned (at0 K.qc)∧CmAt w.heap.size K E w' [] [] V00∧Below w.heap.size w w'∧K.qw=K.qc+1
set_option maxRecDepth 100000 in
set_option maxHeartbeats 8000000 in
theorem newComp_any (g:Pg) (w:World) (v:Value) (hS:∀ b,S b→b<w.heap.size) (hr:Rd w S g.nd v) (hf:g.fns.length≤1000) (hro:g.roles.length≤1000) :
   Calls Tryz.prog 28 #[v] w (OutNc w (envP g)):=by
 obtain ⟨y,z,rfl,hy,hz⟩:=(Pg.rd g v).1 hr
 rw [Rd] at hy hz
 obtain ⟨A1,c1,rfl,hc1,hcm1,hr1⟩:=hy
 obtain ⟨A2,c2,rfl,hc2,hcm2,hr2⟩:=hz
 rw [List.length_map] at hc1 hc2 ⊢
 rw [List.length_map]
 unfold envP
 obtain ⟨l1,hl1⟩:∃ l,Hid (g.fns=l):=⟨_,Lib.hid rfl⟩
 obtain ⟨l2,hl2⟩:∃ l,Hid (g.roles=l):=⟨_,Lib.hid rfl⟩
 rw [hl1.out] at hr1 hc1 hf ⊢
 rw [hl2.out] at hr2 hc2 hro ⊢
 have HR1:=Lib.hid hr1
 have HR2:=Lib.hid hr2
 have HSS:=Lib.hid hS
 obtain ⟨n1,hn1⟩:∃ n,Hid (l1.length=n):=⟨_,Lib.hid rfl⟩
 obtain ⟨n2,hn2⟩:∃ n,Hid (l2.length=n):=⟨_,Lib.hid rfl⟩
 rw [hn1.out] at hc1 hf ⊢
 rw [hn2.out] at hc2 hro ⊢
 obtain ⟨P,hP⟩:∃ P,Hid (Obj.cells #[.slice A1 n1 c1,.slice A2 n2 c2] 25 (0,0)=P):=⟨_,Lib.hid rfl⟩
 obtain ⟨b1,v2,v3,C1,C2,C3,C4,C5,C6,C7,C8,C9,Ca,Cb,Cc,d1,d2,K,hb1,⟨E1,E2⟩,⟨F1,F2,F3,F4,F5,F6,F7,F8,F9,Fa,Fb,Fc⟩,⟨G1,G2⟩,m1,m2,m3,m4,m5,m6,m7,m8,m9,hCM,hBW,hPW⟩:=nc_lay w P
 subst hb1
 obtain ⟨W,hW⟩:∃ W,Hid (((d2.alloc (.map #[] 0)).alloc (.map #[] 0)).alloc (.cells (cmCells K V00) 112 (0,0))=W):=⟨_,Lib.hid rfl⟩
 have hW2:=hW.out
 unfold cmCells V00 at hW2
 rw [m1,m2,m3,m4,m5,m6,m7] at hW2
 rw [hW.out] at hCM hBW hPW
 have HW2:=Lib.hid hW2
 have HCM:=Lib.hid hCM
 have HBW:=Lib.hid hBW
 have HPW:=Lib.hid hPW
 have HM:=Lib.hid (And.intro m1 (And.intro m2 (And.intro m8 m9)))
 have hmm:=@run_makeMap Tryz.prog
 unfold maxLen at hcm1 hcm2
 clear hr hr1 hr2 hS hW2 hCM hBW hPW hW m1 m2 m3 m4 m5 m6 m7 m8 m9
 go_enter Tryz.func28,Tryz.ntmps28
 go_upto_region 1 with fail
 rw [hP.out]
 go_upto_region 2 with fail
 rw [HW2.out,← HM.out.2.2.1]
 clear E1 E2 F1 F2 F3 F4 F5 F6 F7 F8 F9 Fa Fb Fc G1 G2 hmm HW2
 obtain ⟨c0,c1,-⟩:W.cell? ⟨K.qc,0,none⟩=some (.map (some K.bf))∧W.cell? ⟨K.qc,1,none⟩=some (.map (some K.br))∧True:=⟨cell_block HCM.out.h 0,cell_block HCM.out.h 1,trivial⟩
 have hPP:=HPW.out
 rw [← hP.out] at hPP
 obtain ⟨⟨p0,p1⟩,-⟩:=bx2 hPP
 have hlp:=lt_heap hPP
 have hlc:=lt_heap HCM.out.h
 clear hPP
 go_wp2_with fail
 go_loopg [25,4] n1 (fun g i u wr=>∃ (j:Nat),j+g=n1∧i = .int .i64 (j:Int)∧Hid (CmAt w.heap.size K ⟨(l1.take j).map Bd.name,[]⟩ wr [] [] V00)∧Hid (Below w.heap.size w wr)∧Hid (wr.heap[w.heap.size]?=some P))
 case atStart=>exact ⟨0,by omega,rfl,HCM,HBW,HPW⟩
 case round =>
   clear HCM HBW HPW c0 c1 p0 p1 hlp hlc
   obtain ⟨j,hj,rfl,HC,HK,HP⟩:=hrel
   have c0:wr.cell? ⟨K.qc,0,none⟩=some (.map (some K.bf)):=cell_block HC.out.h 0
   have c1:wr.cell? ⟨K.qc,1,none⟩=some (.map (some K.br)):=cell_block HC.out.h 1
   have hlc:=lt_heap HC.out.h
   cases gk with
   | zero =>
     have h1:¬ (j:Int)<(n1:Int):=by omega
     have hjn:l1.take j=l1:=List.take_of_length_le (by rw [hn1.out]; omega)
     rw [hjn] at HC
     have hPP:=HP.out
     rw [← hP.out] at hPP
     obtain ⟨⟨p0,p1⟩,-⟩:=bx2 hPP
     have hlp:=lt_heap hPP
     clear hPP hjn HP
     go_wp2_with fail
     go_loopg [41,6] n2 (fun g i u wr=>∃ (j:Nat),j+g=n2∧i = .int .i64 (j:Int)∧Hid (CmAt w.heap.size K ⟨l1.map Bd.name,(l2.take j).map Rl.name⟩ wr [] [] V00)∧Hid (Below w.heap.size w wr))
     case atStart=>exact ⟨0,by omega,rfl,HC,HK⟩
     case round =>
       clear HC HK c0 c1 p0 p1 hlp hlc hj h1
       obtain ⟨j,hj,rfl,HC,HK⟩:=hrel
       have c1:wr.cell? ⟨K.qc,1,none⟩=some (.map (some K.br)):=cell_block HC.out.h 1
       have hlc:=lt_heap HC.out.h
       cases gk with
       | zero =>
         have h1:¬ (j:Int)<(n2:Int):=by omega
         have hjn:l2.take j=l2:=List.take_of_length_le (by rw [hn2.out]; omega)
         rw [hjn] at HC
         clear hjn
         go_wp2_with fail
         go_ret
         exact ⟨K,rfl,HC.out,HK.out,HM.out.2.2.2⟩
       | succ g =>
         have h1:(j:Int)<(n2:Int):=by omega
         have h2:j<n2:=by omega
         have hjl:j<l2.length:=by rw [hn2.out]; exact h2
         obtain ⟨bb,o,vs,rfl,hSb,hvl,hrg,hx⟩:=HR2.out.at j (Rl.nd l2[j]) (by simp [hjl])
         have HTK:Hid ((l2.take (j+1)).map Rl.name=(l2.take j).map Rl.name ++ [l2[j].name]):=Lib.hid (by rw [← List.take_append_getElem hjl,List.map_append]; rfl)
         have hlt:((l2.take j).map Rl.name).length=j:=by simp; omega
         generalize l2[j]=x at *
         obtain ⟨s1,ps1,st1,ln1⟩:=x
         obtain ⟨y,y',hv,h8,hl8,hy,hy1⟩:=(hd_rd s1 ps1 4 _ ln1 _).1 hx
         obtain ⟨A3,n3,c3,rfl⟩:=hy.rowf
         obtain ⟨A4,n4,c4,rfl⟩:=hy1.rowf
         have hv2:vs=[.string (strOf s1),.slice A3 n3 c3,.slice A4 n4 c4,.int .i64 ln1]:=by
           injection hv with hv
           have:=congrArg Array.toList hv
           simpa using this
         subst hv2
         have hcell:∀ i u,([.string (strOf s1),.slice A3 n3 c3,.slice A4 n4 c4,.int .i64 ln1]:List Value)[i]?=some u→wr.cell? ⟨bb,o+j*4+i,none⟩=some u:=fun i u hu=>by
           have:=hrg i u hu
           rw [Nat.zero_add] at this
           exact (HK.out.cell (p:=⟨bb,o+j*4+i,none⟩) (HSS.out bb hSb)).trans this
         have y0:wr.cell? ⟨bb,o+j*4,none⟩=some (.string (strOf s1)):=hcell 0 _ rfl
         have y1:=hcell 1 _ rfl
         have y2:=hcell 2 _ rfl
         have y3:=hcell 3 _ rfl
         have hbr:bb<wr.heap.size:=Nat.lt_of_lt_of_le (HSS.out bb hSb) HK.out.size
         have hBX:Below wr.heap.size wr (wr.alloc (.cells #[.string (strOf s1),.slice A3 n3 c3,.slice A4 n4 c4,.int .i64 ln1] 90)).drew:=((Below.refl _ _).alloc (Nat.le_refl _) _).drew
         have hCX:=HC.out.below hBX
         obtain ⟨w2,hup,hix,hg2⟩:=hCX.r.put s1 ⟨h8,hl8⟩ (by dsimp only; omega)
         have HC2:=Lib.hid (hCX.newr hg2 hix)
         dsimp only at hup HC2
         rw [hlt] at hup
         have hos:=HC.out.ok
         have hbk:w.heap.size≤K.br:=by obtain ⟨o1,o2,o3,o4,o5,o6,o7,o8,o9⟩:=hos; omega
         have HK2:=Lib.hid ((HK.out.trans (hBX.mono HK.out.size)).grown hg2 (by have:=HK.out.size; simp; omega) (fun k e=>by cases e; exact hbk))
         clear hrg hx hv hy hy1 hjl hcell h8 hl8 hBX hCX hix hg2 hos hbk hlt
         dsimp only at HTK
         rw [← HTK.out] at HC2
         generalize strOf s1=X at *
         go_upto_region 10 with fail
         go_region
         go_wp2_with fail
         go_roundg g
         case measure=>omega
         case rel=>exact ⟨j+1,by omega,by go_num,HC2,HK2⟩
   | succ g =>
     have h1:(j:Int)<(n1:Int):=by omega
     have h2:j<n1:=by omega
     have hjl:j<l1.length:=by rw [hn1.out]; exact h2
     obtain ⟨bb,o,vs,rfl,hSb,hvl,hrg,hx⟩:=HR1.out.at j (Bd.nd l1[j]) (by simp [hjl])
     have HTK:Hid ((l1.take (j+1)).map Bd.name=(l1.take j).map Bd.name ++ [l1[j].name]):=Lib.hid (by rw [← List.take_append_getElem hjl,List.map_append]; rfl)
     have hlt:((l1.take j).map Bd.name).length=j:=by simp; omega
     generalize l1[j]=x at *
     obtain ⟨s1,ps1,st1,ln1⟩:=x
     obtain ⟨y,y',hv,h8,hl8,hy,hy1⟩:=(hd_rd s1 ps1 6 _ ln1 _).1 hx
     obtain ⟨A3,n3,c3,rfl⟩:=hy.rowf
     obtain ⟨A4,n4,c4,rfl⟩:=hy1.rowf
     have hv2:vs=[.string (strOf s1),.slice A3 n3 c3,.slice A4 n4 c4,.int .i64 ln1]:=by
       injection hv with hv
       have:=congrArg Array.toList hv
       simpa using this
     subst hv2
     have hcell:∀ i u,([.string (strOf s1),.slice A3 n3 c3,.slice A4 n4 c4,.int .i64 ln1]:List Value)[i]?=some u→wr.cell? ⟨bb,o+j*4+i,none⟩=some u:=fun i u hu=>by
       have:=hrg i u hu
       rw [Nat.zero_add] at this
       exact (HK.out.cell (p:=⟨bb,o+j*4+i,none⟩) (HSS.out bb hSb)).trans this
     have y0:wr.cell? ⟨bb,o+j*4,none⟩=some (.string (strOf s1)):=hcell 0 _ rfl
     have y1:=hcell 1 _ rfl
     have y2:=hcell 2 _ rfl
     have y3:=hcell 3 _ rfl
     have hbr:bb<wr.heap.size:=Nat.lt_of_lt_of_le (HSS.out bb hSb) HK.out.size
     have hBX:Below wr.heap.size wr (wr.alloc (.cells #[.string (strOf s1),.slice A3 n3 c3,.slice A4 n4 c4,.int .i64 ln1] 87)).drew:=((Below.refl _ _).alloc (Nat.le_refl _) _).drew
     have hCX:=HC.out.below hBX
     obtain ⟨w2,hup,hix,hg2⟩:=hCX.f.put s1 ⟨h8,hl8⟩ (by dsimp only; omega)
     have HC2:=Lib.hid (hCX.newf hg2 hix)
     dsimp only at hup HC2
     rw [hlt] at hup
     have hos:=HC.out.ok
     have hbk:w.heap.size≤K.bf:=by obtain ⟨o1,o2,o3,o4,o5,o6,o7,o8,o9⟩:=hos; omega
     have HK2:=Lib.hid ((HK.out.trans (hBX.mono HK.out.size)).grown hg2 (by have:=HK.out.size; simp; omega) (fun k e=>by cases e; exact hbk))
     have HP2:Hid (w2.heap[w.heap.size]?=some P):=Lib.hid ((hg2.block _ (by have:=lt_heap HP.out; simp; omega) (fun e=>by have:=Option.some.inj e; rw [HM.out.1] at this; omega)).trans (heap_below HP.out hBX))
     clear hrg hx hv hy hy1 hjl hcell h8 hl8 hBX hCX hix hg2 hos hbk hlt
     dsimp only at HTK
     rw [← HTK.out] at HC2
     generalize strOf s1=X at *
     go_upto_region 5 with fail
     go_region
     go_wp2_with fail
     go_roundg g
     case measure=>omega
     case rel=>exact ⟨j+1,by omega,by go_num,HC2,HK2,HP2⟩
end
end Go.Proofs.YtcmopnkldplngabGreatDoor
namespace Go.Proofs.YtcmopnkldplngabGreatDoor
open Go.RowKit
set_option linter.unusedVariables false
theorem own_same {w w':World} {b sz n:Nat} {T:TypeId} {v:Value} {xs:List Value} (h:w.ownsRow b T sz v n xs) (hk:∀ g,v.ownBlock=some g→w'.heap[g]?=w.heap[g]?):w'.ownsRow b T sz v n xs:=by
 obtain ⟨h1,h2⟩:=h
 refine ⟨h1,?_⟩
 rcases h2 with h2 | ⟨g,cap,cur,h3,h4,h5,h6⟩
 · exact .inl h2
 · exact .inr ⟨g,cap,cur,h3,h4,(hk g (by rw [h3]; rfl)).trans h5,h6⟩
def FnsX (w:World) (b:Nat):List Fnc→List Value→Prop
 | [],xs=>xs=[]
 | f :: r,xs=>∃ k ys,xs=[.string (strOf f.name),.int .i64 (f.params:Int),.int .i64 (f.vars:Int),k] ++ ys∧w.ownsRow b 45 3 k f.code.length (ivs f.code)∧FnsX w b r ys
def onV (o:Onn):List Value:=[.string (strOf o.tag),.int .i64 (o.params:Int),.int .i64 (o.fn:Int)]
def onVs (l:List Onn):List Value:=l.flatMap onV
def PrtX (w:World) (b:Nat):List Prt→List Value→Prop
 | [],xs=>xs=[]
 | p :: r,xs=>∃ k ys,xs=[.string (strOf p.name),.int .i64 (p.params:Int),k] ++ ys∧w.ownsRow b 102 3 k p.on.length (onVs p.on)∧PrtX w b r ys
section
variable {w w':World} {b:Nat}
theorem FnsX.keep (hk:∀ g c fr,b≤g→w.heap[g]?=some (.cells c 45 fr)→w'.heap[g]?=w.heap[g]?):∀ (l:List Fnc) (xs:List Value),FnsX w b l xs→FnsX w' b l xs
 | [], _,h=>h
 | f :: r,xs,⟨k,ys,h1,h2,h3⟩=>⟨k,ys,h1,own_same h2 (fun g hg=>by
     obtain ⟨c,fz,hc⟩:=own_kind h2 g hg
     exact hk g c fz (World.ownsRow.lt h2 g hg).1 hc),FnsX.keep hk r ys h3⟩
theorem FnsX.snoc {f:Fnc} {k:Value} (hf:w.ownsRow b 45 3 k f.code.length (ivs f.code)):∀ (l:List Fnc) (xs:List Value),FnsX w b l xs→FnsX w b (l ++ [f]) (xs ++ [.string (strOf f.name),.int .i64 (f.params:Int),.int .i64 (f.vars:Int),k])
 | [], _,h=>by
   have e : _ = []:=h
   subst e
   exact ⟨k,[],by simp,hf,rfl⟩
 | g :: r,xs,⟨k',ys,h1,h2,h3⟩=>⟨k', _,by rw [h1,List.append_assoc],h2,FnsX.snoc hf r ys h3⟩
theorem PrtX.keep (hk:∀ g c fr,b≤g→w.heap[g]?=some (.cells c 102 fr)→w'.heap[g]?=w.heap[g]?):∀ (l:List Prt) (xs:List Value),PrtX w b l xs→PrtX w' b l xs
 | [], _,h=>h
 | f :: r,xs,⟨k,ys,h1,h2,h3⟩=>⟨k,ys,h1,own_same h2 (fun g hg=>by
     obtain ⟨c,fz,hc⟩:=own_kind h2 g hg
     exact hk g c fz (World.ownsRow.lt h2 g hg).1 hc),PrtX.keep hk r ys h3⟩
theorem PrtX.snoc {p:Prt} {k:Value} (hf:w.ownsRow b 102 3 k p.on.length (onVs p.on)):∀ (l:List Prt) (xs:List Value),PrtX w b l xs→PrtX w b (l ++ [p]) (xs ++ [.string (strOf p.name),.int .i64 (p.params:Int),k])
 | [], _,h=>by
   have e : _ = []:=h
   subst e
   exact ⟨k,[],by simp,hf,rfl⟩
 | g :: r,xs,⟨k',ys,h1,h2,h3⟩=>⟨k', _,by rw [h1,List.append_assoc],h2,PrtX.snoc hf r ys h3⟩
end
structure MdAt (b:Nat) (w:World) (gm:Nat) (vc vt vF vR:Value) (fns:List Fnc) (roles:List Prt):Prop where
 h:w.heap[gm]?=some (.cells #[vc,vt,vF,vR] 33 (0,0))
 f:∃ xs,w.ownsRow b 42 4 vF fns.length xs∧FnsX w b fns xs
 r:∃ xs,w.ownsRow b 100 3 vR roles.length xs∧PrtX w b roles xs
section
variable {w w':World} {b base gm:Nat} {K:Bk} {vc vt vF vR:Value} {fns:List Fnc} {roles:List Prt}
theorem MdAt.keep (h:MdAt b w gm vc vt vF vR fns roles) (hk:∀ g c T fr,w.heap[g]?=some (.cells c T fr)→T=45∨T=102∨T=42∨T=100∨g=gm→w'.heap[g]?=w.heap[g]?):MdAt b w' gm vc vt vF vR fns roles:=by
 obtain ⟨h1,⟨xf,h2,h3⟩,⟨xr,h4,h5⟩⟩:=h
 refine ⟨(hk gm _ _ _ h1 (.inr (.inr (.inr (.inr rfl))))).trans h1,⟨xf,own_same h2 (fun g hg=>?_),FnsX.keep (fun g c fr _ hc=>hk g c _ fr hc (.inl rfl)) _ _ h3⟩,⟨xr,own_same h4 (fun g hg=>?_),PrtX.keep (fun g c fr _ hc=>hk g c _ fr hc (.inr (.inl rfl))) _ _ h5⟩⟩
 · obtain ⟨c,fz,hc⟩:=own_kind h2 g hg
   exact hk g c _ fz hc (.inr (.inr (.inl rfl)))
 · obtain ⟨c,fz,hc⟩:=own_kind h4 g hg
   exact hk g c _ fz hc (.inr (.inr (.inr (.inl rfl))))
theorem MdAt.kc {E:Env} {cs:List Cst} {ts:Tss} {V:Vs} (h:MdAt b w gm vc vt vF vR fns roles) (hk:Kc base K w w') (hC:CmAt base K E w cs ts V):MdAt b w' gm vc vt vF vR fns roles:=by
 refine h.keep fun g c T fr hg hT=>?_
 have hm:=h.h
 have hq:g≠K.qc:=fun e=>by
   subst e
   rw [hC.h] at hg
   injection hg with hg
   injection hg with _ e3
   rcases hT with e | e | e | e | e
   · exact absurd (e3.trans e) (by decide)
   · exact absurd (e3.trans e) (by decide)
   · exact absurd (e3.trans e) (by decide)
   · exact absurd (e3.trans e) (by decide)
   · rw [← e,hC.h] at hm
     injection hm with hm
     injection hm with _ e4
     exact absurd e4 (by decide)
 have hb1:g≠K.bc:=fun e=>by
   obtain ⟨D,h1,-⟩:=hC.c.own
   obtain ⟨es,cl,h2⟩:=own_map h1
   rw [← e,hg] at h2
   cases h2
 have hb2:g≠K.bt:=fun e=>by
   obtain ⟨D,h1,-⟩:=hC.t.own
   obtain ⟨es,cl,h2⟩:=own_map h1
   rw [← e,hg] at h2
   cases h2
 have hT2:T≠9∧T≠116:=by
   rcases hT with rfl | rfl | rfl | rfl | e
   · exact ⟨by decide,by decide⟩
   · exact ⟨by decide,by decide⟩
   · exact ⟨by decide,by decide⟩
   · exact ⟨by decide,by decide⟩
   · rw [e,hm] at hg
     injection hg with hg
     injection hg with _ e4
     rw [← e4]
     exact ⟨by decide,by decide⟩
 exact (hk.cells hg hq hb1 hb2 hT2.1 hT2.2).trans hg.symm
theorem MdAt.below (h:MdAt b w gm vc vt vF vR fns roles) (k:Below w.heap.size w w'):MdAt b w' gm vc vt vF vR fns roles :=
 h.keep fun g c T fr hg _ => k.block g (lt_heap hg)
theorem MdAt.fn {w5 w6:World} {v' k:Value} {f:Fnc} {xs:List Value} (h:MdAt b w5 gm vc vt vF vR fns roles) (ho:w5.ownsRow b 42 4 vF fns.length xs) (hx:FnsX w5 b fns xs) (hf:w5.ownsRow b 45 3 k f.code.length (ivs f.code))
   (ho':w6.ownsRow b 42 4 v' (fns.length+1) (xs ++ [.string (strOf f.name),.int .i64 (f.params:Int),.int .i64 (f.vars:Int),k])) (hg:w5.grownBy w6 vF.ownBlock):MdAt b (w6.setCell ⟨gm,2,none⟩ v') gm vc vt v' vR (fns ++ [f]) roles:=by
 have n1:∀ (g:Nat) (c:Array Value) (T:TypeId) (fr:Nat × Nat),w5.heap[g]?=some (.cells c T fr)→T≠42→w6.heap[g]?=w5.heap[g]?:=fun g c T fr hc hT=>hg.block g (lt_heap hc) (fun e=>row_ne ho hc (fun c fr e2=>by injection e2 with _ e3; exact hT e3) e.symm)
 have h6:w6.heap[gm]?=some (.cells #[vc,vt,vF,vR] 33 (0,0)):=(n1 _ _ _ _ h.h (by decide)).trans h.h
 have n2:∀ (g:Nat) (c:Array Value) (T:TypeId) (fr:Nat × Nat),w6.heap[g]?=some (.cells c T fr)→T≠33→(w6.setCell ⟨gm,2,none⟩ v').heap[g]?=w6.heap[g]?:=fun g c T fr hc hT=>Below.heap_setCell _ _ _ _ (fun e=>by
   have e:g=gm:=e
   rw [e,h6] at hc
   injection hc with hc
   injection hc with _ e3
   exact hT e3.symm)
 have n3:∀ (g:Nat) (c:Array Value) (T:TypeId) (fr:Nat × Nat),w5.heap[g]?=some (.cells c T fr)→T≠42→T≠33→(w6.setCell ⟨gm,2,none⟩ v').heap[g]?=w5.heap[g]?:=fun g c T fr hc hT hT2=>(n2 g c T fr ((n1 g c T fr hc hT).trans hc) hT2).trans (n1 g c T fr hc hT)
 obtain ⟨xr,h4,h5⟩:=h.r
 refine ⟨by simpa using heap_set h6 2 v',⟨_,?_,FnsX.snoc (own_same hf fun g hg2=>?_) _ _ (FnsX.keep (fun g c fr _ hc=>n3 g c _ fr hc (by decide) (by decide)) _ _ hx)⟩,⟨xr,own_same h4 fun g hg2=>?_,PrtX.keep (fun g c fr _ hc=>n3 g c _ fr hc (by decide) (by decide)) _ _ h5⟩⟩
 · rw [List.length_append]
   refine own_same ho' fun g hg2=>?_
   obtain ⟨c,fz,hc⟩:=own_kind ho' g hg2
   exact n2 g c _ fz hc (by decide)
 · obtain ⟨c,fz,hc⟩:=own_kind hf g hg2
   exact n3 g c _ fz hc (by decide) (by decide)
 · obtain ⟨c,fz,hc⟩:=own_kind h4 g hg2
   exact n3 g c _ fz hc (by decide) (by decide)
end
end Go.Proofs.YtcmopnkldplngabGreatDoor
namespace Go.Proofs.YtcmopnkldplngabGreatDoor
open Go.RowKit
set_option linter.unusedVariables false
theorem fn_info:(Tryz.prog.info? 42).map (fun i=>(i.zero,i.size,i.bytes))=some (some (.agg #[.string ⟨#[]⟩,.int .i64 0,.int .i64 0,.slice none 0 0]),4,56):=by kernel_rfl
theorem on_info:(Tryz.prog.info? 102).map (fun i=>(i.zero,i.size,i.bytes))=some (some (.agg #[.string ⟨#[]⟩,.int .i64 0,.int .i64 0]),3,32):=by kernel_rfl
theorem part_info:(Tryz.prog.info? 100).map (fun i=>(i.zero,i.size,i.bytes))=some (some (.agg #[.string ⟨#[]⟩,.int .i64 0,.slice none 0 0]),3,48):=by kernel_rfl
theorem at_made (w:World) (arr:Array Value) (T:TypeId) (hs:0<arr.size):∀ (j:Nat) (u:Value),arr.toList[j]?=some u→(w.alloc (.cells arr T)).cell? ((⟨w.heap.size,0,none⟩:Addr).add j)=some u:=by
 intro j u hu
 have:=(At.made w arr T) (by
   intro e
   have e2:arr.toList.length=0:=by rw [e]; rfl
   rw [Array.length_toList] at e2
   omega)
 obtain ⟨b,o,e1,-,e2⟩:=this
 cases e1
 have:=e2 j u hu
 rw [Addr.add_lit]
 exact this
section
variable {w:World} {b n:Nat} {v:Value} {xs:List Value}
theorem fn_app (ho:w.ownsRow b 42 4 v n xs) (hn:n≤900000) (hb:b≤w.heap.size) (X:ByteArray) (p q:Int) (A:Option Addr) (m c:Nat) :
   ∃ v' w',(Builtin.append_ #[30,30] 30 #[v,.slice (some ⟨w.heap.size,0,none⟩) 1 1]).run Tryz.prog (w.alloc (.cells #[.string X,.int .i64 p,.int .i64 q,.slice A m c] 42)) = .ok v' w'∧w'.ownsRow b 42 4 v' (n+1) (xs ++ [.string X,.int .i64 p,.int .i64 q,.slice A m c])∧(w.alloc (.cells #[.string X,.int .i64 p,.int .i64 q,.slice A m c] 42)).grownBy w' v.ownBlock:=by
 obtain ⟨i0,hi0,hz0,hz1,hz2⟩:=info_parts fn_info
 obtain ⟨v7,w7,hap,ho7,hg7,-,-⟩:=run_append_own_at (P:=Tryz.prog) (w.alloc (.cells #[.string X,.int .i64 p,.int .i64 q,.slice A m c] 42)) b 30 30 42 i0 _ 4 56 Tryz.underlying30 hi0 hz0 hz1 hz2 rfl (by omega) v n xs (ownsRow_below' ho ((Below.refl _ _).alloc (Nat.le_refl _) _)) ⟨w.heap.size,0,none⟩ 1 1 [.string X,.int .i64 p,.int .i64 q,.slice A m c] rfl (at_made w _ _ (by simp)) (by intro u hu; simp at hu; rcases hu with rfl | rfl | rfl | rfl <;> rfl) (by unfold maxLen; omega) (by omega) (by simp; omega)
 exact ⟨v7,w7,hap,ho7,hg7⟩
end
def bdT (b:Bd):Nat:=b.ps.length+smsN b.st+2
def fnsT (l:List Bd):Nat:=(l.map bdT).sum
def onT (r:Rl) (l:List Bd):Nat:=(l.map fun b=>r.ps.length+bdT b).sum
def rlT (r:Rl):Nat:=onT r r.on+1
def rlsT (l:List Rl):Nat:=(l.map rlT).sum
def totT (g:Pg):Nat:=fnsT g.fns+rlsT g.roles
theorem bd_tot (E:Env) (cs:List Cst) (ts st:Tss) (b:Bd):(bdW E cs ts st b).cs.length≤cs.length+smsN b.st∧(bdW E cs ts st b).ts.length≤ts.length+smsN b.st:=by
 obtain ⟨e1,e2,e3,e4,e5⟩:=lets_sc st ⟨cs,ts,[],0,[]⟩
 obtain ⟨f1,f2,f3,f4,f5⟩:=lets_sc b.ps (lets ⟨cs,ts,[],0,[]⟩ st)
 have h:=smsW_gr E (lets (lets ⟨cs,ts,[],0,[]⟩ st) b.ps) b.st
 have e:(lets (lets ⟨cs,ts,[],0,[]⟩ st) b.ps).sc.length=(st ++ b.ps).length:=by rw [f1,e1]; simp
 rw [e] at h
 have h1:=h.cs
 have h2:=h.ts
 rw [f3,e3] at h1
 rw [f4,e4] at h2
 exact ⟨h1,h2⟩
theorem fn_tot (E:Env) (m:Mk) (b:Bd):(m.fn E b).cs.length+(m.fn E b).ts.length≤m.cs.length+m.ts.length+2*bdT b:=by
 obtain ⟨h1,h2⟩:=bd_tot E m.cs m.ts [] b
 have h3:=(Gr.cst (bdW E m.cs m.ts [] b) ⟨1,0,[]⟩).cs
 have h4:(m.fn E b).cs.length=((bdW E m.cs m.ts [] b).cst ⟨1,0,[]⟩).cs.length:=rfl
 have h5:(m.fn E b).ts.length=(bdW E m.cs m.ts [] b).ts.length:=rfl
 unfold bdT
 omega
def ModV (w:World) (b:Nat) (m:Md) (v:Value):Prop :=
 ∃ vc vt vF vR,v = .agg #[vc,vt,vF,vR]∧w.ownsRow b 116 4 vc m.cs.length (cvs m.cs)∧w.ownsRow b 9 1 vt m.ts.length (tvs m.ts)∧(∃ xs,w.ownsRow b 42 4 vF m.fns.length xs∧FnsX w b m.fns xs)∧(∃ xs,w.ownsRow b 100 3 vR m.roles.length xs∧PrtX w b m.roles xs)
def OutCo (w:World) (g:Pg) (e:Ending) (w':World):Prop :=
 Below w.heap.size w w'∧(((checkF g).1≠0∧e = .returned (.tuple #[.agg #[.slice none 0 0,.slice none 0 0,.slice none 0 0,.slice none 0 0],.agg #[.int .i64 ((checkF g).1:Int),.int .i64 (checkF g).2]])) ∨
   ((checkF g).1=0∧∃ v,e = .returned (.tuple #[v,.agg #[.int .i64 0,.int .i64 0]])∧ModV w' w.heap.size (compG g) v))
def BdOk (b:Bd):Prop:=(∃ c c',smsR 1 b.st c=some c')∧NbSs b.st
end Go.Proofs.YtcmopnkldplngabGreatDoor
namespace Go.Proofs.YtcmopnkldplngabGreatDoor
set_option linter.unusedVariables false
mutual
theorem exR_N:∀ (x:Ex) (d c c':Nat),exR d x c=some c'→exN x+2*c'≤2*c
 | .mk k s n l,d,c,c',h=>by
   rw [exR] at h
   split at h
   · cases h
   · split at h
     · cases h
     · have:=exsR_N l _ _ _ h
       rw [exN]
       split <;> omega
theorem exsR_N:∀ (l:List Ex) (d c c':Nat),exsR d l c=some c'→exsN l+2*c'≤2*c
 | [],d,c,c',h=>by
   rw [exsR] at h
   cases h
   rw [exsN]
   omega
 | x :: r,d,c,c',h=>by
   rw [exsR] at h
   cases hx:exR d x c with
   | none=>rw [hx] at h; cases h
   | some c1 =>
     rw [hx] at h
     have h1:=exR_N x _ _ _ hx
     have h2:=exsR_N r _ _ _ h
     rw [exsN]
     omega
end
mutual
theorem smR_N:∀ (x:Sm) (d c c':Nat),smR d x c=some c'→smN x+2*c'≤2*c
 | .mk k s x b e ln,d,c,c',h=>by
   rw [smR] at h
   split at h
   · cases h
   · split at h
     · cases h
     · cases hx:exsR (d+1) x (c-1) with
       | none=>rw [hx] at h; cases h
       | some c1 =>
         rw [hx] at h
         dsimp only at h
         cases hb:smsR (d+1) b c1 with
         | none=>rw [hb] at h; cases h
         | some c2 =>
           rw [hb] at h
           have h1:=exsR_N x _ _ _ hx
           have h2:=smsR_N b _ _ _ hb
           have h3:=smsR_N e _ _ _ h
           rw [smN]
           split <;> omega
theorem smsR_N:∀ (l:List Sm) (d c c':Nat),smsR d l c=some c'→smsN l+2*c'≤2*c
 | [],d,c,c',h=>by
   rw [smsR] at h
   cases h
   rw [smsN]
   omega
 | x :: r,d,c,c',h=>by
   rw [smsR] at h
   cases hx:smR d x c with
   | none=>rw [hx] at h; cases h
   | some c1 =>
     rw [hx] at h
     have h1:=smR_N x _ _ _ hx
     have h2:=smsR_N r _ _ _ h
     rw [smsN]
     omega
end
theorem headR_ps {s:List Nat} {ps:List (List Nat)} (h:headR s ps=true):ps.length≤30:=by
 unfold headR at h
 simp only [Bool.and_eq_true,decide_eq_true_eq] at h
 exact h.1.2
theorem bodiesR_T:∀ (l:List Bd) (c c':Nat),bodiesR l c=some c'→fnsT l+2*c'≤2*c+32*l.length∧∀ b∈l,b.ps.length≤30∧∃ d d',smsR 1 b.st d=some d'
 | [],c,c',h=>by
   rw [bodiesR] at h
   cases h
   exact ⟨by show 0 + _ ≤ _; omega,by simp⟩
 | x :: r,c,c',h=>by
   rw [bodiesR] at h
   cases hx:bodyR x c with
   | none=>rw [hx] at h; cases h
   | some c1 =>
     rw [hx] at h
     obtain ⟨h2,h3⟩:=bodiesR_T r _ _ h
     unfold bodyR at hx
     split at hx
     · rename_i hh
       have h1:=smsR_N _ _ _ _ hx
       have hp:=headR_ps hh
       have e:fnsT (x :: r)=bdT x+fnsT r:=rfl
       refine ⟨?_,fun b hb=>?_⟩
       · rw [e,List.length_cons]
         unfold bdT
         omega
       · rcases List.mem_cons.1 hb with rfl | hb
         · exact ⟨hp, _, _,hx⟩
         · exact h3 b hb
     · cases hx
theorem onT_fns (r:Rl) (hp:r.ps.length≤30):∀ l:List Bd,onT r l≤fnsT l+30*l.length
 | []=>Nat.le_refl _
 | b :: l=>by
   have h:=onT_fns r hp l
   have e1:onT r (b :: l)=(r.ps.length+bdT b)+onT r l:=rfl
   have e2:fnsT (b :: l)=bdT b+fnsT l:=rfl
   rw [e1,e2,List.length_cons]
   omega
theorem rolesR_T:∀ (l:List Rl) (c c':Nat),rolesR l c=some c'→rlsT l+2*c'≤2*c+3721*l.length∧∀ r∈l,∀ b∈r.on,∃ d d',smsR 1 b.st d=some d'
 | [],c,c',h=>by
   rw [rolesR] at h
   cases h
   exact ⟨by show 0 + _ ≤ _; omega,by simp⟩
 | x :: r,c,c',h=>by
   rw [rolesR] at h
   cases hx:roleR x c with
   | none=>rw [hx] at h; cases h
   | some c1 =>
     rw [hx] at h
     obtain ⟨h2,h3⟩:=rolesR_T r _ _ h
     unfold roleR at hx
     split at hx
     · rename_i hh
       simp only [Bool.and_eq_true,decide_eq_true_eq] at hh
       obtain ⟨h4,h5⟩:=bodiesR_T _ _ _ hx
       have hp:=headR_ps hh.1
       have h6:=onT_fns x hp x.on
       have e:rlsT (x :: r)=(onT x x.on+1)+rlsT r:=rfl
       have hl:=hh.2
       refine ⟨?_,fun q hq=>?_⟩
       · rw [e,List.length_cons]
         omega
       · rcases List.mem_cons.1 hq with rfl | hq
         · exact fun b hb=>(h5 b hb).2
         · exact h3 q hq
     · cases hx
theorem rightP_T {g:Pg} (h:rightP g=true):g.fns.length+g.roles.length≤60∧2*totT g≤500000∧(∀ b∈g.fns,∃ d d',smsR 1 b.st d=some d')∧∀ r∈g.roles,∀ b∈r.on,∃ d d',smsR 1 b.st d=some d':=by
 unfold rightP at h
 split at h
 · cases h
 · rename_i hn
   cases hb:bodiesR g.fns 2000 with
   | none=>rw [hb] at h; cases h
   | some c =>
     rw [hb] at h
     dsimp only at h
     obtain ⟨c',hc⟩:=Option.isSome_iff_exists.1 h
     obtain ⟨h1,h2⟩:=bodiesR_T _ _ _ hb
     obtain ⟨h3,h4⟩:=rolesR_T _ _ _ hc
     refine ⟨by omega,?_,fun b hb=>(h2 b hb).2,h4⟩
     unfold totT
     have hx:3721*g.roles.length≤3721*60:=Nat.mul_le_mul_left _ (by omega)
     omega
end Go.Proofs.YtcmopnkldplngabGreatDoor
namespace Go.Proofs.YtcmopnkldplngabGreatDoor
open Go.RowKit
set_option linter.unusedVariables false
theorem on_tot2 (E:Env) (st:Tss) (m:Mk) (b:Bd):(m.on E st b).cs.length+(m.on E st b).ts.length+(m.on E st b).fns.length≤m.cs.length+m.ts.length+m.fns.length+2*bdT b:=by
 obtain ⟨h1,h2⟩:=bd_tot E m.cs m.ts st b
 have h4:(m.on E st b).cs.length=(bdW E m.cs m.ts st b).cs.length:=rfl
 have h5:(m.on E st b).ts.length=(bdW E m.cs m.ts st b).ts.length:=rfl
 have h6:(m.on E st b).fns.length=m.fns.length+1:=by
   have:(m.on E st b).fns=m.fns ++ [(rlE (bdW E m.cs m.ts st b)).fnc b (st.length+b.ps.length)]:=rfl
   rw [this,List.length_append]
   rfl
 unfold bdT
 omega
structure MdF (b:Nat) (w:World) (gm:Nat) (vF vR:Value) (fns:List Fnc):Prop where
 h:w.heap[gm]?=some (.cells #[.slice none 0 0,.slice none 0 0,vF,vR] 33 (0,0))
 f:∃ xs,w.ownsRow b 42 4 vF fns.length xs∧FnsX w b fns xs
def RlsX (w:World) (b:Nat) (vR:Value) (l:List Prt):Prop:=∃ xs,w.ownsRow b 100 3 vR l.length xs∧PrtX w b l xs
structure PtAt (b:Nat) (w:World) (gp:Nat) (X:ByteArray) (n:Int) (v:Value) (l:List Onn):Prop where
 h:w.heap[gp]?=some (.cells #[.string X,.int .i64 n,v] 100 (0,0))
 o:w.ownsRow b 102 3 v l.length (onVs l)
def KT (w w':World) (Ts:List TypeId):Prop:=∀ (g:Nat) (c:Array Value) (T:TypeId) (fr:Nat × Nat),w.heap[g]?=some (.cells c T fr)→T∈Ts→w'.heap[g]?=w.heap[g]?
section
variable {w w' w'':World} {b base gm gp:Nat} {K:Bk} {E:Env} {cs:List Cst} {ts:Tss} {V:Vs} {vF vR v:Value} {fns:List Fnc} {l:List Onn} {prs:List Prt} {X:ByteArray} {n:Int} {Ts:List TypeId}
theorem KT.refl (w:World) (Ts:List TypeId):KT w w Ts:=fun _ _ _ _ _ _ => rfl
theorem KT.trans (h:KT w w' Ts) (k:KT w' w'' Ts):KT w w'' Ts:=fun g c T fr hc hT=>(k g c T fr ((h g c T fr hc hT).trans hc) hT).trans (h g c T fr hc hT)
theorem KT.of_below (k:Below w.heap.size w w') (Ts:List TypeId):KT w w' Ts:=fun g c T fr hc _ => k.block g (lt_heap hc)
theorem KT.of_kc (hk:Kc base K w w') (hC:CmAt base K E w cs ts V) (h1:112 ∉ Ts) (h2:9 ∉ Ts) (h3:116 ∉ Ts):KT w w' Ts:=fun g c T fr hg hT=>by
 have hq:g≠K.qc:=fun e=>by
   subst e
   rw [hC.h] at hg
   injection hg with hg
   injection hg with _ e3
   exact h1 (e3 ▸ hT)
 have hb1:g≠K.bc:=fun e=>by
   obtain ⟨D,h1,-⟩:=hC.c.own
   obtain ⟨es,cl,h2⟩:=own_map h1
   rw [← e,hg] at h2
   cases h2
 have hb2:g≠K.bt:=fun e=>by
   obtain ⟨D,h1,-⟩:=hC.t.own
   obtain ⟨es,cl,h2⟩:=own_map h1
   rw [← e,hg] at h2
   cases h2
 exact (hk.cells hg hq hb1 hb2 (fun e=>h2 (e ▸ hT)) (fun e=>h3 (e ▸ hT))).trans hg.symm
theorem KT.of_row {sz m:Nat} {T:TypeId} {v:Value} {xs:List Value} (ho:w.ownsRow b T sz v m xs) (hg:w.grownBy w' v.ownBlock) (hT:T ∉ Ts):KT w w' Ts:=fun g c T' fr hc hT' =>
 hg.block g (lt_heap hc) (fun e=>row_ne ho hc (fun c fr e2=>by injection e2 with _ e3; exact hT (e3 ▸ hT')) e.symm)
theorem KT.of_set {g0 i:Nat} {arr:Array Value} {T:TypeId} {fr:Nat × Nat} (hq:w.heap[g0]?=some (.cells arr T fr)) (hT:T ∉ Ts) (v:Value):KT w (w.setCell ⟨g0,i,none⟩ v) Ts:=fun g c T' fr' hc hT'=>Below.heap_setCell _ _ _ _ (fun e=>by
 have e:g=g0:=e
 rw [e,hq] at hc
 injection hc with hc
 injection hc with _ e3
 exact hT (e3 ▸ hT'))
theorem KT.own (h:KT w w' Ts) {sz m:Nat} {T:TypeId} {v:Value} {xs:List Value} (ho:w.ownsRow b T sz v m xs) (hT:T∈Ts):w'.ownsRow b T sz v m xs:=own_same ho fun g hg=>by
 obtain ⟨c,fz,hc⟩:=own_kind ho g hg
 exact h g c T fz hc hT
theorem KT.cells (h:KT w w' Ts) {g:Nat} {c:Array Value} {T:TypeId} {fr:Nat × Nat} (hc:w.heap[g]?=some (.cells c T fr)) (hT:T∈Ts):w'.heap[g]?=some (.cells c T fr):=(h g c T fr hc hT).trans hc
theorem MdF.keep (h:MdF b w gm vF vR fns) (hk:KT w w' Ts) (h1:33∈Ts) (h2:42∈Ts) (h3:45∈Ts):MdF b w' gm vF vR fns:=by
 obtain ⟨xs,ho,hx⟩:=h.f
 exact ⟨hk.cells h.h h1,xs,hk.own ho h2,FnsX.keep (fun g c fr _ hc=>hk g c _ fr hc h3) _ _ hx⟩
theorem RlsX.keep (h:RlsX w b vR prs) (hk:KT w w' Ts) (h1:100∈Ts) (h2:102∈Ts):RlsX w' b vR prs:=by
 obtain ⟨xs,ho,hx⟩:=h
 exact ⟨xs,hk.own ho h1,PrtX.keep (fun g c fr _ hc=>hk g c _ fr hc h2) _ _ hx⟩
theorem PtAt.keep (h:PtAt b w gp X n v l) (hk:KT w w' Ts) (h1:100∈Ts) (h2:102∈Ts):PtAt b w' gp X n v l:=⟨hk.cells h.h h1,hk.own h.o h2⟩
theorem MdF.fn {w6:World} {v' k:Value} {f:Fnc} {xs:List Value} (h:MdF b w gm vF vR fns) (ho:w.ownsRow b 42 4 vF fns.length xs) (hx:FnsX w b fns xs) (hf:w.ownsRow b 45 3 k f.code.length (ivs f.code))
   (ho':w6.ownsRow b 42 4 v' (fns.length+1) (xs ++ [.string (strOf f.name),.int .i64 (f.params:Int),.int .i64 (f.vars:Int),k])) (hg:w.grownBy w6 vF.ownBlock):MdF b (w6.setCell ⟨gm,2,none⟩ v') gm v' vR (fns ++ [f])∧KT w (w6.setCell ⟨gm,2,none⟩ v') [100,102,45,90,87]:=by
 have k1:KT w w6 [100,102,45,33,90,87]:=KT.of_row ho hg (by decide)
 have h6:=k1.cells h.h (by simp)
 have k2:KT w6 (w6.setCell ⟨gm,2,none⟩ v') [100,102,45,90,87]:=KT.of_set h6 (by decide) v'
 have k2':KT w6 (w6.setCell ⟨gm,2,none⟩ v') [42]:=KT.of_set h6 (by decide) v'
 have k1':KT w w6 [100,102,45,90,87]:=fun g c T fr hc hT=>k1 g c T fr hc (by simp at hT ⊢; rcases hT with h | h | h | h | h <;> simp [h])
 have k3:=k1'.trans k2
 refine ⟨⟨by simpa using heap_set h6 2 v', _,?_,FnsX.snoc (k3.own hf (by simp)) _ _ (FnsX.keep (fun g c fr _ hc=>k3 g c _ fr hc (by simp)) _ _ hx)⟩,k3⟩
 rw [List.length_append]
 exact k2'.own ho' (by simp)
theorem PtAt.on {w6:World} {v':Value} {o:Onn} (h:PtAt b w gp X n v l) (ho':w6.ownsRow b 102 3 v' (l.length+1) (onVs l ++ onV o)) (hg:w.grownBy w6 v.ownBlock) :
   PtAt b (w6.setCell ⟨gp,2,none⟩ v') gp X n v' (l ++ [o]):=by
 have k1:KT w w6 [100]:=KT.of_row h.o hg (by decide)
 have h6:=k1.cells h.h (by simp)
 have k2:KT w6 (w6.setCell ⟨gp,2,none⟩ v') [102]:=KT.of_set h6 (by decide) v'
 refine ⟨by simpa using heap_set h6 2 v',?_⟩
 have e:onVs (l ++ [o])=onVs l ++ onV o:=by simp [onVs]
 rw [e,List.length_append]
 exact k2.own ho' (by simp)
end
theorem ons_len (E:Env) (st:Tss):∀ (l:List Bd) (m:Mk),(onsM E st m l).fns.length=m.fns.length+l.length
 | [], _ => rfl
 | b :: r,m=>by
   have h:=ons_len E st r (m.on E st b)
   have e:(m.on E st b).fns.length=m.fns.length+1:=by
     have:(m.on E st b).fns=m.fns ++ [(rlE (bdW E m.cs m.ts st b)).fnc b (st.length+b.ps.length)]:=rfl
     rw [this,List.length_append]
     rfl
   show (onsM E st (m.on E st b) r).fns.length = _
   rw [h,e,List.length_cons]
   omega
theorem onT_len (r:Rl):∀ l:List Bd,l.length≤onT r l
 | []=>Nat.le_refl _
 | b :: l=>by
   have:=onT_len r l
   have e:onT r (b :: l)=(r.ps.length+bdT b)+onT r l:=rfl
   rw [e,List.length_cons]
   unfold bdT
   omega
end Go.Proofs.YtcmopnkldplngabGreatDoor
