/- Texts Cl,Cm,Cl1,Cl2,Cl3,Cn of this seat in one: see each part. -/
import Derived.Deep.LoopGhost
import Derived.Test.YtcmopnkldplngabGreatDoorCfk
import Derived.Test.YtcmopnkldplngabGreatDoorCae
import Derived.Test.YtcmopnkldplngabGreatDoorNx
import Derived.Test.YtcmopnkldplngabGreatDoorZac
namespace Go.Proofs.YtcmopnkldplngabGreatDoor
open Go.RowKit
set_option linter.unusedVariables false
def ExC (base:Nat) (K:Bk) (E:Env) (nm:List Nat) (pr:Nat) (S:Nat→Prop) (x:Ex):Prop:=∀ (w:World) (st:Ws) (v:Value),WrS base K E nm pr w st→Rd w S x.nd v→st.code.length+exN x≤1000000→st.cs.length+exN x≤1000000→st.sc.length≤1000000 →
 Calls Tryz.prog 216 #[at0 K.qw,v] w (OutW base K E nm pr w (exW E st x))
def ExsC (base:Nat) (K:Bk) (E:Env) (nm:List Nat) (pr:Nat) (S:Nat→Prop) (l:List Ex):Prop:=∀ (w:World) (st:Ws) (v:Value),WrS base K E nm pr w st→Rd w S (.row 4 (l.map Ex.nd)) v→st.code.length+exsN l≤1000000→st.cs.length+exsN l≤1000000→st.sc.length≤1000000 →
 Calls Tryz.prog 192 #[at0 K.qw,v] w (OutW base K E nm pr w (exsW E st l))
theorem cst_cs (w:Ws) (c:Cst):(w.cst c).cs.length≤w.cs.length+1:=by
 show (plcL c w.cs).length ≤ _
 unfold plcL
 split
 · omega
 · simp
theorem exO_cs (E:Env) (w:Ws) (k:Nat) (s:List Nat) (n:Int) (kids:Nat):(exO E w k s n kids).cs.length≤w.cs.length+1∧(exO E w k s n kids).sc=w.sc:=by
 unfold exO
 repeat' split
 all_goals first | exact ⟨cst_cs _ _,rfl⟩ | exact ⟨Nat.le_succ _,rfl⟩
mutual
theorem exW_cs (E:Env) (w:Ws):∀ x:Ex,(exW E w x).cs.length≤w.cs.length+exN x∧(exW E w x).sc=w.sc
 | .mk k s n l=>by
   rw [exW,exN]
   split
   · obtain ⟨h1,h2⟩:=skW_cs E (opSkip s) w l
     exact ⟨by omega,h2⟩
   · obtain ⟨h1,h2⟩:=exsW_cs E w l
     obtain ⟨h3,h4⟩:=exO_cs E (exsW E w l) k s n l.length
     exact ⟨by omega,h4.trans h2⟩
theorem exsW_cs (E:Env) (w:Ws):∀ l:List Ex,(exsW E w l).cs.length≤w.cs.length+exsN l∧(exsW E w l).sc=w.sc
 | []=>by rw [exsW,exsN]; exact ⟨by omega,rfl⟩
 | x :: r=>by
   rw [exsW,exsN]
   obtain ⟨h1,h2⟩:=exW_cs E w x
   obtain ⟨h3,h4⟩:=exsW_cs E (exW E w x) r
   exact ⟨by omega,h4.trans h2⟩
theorem skW_cs (E:Env) (o:Nat) (w:Ws):∀ l:List Ex,(skW E o w l).cs.length≤w.cs.length+exsN l∧(skW E o w l).sc=w.sc
 | []=>by rw [skW,exsN]; exact ⟨by omega,rfl⟩
 | x :: r => by
   rw [skW,exsN]
   obtain ⟨h1,h2⟩:=exW_cs E w x
   obtain ⟨h3,h4⟩:=sk2_cs E (exW E w x).code.length ((exW E w x).put o 0 0) r
   exact ⟨by have:((exW E w x).put o 0 0).cs.length=(exW E w x).cs.length:=rfl
             omega,h4.trans h2⟩
theorem sk2_cs (E:Env) (p:Nat) (w:Ws):∀ l:List Ex,(sk2 E p w l).cs.length≤w.cs.length+exsN l∧(sk2 E p w l).sc=w.sc
 | []=>by rw [sk2,exsN]; exact ⟨Nat.le_refl _,rfl⟩
 | x :: r=>by
   rw [sk2,exsN]
   obtain ⟨h1,h2⟩:=exW_cs E w x
   exact ⟨by show (exW E w x).cs.length ≤ _; omega,h2⟩
end
section
variable {base:Nat} {K:Bk} {E:Env} {nm:List Nat} {pr:Nat} {S:Nat→Prop}
theorem Rd.cf {w w':World} (hS:∀ b,S b→b<base) {x:Nd} {v:Value} (h:Rd w S x v) (hk:Below base w w'):Rd w' S x v:=Rd.keep (fun p hp=>hk.cell (hS _ hp)) (fun _ h=>h) _ _ h
theorem Cf.box {w w':World} {k:Nat} {c:Array Value} {T:TypeId} {fr:Nat × Nat} (h:Cf base K w w') (ok:K.Ok base) (hk:w.heap[k]?=some (.cells c T fr)) (hq:K.qw<k) (h5:T≠45) (h6:T≠9) (h7:T≠116):w'.heap[k]?=some (.cells c T fr):=by
 obtain ⟨h1,h2,h3,h4,h5',h6',h7',h8,h9⟩:=ok
 exact h.cells hk (by omega) (by omega) (by omega) (by omega) h5 h6 h7
end
end Go.Proofs.YtcmopnkldplngabGreatDoor
namespace Go.Proofs.YtcmopnkldplngabGreatDoor
open Go.RowKit
set_option linter.unusedVariables false
section
variable {base:Nat} {K:Bk} {E:Env} {nm:List Nat} {pr:Nat} {S:Nat→Prop}
def skipW (E:Env) (st:Ws) (o:Nat) (a b:Ex):Ws:=((exW E ((exW E st a).put o 0 0) b).put 31 0 0).lay (exW E st a).code.length
set_option maxRecDepth 100000 in
set_option maxHeartbeats 4000000 in
theorem skipping_any (hS:∀ b,S b→b<base) (a b:Ex) (IA:ExC base K E nm pr S a) (IB:ExC base K E nm pr S b) (w:World) (st:Ws) (va vb:Value) (o:Nat) (hW:WrS base K E nm pr w st) (ra:Rd w S a.nd va) (rb:Rd w S b.nd vb)
   (hlc:st.code.length+exN a+exN b+2≤1000000) (hlk:st.cs.length+exN a+exN b≤1000000) (hls:st.sc.length≤1000000) :
   Calls Tryz.prog 248 #[at0 K.qw,.int .u8 (o:Int),va,vb] w (OutW base K E nm pr w (skipW E st o a b)):=by
 obtain ⟨ka,sa,na,la⟩:=a
 obtain ⟨kb,sb,nb,lb⟩:=b
 obtain ⟨ya,rfl,ha8,hal,hya⟩:=(Ex.rd ka sa na la va).1 ra
 obtain ⟨yb,rfl,hb8,hbl,hyb⟩:=(Ex.rd kb sb nb lb vb).1 rb
 obtain ⟨A1,n1,c1,rfl⟩:=hya.rowf
 obtain ⟨A2,n2,c2,rfl⟩:=hyb.rowf
 have hq:=hW.lt
 obtain ⟨hqc,hqw,hbw⟩:=hq
 have HOK:=Lib.hid hW.ok
 have HB0:=two w (.cells #[.int .u8 (ka:Int),.string (strOf sa),.int .i64 na,.slice A1 n1 c1] 276) (.cells #[.int .u8 (kb:Int),.string (strOf sb),.int .i64 nb,.slice A2 n2 c2] 276)
 have hWA:=hW.below HB0
 have HC0:=Lib.hid ((Cf.refl base K w).below hbw HB0)
 have HQ:=Lib.hid (heap_new' (w.alloc (.cells #[.int .u8 (ka:Int),.string (strOf sa),.int .i64 na,.slice A1 n1 c1] 276)) (.cells #[.int .u8 (kb:Int),.string (strOf sb),.int .i64 nb,.slice A2 n2 c2] 276) (w.heap.size+1) (by simp))
 have RB:=Lib.hid rb
 obtain ⟨s1,hs1⟩:∃ s1,Hid (exW E st (.mk ka sa na la)=s1):=⟨_,Lib.hid rfl⟩
 have hcs1:=exW_cs E st (.mk ka sa na la)
 have hcl1:=exW_len E st (.mk ka sa na la)
 have HIA:=Lib.hid (IA _ st _ hWA (Rd.cf hS ra HC0.out.b) (by omega) (by omega) hls)
 rw [hs1.out] at HIA hcs1 hcl1
 obtain ⟨s2,hs2⟩:∃ s2,Hid (exW E (s1.put o 0 0) (.mk kb sb nb lb)=s2):=⟨_,Lib.hid rfl⟩
 have hcs2:=exW_cs E (s1.put o 0 0) (.mk kb sb nb lb)
 have hcl2:=exW_len E (s1.put o 0 0) (.mk kb sb nb lb)
 have hp2:=(exW_pre E (s1.put o 0 0) (.mk kb sb nb lb)).1
 have hput:(s1.put o 0 0).code.length=s1.code.length+1:=put_len _ _ _ _
 have hputc:(s1.put o 0 0).cs=s1.cs:=rfl
 have hputs:(s1.put o 0 0).sc=s1.sc:=rfl
 rw [hput] at hcl2 hp2
 rw [hputc] at hcs2
 have HIB:=Lib.hid (fun (w':World) (h:WrS base K E nm pr w' (s1.put o 0 0)) (hk:Below base w w')=>IB w' (s1.put o 0 0) _ h (Rd.cf hS RB.out hk) (by omega) (by rw [hputc]; omega) (by rw [hputs,hcs1.2]; exact hls))
 rw [hs2.out] at HIB hcs2 hcl2 hp2
 have HJ:=Lib.hid (fun (w':World) (h:WrS base K E nm pr w' s1)=>jump_any h o (by omega))
 have HWR:=Lib.hid (fun (w':World) (h:WrS base K E nm pr w' s2)=>write_any h 31 0 0 (by omega))
 have hl2:(s2.put 31 0 0).code.length=s2.code.length+1:=put_len _ _ _ _
 have HL:=Lib.hid (fun (w':World) (g h:Nat) (hw:WrS base K E nm pr w' (s2.put 31 0 0)) (hl:LayAt w' K g h s1.code.length)=>lay_any hw hl (by omega) (by omega))
 have HE:Hid (skipW E st o (.mk ka sa na la) (.mk kb sb nb lb)=(s2.put 31 0 0).lay s1.code.length):=Lib.hid (by unfold skipW; rw [hs1.out,hs2.out])
 rw [HE.out]
 clear hW hWA IA IB ra rb hya hyb ha8 hal hb8 hbl hcs1 hcs2 hS HB0 hs1 hs2 HE
 generalize strOf sa=Xa at *
 generalize strOf sb=Xb at *
 unfold OutJ layF at HJ
 unfold layF at *
 unfold at0 at *
 go_enter Tryz.func248,Tryz.ntmps248
 go_wp2_with (first
   | (go_at_call 216
      refine HIA.out.mono ?_
      rintro e w1 ⟨rfl,hw1,hc1⟩
      have HW1:=Lib.hid hw1
      have HC1:=Lib.hid (HC0.out.trans hc1)
      have HQ1:=Lib.hid (hc1.box HOK.out HQ.out (by omega) (by decide) (by decide) (by decide))
      obtain ⟨d0,d1,d2,d3⟩:=bx4k HQ1.out
      clear HIA hw1 hc1)
   | (go_at_call 195
      refine (HJ.out _ HW1.out).mono ?_
      rintro e w2 ⟨g1,g2,rfl,hl2,hw2,hc2⟩
      have HW2:=Lib.hid hw2
      have HC2:=Lib.hid (HC1.out.trans hc2)
      have HL2:=Lib.hid hl2
      have HQ2:=Lib.hid (hc2.box HOK.out HQ1.out (by omega) (by decide) (by decide) (by decide))
      obtain ⟨e0,e1,e2,e3⟩:=bx4k HQ2.out
      clear hw2 hc2 hl2)
   | (go_at_call 216
      refine (HIB.out _ HW2.out HC2.out.b).mono ?_
      rintro e w3 ⟨rfl,hw3,hc3⟩
      have HW3:=Lib.hid hw3
      have HC3:=Lib.hid (HC2.out.trans hc3)
      have HL3:=Lib.hid (HL2.out.cf hc3 HOK.out)
      clear hw3 hc3)
   | (go_at_call 66
      refine (HWR.out _ HW3.out).mono ?_
      rintro e w4 ⟨rfl,hw4,hc4⟩
      have HW4:=Lib.hid hw4
      have HC4:=Lib.hid (HC3.out.trans hc4)
      have HL4:=Lib.hid (HL3.out.cf hc4 HOK.out)
      clear hw4 hc4)
   | (go_at_call 218
      refine (HL.out _ _ _ HW4.out HL4.out).mono ?_
      rintro e w5 ⟨rfl,hw5,hc5⟩
      have HW5:=Lib.hid hw5
      have HC5:=Lib.hid (HC4.out.trans hc5)
      clear hw5 hc5)
   | (fail))
 go_end0
 exact ⟨rfl,HW5.out,HC5.out⟩
theorem two_kids {w:World} {a b:Ex} {y:Value} (h:Rd w S (.row 4 ([a,b].map Ex.nd)) y):∃ bb o c,y = .slice (some ⟨bb,o,none⟩) 2 c∧S bb∧(∃ k s n A m c,(∀ i u,[Value.int .u8 (k:Int),.string (strOf s),.int .i64 n,.slice A m c][i]?=some u→w.cell? ⟨bb,o+i,none⟩=some u)∧Rd w S a.nd (.agg #[.int .u8 (k:Int),.string (strOf s),.int .i64 n,.slice A m c])) ∧
   (∃ k s n A m c,(∀ i u,[Value.int .u8 (k:Int),.string (strOf s),.int .i64 n,.slice A m c][i]?=some u→w.cell? ⟨bb,o+4+i,none⟩=some u)∧Rd w S b.nd (.agg #[.int .u8 (k:Int),.string (strOf s),.int .i64 n,.slice A m c])):=by
 rw [Rd] at h
 obtain ⟨A,c,rfl,-,-,hr⟩:=h
 obtain ⟨b0,o0,v0,e0,hS0,hl0,hg0,hx0⟩:=hr.at 0 a.nd rfl
 obtain ⟨b1,o1,v1,e1,hS1,hl1,hg1,hx1⟩:=hr.at 1 b.nd rfl
 subst e0
 cases e1
 obtain ⟨ka,sa,na,la⟩:=a
 obtain ⟨kb,sb,nb,lb⟩:=b
 refine ⟨b0,o0,c,rfl,hS0,?_,?_⟩
 · obtain ⟨ya,ea,-,-,hya⟩:=(Ex.rd ka sa na la _).1 hx0
   obtain ⟨A1,n1,c1,rfl⟩:=hya.rowf
   have hv:v0=[.int .u8 (ka:Int),.string (strOf sa),.int .i64 na,.slice A1 n1 c1]:=by
     injection ea with ea
     have:=congrArg Array.toList ea
     simpa using this
   subst hv
   exact ⟨ka,sa,na,A1,n1,c1,fun i u hu=>by have:=hg0 i u hu; rwa [show o0+(0+0)*4+i=o0+i by omega] at this,hx0⟩
 · obtain ⟨ya,ea,-,-,hya⟩:=(Ex.rd kb sb nb lb _).1 hx1
   obtain ⟨A1,n1,c1,rfl⟩:=hya.rowf
   have hv:v1=[.int .u8 (kb:Int),.string (strOf sb),.int .i64 nb,.slice A1 n1 c1]:=by
     injection ea with ea
     have:=congrArg Array.toList ea
     simpa using this
   subst hv
   exact ⟨kb,sb,nb,A1,n1,c1,fun i u hu=>by have:=hg1 i u hu; rwa [show o0+(0+1)*4+i=o0+4+i by omega] at this,hx1⟩
set_option maxRecDepth 100000 in
set_option maxHeartbeats 8000000 in
theorem ex_skip (hS:∀ b,S b→b<base) (s:List Nat) (n:Int) (a b:Ex) (hs:opSkip s≠0) (IA:ExC base K E nm pr S a) (IB:ExC base K E nm pr S b):ExC base K E nm pr S (.mk 7 s n [a,b]):=by
 intro w st v hW hr hlc hlk hls
 have e1:exsN [a,b]=exN a+exN b:=by rw [exsN,exsN,exsN]; omega
 rw [exN,if_pos ⟨rfl,hs⟩,e1] at hlc hlk
 obtain ⟨y,rfl,h8,hl8,hy⟩:=(Ex.rd 7 s n [a,b] v).1 hr
 obtain ⟨bb,o,c1,rfl,hSb,⟨ka,sa,na,A2,m2,c2,ha,ra⟩,⟨kb,sb,nb,A3,m3,c3,hb,rb⟩⟩:=two_kids hy
 have hq:=hW.lt
 obtain ⟨hqc,hqw,hbw⟩:=hq
 have HOK:=Lib.hid hW.ok
 have hbb:=hS bb hSb
 have hbl:bb<w.heap.size:=by omega
 have x0:w.cell? ⟨bb,o,none⟩=some (.int .u8 (ka:Int)):=ha 0 _ rfl
 have x1:w.cell? ⟨bb,o+1,none⟩=some (.string (strOf sa)):=ha 1 _ rfl
 have x2:w.cell? ⟨bb,o+2,none⟩=some (.int .i64 na):=ha 2 _ rfl
 have x3:w.cell? ⟨bb,o+3,none⟩=some (.slice A2 m2 c2):=ha 3 _ rfl
 have z0:w.cell? ⟨bb,o+4,none⟩=some (.int .u8 (kb:Int)):=hb 0 _ rfl
 have z1:w.cell? ⟨bb,o+4+1,none⟩=some (.string (strOf sb)):=hb 1 _ rfl
 have z2:w.cell? ⟨bb,o+4+2,none⟩=some (.int .i64 nb):=hb 2 _ rfl
 have z3:w.cell? ⟨bb,o+4+3,none⟩=some (.slice A3 m3 c3):=hb 3 _ rfl
 have hWA:=(hW.alloc (.cells #[.int .u8 7,.string (strOf s),.int .i64 n,.slice (some ⟨bb,o,none⟩) 2 c1] 276)).drew
 have HC0:=Lib.hid (((Cf.refl base K w).alloc hbw (.cells #[.int .u8 7,.string (strOf s),.int .i64 n,.slice (some ⟨bb,o,none⟩) 2 c1] 276)).drew)
 have hQ:(w.alloc (.cells #[.int .u8 7,.string (strOf s),.int .i64 n,.slice (some ⟨bb,o,none⟩) 2 c1] 276)).drew.heap[w.heap.size]?=some (.cells #[.int .u8 7,.string (strOf s),.int .i64 n,.slice (some ⟨bb,o,none⟩) 2 c1] 276 (0,0)):=heap_new w _
 have HQ:=Lib.hid hQ
 have HSK:=Lib.hid (skipping_any hS a b IA IB _ st _ _ (opSkip s) (hWA.drew) (Rd.cf hS ra HC0.out.drew.b) (Rd.cf hS rb HC0.out.drew.b) (by omega) (by omega) hls)
 obtain ⟨V,hV⟩:=hWA
 obtain ⟨V0,hV0⟩:=hW
 obtain ⟨⟨a0,-⟩,-⟩:=bx6 hV0.h
 obtain ⟨⟨p0,p1,p2,p3,p4,-⟩,-⟩:=bx9 hV0.cm.h
 have hlk1:=(hV.cm.o3.look s ⟨h8,hl8⟩ opSkip_lt).2
 rw [decide_eq_true hs] at hlk1
 obtain ⟨zk,hzk⟩:∃ z:Int,(opSkip s:Int)=z:=⟨_,rfl⟩
 rw [hzk] at hlk1 HSK
 obtain ⟨R,hR⟩:∃ R,Hid (exW E st (.mk 7 s n [a,b])=R):=⟨_,Lib.hid rfl⟩
 have HE:Hid (skipW E st (opSkip s) a b=R):=Lib.hid (by
   rw [← hR.out,exW,if_pos ⟨rfl,hs⟩,skW,sk2]
   rfl)
 rw [HE.out] at HSK
 rw [hR.out]
 have hix0:(0:Int)<2:=by omega
 clear hV hV0 hr hy h8 hl8 hs hS IA IB ha hb ra rb hzk hR HE hQ
 generalize strOf s=X at *
 generalize strOf sa=Xa at *
 generalize strOf sb=Xb at *
 unfold at0 at *
 go_enter Tryz.func216,Tryz.ntmps216
 go_upto_region 1 with fail
 go_region
 go_upto_region 3 with fail
 obtain ⟨b0,b1,b2,b3⟩:=bx4k HQ.out
 go_region_held3 (fun w'=>w'.cell? ⟨w.heap.size,3,none⟩=some (.slice (some ⟨bb,o,none⟩) 2 c1)∧(w'.cell? ⟨bb,o,none⟩=some (.int .u8 (ka:Int))∧w'.cell? ⟨bb,o+1,none⟩=some (.string Xa)∧w'.cell? ⟨bb,o+2,none⟩=some (.int .i64 na)∧w'.cell? ⟨bb,o+3,none⟩=some (.slice A2 m2 c2)) ∧
     (w'.cell? ⟨bb,o+4,none⟩=some (.int .u8 (kb:Int))∧w'.cell? ⟨bb,o+4+1,none⟩=some (.string Xb)∧w'.cell? ⟨bb,o+4+2,none⟩=some (.int .i64 nb)∧w'.cell? ⟨bb,o+4+3,none⟩=some (.slice A3 m3 c3))) (go_keep)
   (first
     | (go_at_call 248
        refine HSK.out.mono ?_
        rintro e w2 ⟨rfl,hw2,hc2⟩
        have HW2:=Lib.hid hw2
        have HC2:=Lib.hid (HC0.out.drew.trans hc2)
        obtain ⟨t0,t1,t2,t3⟩:=bx4k (hc2.box HOK.out HQ.out hqw (by decide) (by decide) (by decide))
        have q0:=(HC2.out.b.cell (p:=⟨bb,o,none⟩) hbb).trans x0
        have q1:=(HC2.out.b.cell (p:=⟨bb,o+1,none⟩) hbb).trans x1
        have q2:=(HC2.out.b.cell (p:=⟨bb,o+2,none⟩) hbb).trans x2
        have q3:=(HC2.out.b.cell (p:=⟨bb,o+3,none⟩) hbb).trans x3
        have r0:=(HC2.out.b.cell (p:=⟨bb,o+4,none⟩) hbb).trans z0
        have r1:=(HC2.out.b.cell (p:=⟨bb,o+4+1,none⟩) hbb).trans z1
        have r2:=(HC2.out.b.cell (p:=⟨bb,o+4+2,none⟩) hbb).trans z2
        have r3:=(HC2.out.b.cell (p:=⟨bb,o+4+3,none⟩) hbb).trans z3
        clear hw2 hc2)
     | (fail))
 go_wp2_with fail
 go_end0
 exact ⟨rfl,HW2.out,HC2.out⟩
end
end Go.Proofs.YtcmopnkldplngabGreatDoor
namespace Go.Proofs.YtcmopnkldplngabGreatDoor
open Go.RowKit
set_option linter.unusedVariables false
section
variable {base:Nat} {K:Bk} {E:Env} {nm:List Nat} {pr:Nat} {S:Nat→Prop}
set_option maxRecDepth 100000 in
set_option maxHeartbeats 8000000 in
theorem ex_int (hS:∀ b,S b→b<base) (s:List Nat) (n:Int) (l:List Ex) (IH:ExsC base K E nm pr S l) (hn0 : -9223372036854775808≤n) (hn:n≤9223372036854775807):ExC base K E nm pr S (.mk 1 s n l):=by
 intro w st v hW hr hlc hlk hls
 rw [exN] at hlc hlk
 obtain ⟨y,rfl,h8,hl8,hy⟩:=(Ex.rd 1 s n l v).1 hr
 have hy':=hy
 rw [Rd] at hy'
 obtain ⟨A1,c1,rfl,hc1,hcm1,-⟩:=hy'
 rw [List.length_map] at hc1 hy ⊢
 have hq:=hW.lt
 obtain ⟨hqc,hqw,hbw⟩:=hq
 have HOK:=Lib.hid hW.ok
 have hWA:=(hW.alloc (.cells #[.int .u8 1,.string (strOf s),.int .i64 n,.slice A1 l.length c1] 276)).drew
 have HC0:=Lib.hid (((Cf.refl base K w).alloc hbw (.cells #[.int .u8 1,.string (strOf s),.int .i64 n,.slice A1 l.length c1] 276)).drew)
 have hQ:(w.alloc (.cells #[.int .u8 1,.string (strOf s),.int .i64 n,.slice A1 l.length c1] 276)).drew.heap[w.heap.size]?=some (.cells #[.int .u8 1,.string (strOf s),.int .i64 n,.slice A1 l.length c1] 276 (0,0)):=heap_new w _
 have HQ:=Lib.hid hQ
 have hcs:=exsW_cs E st l
 have hcl:=exsW_len E st l
 have HIH:=Lib.hid (IH _ st _ hWA (Rd.cf hS hy HC0.out.b) (by omega) (by omega) hls)
 obtain ⟨V,hV⟩:=hWA
 obtain ⟨V0,hV0⟩:=hW
 obtain ⟨⟨a0,-⟩,-⟩:=bx6 hV0.h
 obtain ⟨⟨p0,p1,p2,p3,p4,-⟩,-⟩:=bx9 hV0.cm.h
 have hlk1:=(hV.cm.o3.look s ⟨h8,hl8⟩ opSkip_lt).2
 obtain ⟨zk,hzk⟩:∃ z:Int,(opSkip s:Int)=z:=⟨_,rfl⟩
 obtain ⟨bk,hbk⟩:∃ z:Bool,decide (opSkip s≠0)=z:=⟨_,rfl⟩
 rw [hzk,hbk] at hlk1
 have HNM:Hid (NmOk s):=Lib.hid ⟨h8,hl8⟩
 obtain ⟨R,hR⟩:∃ R,Hid (exW E st (.mk 1 s n l)=R):=⟨_,Lib.hid rfl⟩
 obtain ⟨s1,hs1⟩:∃ s1,Hid (exsW E st l=s1):=⟨_,Lib.hid rfl⟩
 have HE:Hid (R=s1.cst ⟨1,n,[]⟩):=Lib.hid (by
   rw [← hR.out,exW,if_neg (by rintro ⟨h,-⟩; omega),← hs1.out]
   rfl)
 rw [hs1.out] at HIH hcs hcl
 rw [hR.out]
 obtain ⟨X,hX⟩:∃ X,Hid (strOf s=X):=⟨_,Lib.hid rfl⟩
 obtain ⟨ln,hln⟩:∃ ln,Hid (l.length=ln):=⟨_,Lib.hid rfl⟩
 have hcs2:=hcs.2
 have hcs1:=hcs.1
 have HCO:=Lib.hid (fun (w':World) (h:WrS base K E nm pr w' s1)=>show Calls Tryz.prog 65 #[at0 K.qw,.agg #[.int .u8 1,.int .i64 n,.string ⟨#[]⟩,.slice none 0 0]] w' (OutW base K E nm pr w' (s1.cst ⟨1,n,[]⟩)) from constant_any h ⟨1,n,[]⟩ ⟨by show (1:Nat)<256; omega,hn0,hn,by simp,by simp⟩ (by omega) (by omega))
 try rw [hX.out] at hlk1
 try rw [hln.out] at hlk1
 try rw [hX.out] at HIH
 try rw [hln.out] at HIH
 try rw [hX.out] at HQ
 try rw [hln.out] at HQ
 try rw [hX.out] at HC0
 try rw [hln.out] at HC0
 try rw [hX.out] at hc1
 try rw [hln.out] at hc1
 try rw [hX.out] at HCO
 try rw [hln.out] at HCO
 try rw [hX.out] at HVA
 try rw [hln.out] at HVA
 try rw [hX.out] at HOF
 try rw [hln.out] at HOF
 try rw [hX.out] at HWR
 try rw [hln.out] at HWR
 try rw [hX.out] at HE
 try rw [hln.out] at HE
 try rw [hX.out]
 try rw [hln.out]
 clear hV0 hV hQ hr hy h8 hl8 hzk IH hS hR hs1 hcs
 unfold at0 at *
 cases bk
 all_goals
   go_enter Tryz.func216,Tryz.ntmps216
   go_upto_region 1 with fail
   go_region
   go_wp2_with (first
     | (go_at_call 192
        refine HIH.out.mono ?_
        rintro e w1 ⟨rfl,hw1,hc1⟩
        have HW1:=Lib.hid hw1
        have HC1:=Lib.hid (HC0.out.trans hc1)
        have HQ1:=Lib.hid (hc1.box HOK.out HQ.out hqw (by decide) (by decide) (by decide))
        obtain ⟨d0,d1,d2,d3⟩:=bx4k HQ1.out
        clear hw1 hc1)
     | (go_at_call 65
        refine (HCO.out _ HW1.out).mono ?_
        rintro e w2 ⟨rfl,hw2,hc2⟩
        have HW2:=Lib.hid hw2
        have HC2:=Lib.hid (HC1.out.trans hc2)
        clear hw2 hc2)
     | (fail))
   go_end0
   exact ⟨rfl,by rw [HE.out]; exact HW2.out,HC2.out⟩
set_option maxRecDepth 100000 in
set_option maxHeartbeats 8000000 in
theorem ex_truth (hS:∀ b,S b→b<base) (s:List Nat) (n:Int) (l:List Ex) (IH:ExsC base K E nm pr S l) (hn0 : -9223372036854775808≤n) (hn:n≤9223372036854775807):ExC base K E nm pr S (.mk 2 s n l):=by
 intro w st v hW hr hlc hlk hls
 rw [exN] at hlc hlk
 obtain ⟨y,rfl,h8,hl8,hy⟩:=(Ex.rd 2 s n l v).1 hr
 have hy':=hy
 rw [Rd] at hy'
 obtain ⟨A1,c1,rfl,hc1,hcm1,-⟩:=hy'
 rw [List.length_map] at hc1 hy ⊢
 have hq:=hW.lt
 obtain ⟨hqc,hqw,hbw⟩:=hq
 have HOK:=Lib.hid hW.ok
 have hWA:=(hW.alloc (.cells #[.int .u8 2,.string (strOf s),.int .i64 n,.slice A1 l.length c1] 276)).drew
 have HC0:=Lib.hid (((Cf.refl base K w).alloc hbw (.cells #[.int .u8 2,.string (strOf s),.int .i64 n,.slice A1 l.length c1] 276)).drew)
 have hQ:(w.alloc (.cells #[.int .u8 2,.string (strOf s),.int .i64 n,.slice A1 l.length c1] 276)).drew.heap[w.heap.size]?=some (.cells #[.int .u8 2,.string (strOf s),.int .i64 n,.slice A1 l.length c1] 276 (0,0)):=heap_new w _
 have HQ:=Lib.hid hQ
 have hcs:=exsW_cs E st l
 have hcl:=exsW_len E st l
 have HIH:=Lib.hid (IH _ st _ hWA (Rd.cf hS hy HC0.out.b) (by omega) (by omega) hls)
 obtain ⟨V,hV⟩:=hWA
 obtain ⟨V0,hV0⟩:=hW
 obtain ⟨⟨a0,-⟩,-⟩:=bx6 hV0.h
 obtain ⟨⟨p0,p1,p2,p3,p4,-⟩,-⟩:=bx9 hV0.cm.h
 have hlk1:=(hV.cm.o3.look s ⟨h8,hl8⟩ opSkip_lt).2
 obtain ⟨zk,hzk⟩:∃ z:Int,(opSkip s:Int)=z:=⟨_,rfl⟩
 obtain ⟨bk,hbk⟩:∃ z:Bool,decide (opSkip s≠0)=z:=⟨_,rfl⟩
 rw [hzk,hbk] at hlk1
 have HNM:Hid (NmOk s):=Lib.hid ⟨h8,hl8⟩
 obtain ⟨R,hR⟩:∃ R,Hid (exW E st (.mk 2 s n l)=R):=⟨_,Lib.hid rfl⟩
 obtain ⟨s1,hs1⟩:∃ s1,Hid (exsW E st l=s1):=⟨_,Lib.hid rfl⟩
 have HE:Hid (R=s1.cst ⟨2,n,[]⟩):=Lib.hid (by
   rw [← hR.out,exW,if_neg (by rintro ⟨h,-⟩; omega),← hs1.out]
   rfl)
 rw [hs1.out] at HIH hcs hcl
 rw [hR.out]
 obtain ⟨X,hX⟩:∃ X,Hid (strOf s=X):=⟨_,Lib.hid rfl⟩
 obtain ⟨ln,hln⟩:∃ ln,Hid (l.length=ln):=⟨_,Lib.hid rfl⟩
 have hcs2:=hcs.2
 have hcs1:=hcs.1
 have HCO:=Lib.hid (fun (w':World) (h:WrS base K E nm pr w' s1)=>show Calls Tryz.prog 65 #[at0 K.qw,.agg #[.int .u8 2,.int .i64 n,.string ⟨#[]⟩,.slice none 0 0]] w' (OutW base K E nm pr w' (s1.cst ⟨2,n,[]⟩)) from constant_any h ⟨2,n,[]⟩ ⟨by show (2:Nat)<256; omega,hn0,hn,by simp,by simp⟩ (by omega) (by omega))
 try rw [hX.out] at hlk1
 try rw [hln.out] at hlk1
 try rw [hX.out] at HIH
 try rw [hln.out] at HIH
 try rw [hX.out] at HQ
 try rw [hln.out] at HQ
 try rw [hX.out] at HC0
 try rw [hln.out] at HC0
 try rw [hX.out] at hc1
 try rw [hln.out] at hc1
 try rw [hX.out] at HCO
 try rw [hln.out] at HCO
 try rw [hX.out] at HVA
 try rw [hln.out] at HVA
 try rw [hX.out] at HOF
 try rw [hln.out] at HOF
 try rw [hX.out] at HWR
 try rw [hln.out] at HWR
 try rw [hX.out] at HE
 try rw [hln.out] at HE
 try rw [hX.out]
 try rw [hln.out]
 clear hV0 hV hQ hr hy h8 hl8 hzk IH hS hR hs1 hcs
 unfold at0 at *
 cases bk
 all_goals
   go_enter Tryz.func216,Tryz.ntmps216
   go_upto_region 1 with fail
   go_region
   go_wp2_with (first
     | (go_at_call 192
        refine HIH.out.mono ?_
        rintro e w1 ⟨rfl,hw1,hc1⟩
        have HW1:=Lib.hid hw1
        have HC1:=Lib.hid (HC0.out.trans hc1)
        have HQ1:=Lib.hid (hc1.box HOK.out HQ.out hqw (by decide) (by decide) (by decide))
        obtain ⟨d0,d1,d2,d3⟩:=bx4k HQ1.out
        clear hw1 hc1)
     | (go_at_call 65
        refine (HCO.out _ HW1.out).mono ?_
        rintro e w2 ⟨rfl,hw2,hc2⟩
        have HW2:=Lib.hid hw2
        have HC2:=Lib.hid (HC1.out.trans hc2)
        clear hw2 hc2)
     | (fail))
   go_end0
   exact ⟨rfl,by rw [HE.out]; exact HW2.out,HC2.out⟩
set_option maxRecDepth 100000 in
set_option maxHeartbeats 8000000 in
theorem ex_text (hS:∀ b,S b→b<base) (s:List Nat) (n:Int) (l:List Ex) (IH:ExsC base K E nm pr S l):ExC base K E nm pr S (.mk 3 s n l):=by
 intro w st v hW hr hlc hlk hls
 rw [exN] at hlc hlk
 obtain ⟨y,rfl,h8,hl8,hy⟩:=(Ex.rd 3 s n l v).1 hr
 have hy':=hy
 rw [Rd] at hy'
 obtain ⟨A1,c1,rfl,hc1,hcm1,-⟩:=hy'
 rw [List.length_map] at hc1 hy ⊢
 have hq:=hW.lt
 obtain ⟨hqc,hqw,hbw⟩:=hq
 have HOK:=Lib.hid hW.ok
 have hWA:=(hW.alloc (.cells #[.int .u8 3,.string (strOf s),.int .i64 n,.slice A1 l.length c1] 276)).drew
 have HC0:=Lib.hid (((Cf.refl base K w).alloc hbw (.cells #[.int .u8 3,.string (strOf s),.int .i64 n,.slice A1 l.length c1] 276)).drew)
 have hQ:(w.alloc (.cells #[.int .u8 3,.string (strOf s),.int .i64 n,.slice A1 l.length c1] 276)).drew.heap[w.heap.size]?=some (.cells #[.int .u8 3,.string (strOf s),.int .i64 n,.slice A1 l.length c1] 276 (0,0)):=heap_new w _
 have HQ:=Lib.hid hQ
 have hcs:=exsW_cs E st l
 have hcl:=exsW_len E st l
 have HIH:=Lib.hid (IH _ st _ hWA (Rd.cf hS hy HC0.out.b) (by omega) (by omega) hls)
 obtain ⟨V,hV⟩:=hWA
 obtain ⟨V0,hV0⟩:=hW
 obtain ⟨⟨a0,-⟩,-⟩:=bx6 hV0.h
 obtain ⟨⟨p0,p1,p2,p3,p4,-⟩,-⟩:=bx9 hV0.cm.h
 have hlk1:=(hV.cm.o3.look s ⟨h8,hl8⟩ opSkip_lt).2
 obtain ⟨zk,hzk⟩:∃ z:Int,(opSkip s:Int)=z:=⟨_,rfl⟩
 obtain ⟨bk,hbk⟩:∃ z:Bool,decide (opSkip s≠0)=z:=⟨_,rfl⟩
 rw [hzk,hbk] at hlk1
 have HNM:Hid (NmOk s):=Lib.hid ⟨h8,hl8⟩
 obtain ⟨R,hR⟩:∃ R,Hid (exW E st (.mk 3 s n l)=R):=⟨_,Lib.hid rfl⟩
 obtain ⟨s1,hs1⟩:∃ s1,Hid (exsW E st l=s1):=⟨_,Lib.hid rfl⟩
 have HE:Hid (R=s1.cst ⟨3,0,s⟩):=Lib.hid (by
   rw [← hR.out,exW,if_neg (by rintro ⟨h,-⟩; omega),← hs1.out]
   rfl)
 rw [hs1.out] at HIH hcs hcl
 rw [hR.out]
 obtain ⟨X,hX⟩:∃ X,Hid (strOf s=X):=⟨_,Lib.hid rfl⟩
 obtain ⟨ln,hln⟩:∃ ln,Hid (l.length=ln):=⟨_,Lib.hid rfl⟩
 have hcs2:=hcs.2
 have hcs1:=hcs.1
 have HCO:=Lib.hid (fun (w':World) (h:WrS base K E nm pr w' s1)=>show Calls Tryz.prog 65 #[at0 K.qw,.agg #[.int .u8 3,.int .i64 0,.string (strOf s),.slice none 0 0]] w' (OutW base K E nm pr w' (s1.cst ⟨3,0,s⟩)) from constant_any h ⟨3,0,s⟩ ⟨by show (3:Nat)<256; omega,by show (-9223372036854775808:Int)≤0; omega,by show (0:Int)≤9223372036854775807; omega,HNM.out.1,HNM.out.2⟩ (by omega) (by omega))
 try rw [hX.out] at hlk1
 try rw [hln.out] at hlk1
 try rw [hX.out] at HIH
 try rw [hln.out] at HIH
 try rw [hX.out] at HQ
 try rw [hln.out] at HQ
 try rw [hX.out] at HC0
 try rw [hln.out] at HC0
 try rw [hX.out] at hc1
 try rw [hln.out] at hc1
 try rw [hX.out] at HCO
 try rw [hln.out] at HCO
 try rw [hX.out] at HVA
 try rw [hln.out] at HVA
 try rw [hX.out] at HOF
 try rw [hln.out] at HOF
 try rw [hX.out] at HWR
 try rw [hln.out] at HWR
 try rw [hX.out] at HE
 try rw [hln.out] at HE
 try rw [hX.out]
 try rw [hln.out]
 clear hV0 hV hQ hr hy h8 hl8 hzk IH hS hR hs1 hcs
 unfold at0 at *
 cases bk
 all_goals
   go_enter Tryz.func216,Tryz.ntmps216
   go_upto_region 1 with fail
   go_region
   go_wp2_with (first
     | (go_at_call 192
        refine HIH.out.mono ?_
        rintro e w1 ⟨rfl,hw1,hc1⟩
        have HW1:=Lib.hid hw1
        have HC1:=Lib.hid (HC0.out.trans hc1)
        have HQ1:=Lib.hid (hc1.box HOK.out HQ.out hqw (by decide) (by decide) (by decide))
        obtain ⟨d0,d1,d2,d3⟩:=bx4k HQ1.out
        clear hw1 hc1)
     | (go_at_call 65
        refine (HCO.out _ HW1.out).mono ?_
        rintro e w2 ⟨rfl,hw2,hc2⟩
        have HW2:=Lib.hid hw2
        have HC2:=Lib.hid (HC1.out.trans hc2)
        clear hw2 hc2)
     | (fail))
   go_end0
   exact ⟨rfl,by rw [HE.out]; exact HW2.out,HC2.out⟩
set_option maxRecDepth 100000 in
set_option maxHeartbeats 8000000 in
theorem ex_name (hS:∀ b,S b→b<base) (s:List Nat) (n:Int) (l:List Ex) (IH:ExsC base K E nm pr S l):ExC base K E nm pr S (.mk 4 s n l):=by
 intro w st v hW hr hlc hlk hls
 rw [exN] at hlc hlk
 obtain ⟨y,rfl,h8,hl8,hy⟩:=(Ex.rd 4 s n l v).1 hr
 have hy':=hy
 rw [Rd] at hy'
 obtain ⟨A1,c1,rfl,hc1,hcm1,-⟩:=hy'
 rw [List.length_map] at hc1 hy ⊢
 have hq:=hW.lt
 obtain ⟨hqc,hqw,hbw⟩:=hq
 have HOK:=Lib.hid hW.ok
 have hWA:=(hW.alloc (.cells #[.int .u8 4,.string (strOf s),.int .i64 n,.slice A1 l.length c1] 276)).drew
 have HC0:=Lib.hid (((Cf.refl base K w).alloc hbw (.cells #[.int .u8 4,.string (strOf s),.int .i64 n,.slice A1 l.length c1] 276)).drew)
 have hQ:(w.alloc (.cells #[.int .u8 4,.string (strOf s),.int .i64 n,.slice A1 l.length c1] 276)).drew.heap[w.heap.size]?=some (.cells #[.int .u8 4,.string (strOf s),.int .i64 n,.slice A1 l.length c1] 276 (0,0)):=heap_new w _
 have HQ:=Lib.hid hQ
 have hcs:=exsW_cs E st l
 have hcl:=exsW_len E st l
 have HIH:=Lib.hid (IH _ st _ hWA (Rd.cf hS hy HC0.out.b) (by omega) (by omega) hls)
 obtain ⟨V,hV⟩:=hWA
 obtain ⟨V0,hV0⟩:=hW
 obtain ⟨⟨a0,-⟩,-⟩:=bx6 hV0.h
 obtain ⟨⟨p0,p1,p2,p3,p4,-⟩,-⟩:=bx9 hV0.cm.h
 have hlk1:=(hV.cm.o3.look s ⟨h8,hl8⟩ opSkip_lt).2
 obtain ⟨zk,hzk⟩:∃ z:Int,(opSkip s:Int)=z:=⟨_,rfl⟩
 obtain ⟨bk,hbk⟩:∃ z:Bool,decide (opSkip s≠0)=z:=⟨_,rfl⟩
 rw [hzk,hbk] at hlk1
 have HNM:Hid (NmOk s):=Lib.hid ⟨h8,hl8⟩
 obtain ⟨R,hR⟩:∃ R,Hid (exW E st (.mk 4 s n l)=R):=⟨_,Lib.hid rfl⟩
 obtain ⟨s1,hs1⟩:∃ s1,Hid (exsW E st l=s1):=⟨_,Lib.hid rfl⟩
 have HE:Hid (R=s1.put 2 (idxI s s1.sc) 0):=Lib.hid (by
   rw [← hR.out,exW,if_neg (by rintro ⟨h,-⟩; omega),← hs1.out]
   rfl)
 rw [hs1.out] at HIH hcs hcl
 rw [hR.out]
 obtain ⟨X,hX⟩:∃ X,Hid (strOf s=X):=⟨_,Lib.hid rfl⟩
 obtain ⟨ln,hln⟩:∃ ln,Hid (l.length=ln):=⟨_,Lib.hid rfl⟩
 have hcs2:=hcs.2
 have hcs1:=hcs.1
 have HVA:=Lib.hid (fun (w':World) (h:WrS base K E nm pr w' s1)=>variable_any h s HNM.out (by rw [hcs2]; exact hls))
 obtain ⟨iv,hiv⟩:∃ iv,Hid (idxI s s1.sc=iv):=⟨_,Lib.hid rfl⟩
 rw [hiv.out] at HVA HE
 have HWR:=Lib.hid (fun (w':World) (h:WrS base K E nm pr w' s1)=>show Calls Tryz.prog 66 #[at0 K.qw,.int .u8 2,.int .i64 iv,.int .i64 0] w' (OutW base K E nm pr w' (s1.put 2 iv 0)) from write_any h 2 iv 0 (by omega))
 try rw [hX.out] at hlk1
 try rw [hln.out] at hlk1
 try rw [hX.out] at HIH
 try rw [hln.out] at HIH
 try rw [hX.out] at HQ
 try rw [hln.out] at HQ
 try rw [hX.out] at HC0
 try rw [hln.out] at HC0
 try rw [hX.out] at hc1
 try rw [hln.out] at hc1
 try rw [hX.out] at HCO
 try rw [hln.out] at HCO
 try rw [hX.out] at HVA
 try rw [hln.out] at HVA
 try rw [hX.out] at HOF
 try rw [hln.out] at HOF
 try rw [hX.out] at HWR
 try rw [hln.out] at HWR
 try rw [hX.out] at HE
 try rw [hln.out] at HE
 try rw [hX.out]
 try rw [hln.out]
 clear hV0 hV hQ hr hy h8 hl8 hzk IH hS hR hs1 hcs
 unfold at0 at *
 cases bk
 all_goals
   go_enter Tryz.func216,Tryz.ntmps216
   go_upto_region 1 with fail
   go_region
   go_wp2_with (first
     | (go_at_call 192
        refine HIH.out.mono ?_
        rintro e w1 ⟨rfl,hw1,hc1⟩
        have HW1:=Lib.hid hw1
        have HC1:=Lib.hid (HC0.out.trans hc1)
        have HQ1:=Lib.hid (hc1.box HOK.out HQ.out hqw (by decide) (by decide) (by decide))
        obtain ⟨d0,d1,d2,d3⟩:=bx4k HQ1.out
        clear hw1 hc1)
     | (go_at_call 193
        refine (HVA.out _ HW1.out).mono ?_
        rintro e w1 ⟨rfl,rfl⟩)
     | (go_at_call 66
        refine (HWR.out _ HW1.out).mono ?_
        rintro e w2 ⟨rfl,hw2,hc2⟩
        have HW2:=Lib.hid hw2
        have HC2:=Lib.hid (HC1.out.trans hc2)
        clear hw2 hc2)
     | (fail))
   go_end0
   exact ⟨rfl,by rw [HE.out]; exact HW2.out,HC2.out⟩
set_option maxRecDepth 100000 in
set_option maxHeartbeats 8000000 in
theorem ex_self (hS:∀ b,S b→b<base) (s:List Nat) (n:Int) (l:List Ex) (IH:ExsC base K E nm pr S l):ExC base K E nm pr S (.mk 5 s n l):=by
 intro w st v hW hr hlc hlk hls
 rw [exN] at hlc hlk
 obtain ⟨y,rfl,h8,hl8,hy⟩:=(Ex.rd 5 s n l v).1 hr
 have hy':=hy
 rw [Rd] at hy'
 obtain ⟨A1,c1,rfl,hc1,hcm1,-⟩:=hy'
 rw [List.length_map] at hc1 hy ⊢
 have hq:=hW.lt
 obtain ⟨hqc,hqw,hbw⟩:=hq
 have HOK:=Lib.hid hW.ok
 have hWA:=(hW.alloc (.cells #[.int .u8 5,.string (strOf s),.int .i64 n,.slice A1 l.length c1] 276)).drew
 have HC0:=Lib.hid (((Cf.refl base K w).alloc hbw (.cells #[.int .u8 5,.string (strOf s),.int .i64 n,.slice A1 l.length c1] 276)).drew)
 have hQ:(w.alloc (.cells #[.int .u8 5,.string (strOf s),.int .i64 n,.slice A1 l.length c1] 276)).drew.heap[w.heap.size]?=some (.cells #[.int .u8 5,.string (strOf s),.int .i64 n,.slice A1 l.length c1] 276 (0,0)):=heap_new w _
 have HQ:=Lib.hid hQ
 have hcs:=exsW_cs E st l
 have hcl:=exsW_len E st l
 have HIH:=Lib.hid (IH _ st _ hWA (Rd.cf hS hy HC0.out.b) (by omega) (by omega) hls)
 obtain ⟨V,hV⟩:=hWA
 obtain ⟨V0,hV0⟩:=hW
 obtain ⟨⟨a0,-⟩,-⟩:=bx6 hV0.h
 obtain ⟨⟨p0,p1,p2,p3,p4,-⟩,-⟩:=bx9 hV0.cm.h
 have hlk1:=(hV.cm.o3.look s ⟨h8,hl8⟩ opSkip_lt).2
 obtain ⟨zk,hzk⟩:∃ z:Int,(opSkip s:Int)=z:=⟨_,rfl⟩
 obtain ⟨bk,hbk⟩:∃ z:Bool,decide (opSkip s≠0)=z:=⟨_,rfl⟩
 rw [hzk,hbk] at hlk1
 have HNM:Hid (NmOk s):=Lib.hid ⟨h8,hl8⟩
 obtain ⟨R,hR⟩:∃ R,Hid (exW E st (.mk 5 s n l)=R):=⟨_,Lib.hid rfl⟩
 obtain ⟨s1,hs1⟩:∃ s1,Hid (exsW E st l=s1):=⟨_,Lib.hid rfl⟩
 have HE:Hid (R=s1.put 21 0 0):=Lib.hid (by
   rw [← hR.out,exW,if_neg (by rintro ⟨h,-⟩; omega),← hs1.out]
   rfl)
 rw [hs1.out] at HIH hcs hcl
 rw [hR.out]
 obtain ⟨X,hX⟩:∃ X,Hid (strOf s=X):=⟨_,Lib.hid rfl⟩
 obtain ⟨ln,hln⟩:∃ ln,Hid (l.length=ln):=⟨_,Lib.hid rfl⟩
 have hcs2:=hcs.2
 have hcs1:=hcs.1
 have HWR:=Lib.hid (fun (w':World) (h:WrS base K E nm pr w' s1)=>show Calls Tryz.prog 66 #[at0 K.qw,.int .u8 21,.int .i64 0,.int .i64 0] w' (OutW base K E nm pr w' (s1.put 21 0 0)) from write_any h 21 0 0 (by omega))
 try rw [hX.out] at hlk1
 try rw [hln.out] at hlk1
 try rw [hX.out] at HIH
 try rw [hln.out] at HIH
 try rw [hX.out] at HQ
 try rw [hln.out] at HQ
 try rw [hX.out] at HC0
 try rw [hln.out] at HC0
 try rw [hX.out] at hc1
 try rw [hln.out] at hc1
 try rw [hX.out] at HCO
 try rw [hln.out] at HCO
 try rw [hX.out] at HVA
 try rw [hln.out] at HVA
 try rw [hX.out] at HOF
 try rw [hln.out] at HOF
 try rw [hX.out] at HWR
 try rw [hln.out] at HWR
 try rw [hX.out] at HE
 try rw [hln.out] at HE
 try rw [hX.out]
 try rw [hln.out]
 clear hV0 hV hQ hr hy h8 hl8 hzk IH hS hR hs1 hcs
 unfold at0 at *
 cases bk
 all_goals
   go_enter Tryz.func216,Tryz.ntmps216
   go_upto_region 1 with fail
   go_region
   go_wp2_with (first
     | (go_at_call 192
        refine HIH.out.mono ?_
        rintro e w1 ⟨rfl,hw1,hc1⟩
        have HW1:=Lib.hid hw1
        have HC1:=Lib.hid (HC0.out.trans hc1)
        have HQ1:=Lib.hid (hc1.box HOK.out HQ.out hqw (by decide) (by decide) (by decide))
        obtain ⟨d0,d1,d2,d3⟩:=bx4k HQ1.out
        clear hw1 hc1)
     | (go_at_call 66
        refine (HWR.out _ HW1.out).mono ?_
        rintro e w2 ⟨rfl,hw2,hc2⟩
        have HW2:=Lib.hid hw2
        have HC2:=Lib.hid (HC1.out.trans hc2)
        clear hw2 hc2)
     | (fail))
   go_end0
   exact ⟨rfl,by rw [HE.out]; exact HW2.out,HC2.out⟩
end
end Go.Proofs.YtcmopnkldplngabGreatDoor
namespace Go.Proofs.YtcmopnkldplngabGreatDoor
open Go.RowKit
set_option linter.unusedVariables false
section
variable {base:Nat} {K:Bk} {E:Env} {nm:List Nat} {pr:Nat} {S:Nat→Prop}
set_option maxRecDepth 100000 in
set_option maxHeartbeats 8000000 in
theorem ex_tuple (hS:∀ b,S b→b<base) (s:List Nat) (n:Int) (l:List Ex) (IH:ExsC base K E nm pr S l):ExC base K E nm pr S (.mk 6 s n l):=by
 intro w st v hW hr hlc hlk hls
 rw [exN] at hlc hlk
 obtain ⟨y,rfl,h8,hl8,hy⟩:=(Ex.rd 6 s n l v).1 hr
 have hy':=hy
 rw [Rd] at hy'
 obtain ⟨A1,c1,rfl,hc1,hcm1,-⟩:=hy'
 rw [List.length_map] at hc1 hy ⊢
 have hq:=hW.lt
 obtain ⟨hqc,hqw,hbw⟩:=hq
 have HOK:=Lib.hid hW.ok
 have hWA:=(hW.alloc (.cells #[.int .u8 6,.string (strOf s),.int .i64 n,.slice A1 l.length c1] 276)).drew
 have HC0:=Lib.hid (((Cf.refl base K w).alloc hbw (.cells #[.int .u8 6,.string (strOf s),.int .i64 n,.slice A1 l.length c1] 276)).drew)
 have hQ:(w.alloc (.cells #[.int .u8 6,.string (strOf s),.int .i64 n,.slice A1 l.length c1] 276)).drew.heap[w.heap.size]?=some (.cells #[.int .u8 6,.string (strOf s),.int .i64 n,.slice A1 l.length c1] 276 (0,0)):=heap_new w _
 have HQ:=Lib.hid hQ
 have hcs:=exsW_cs E st l
 have hcl:=exsW_len E st l
 have HIH:=Lib.hid (IH _ st _ hWA (Rd.cf hS hy HC0.out.b) (by omega) (by omega) hls)
 obtain ⟨V,hV⟩:=hWA
 obtain ⟨V0,hV0⟩:=hW
 obtain ⟨⟨a0,-⟩,-⟩:=bx6 hV0.h
 obtain ⟨⟨p0,p1,p2,p3,p4,-⟩,-⟩:=bx9 hV0.cm.h
 have hlk1:=(hV.cm.o3.look s ⟨h8,hl8⟩ opSkip_lt).2
 obtain ⟨zk,hzk⟩:∃ z:Int,(opSkip s:Int)=z:=⟨_,rfl⟩
 obtain ⟨bk,hbk⟩:∃ z:Bool,decide (opSkip s≠0)=z:=⟨_,rfl⟩
 rw [hzk,hbk] at hlk1
 have HNM:Hid (NmOk s):=Lib.hid ⟨h8,hl8⟩
 obtain ⟨R,hR⟩:∃ R,Hid (exW E st (.mk 6 s n l)=R):=⟨_,Lib.hid rfl⟩
 obtain ⟨s1,hs1⟩:∃ s1,Hid (exsW E st l=s1):=⟨_,Lib.hid rfl⟩
 have HE:Hid (R=s1.put 20 (l.length:Int) 0):=Lib.hid (by
   rw [← hR.out,exW,if_neg (by rintro ⟨h,-⟩; omega),← hs1.out]
   rfl)
 rw [hs1.out] at HIH hcs hcl
 rw [hR.out]
 obtain ⟨X,hX⟩:∃ X,Hid (strOf s=X):=⟨_,Lib.hid rfl⟩
 obtain ⟨ln,hln⟩:∃ ln,Hid (l.length=ln):=⟨_,Lib.hid rfl⟩
 have hcs2:=hcs.2
 have hcs1:=hcs.1
 have HWR:=Lib.hid (fun (w':World) (h:WrS base K E nm pr w' s1)=>show Calls Tryz.prog 66 #[at0 K.qw,.int .u8 20,.int .i64 (l.length:Int),.int .i64 0] w' (OutW base K E nm pr w' (s1.put 20 (l.length:Int) 0)) from write_any h 20 (l.length:Int) 0 (by omega))
 try rw [hX.out] at hlk1
 try rw [hln.out] at hlk1
 try rw [hX.out] at HIH
 try rw [hln.out] at HIH
 try rw [hX.out] at HQ
 try rw [hln.out] at HQ
 try rw [hX.out] at HC0
 try rw [hln.out] at HC0
 try rw [hX.out] at hc1
 try rw [hln.out] at hc1
 try rw [hX.out] at HCO
 try rw [hln.out] at HCO
 try rw [hX.out] at HVA
 try rw [hln.out] at HVA
 try rw [hX.out] at HOF
 try rw [hln.out] at HOF
 try rw [hX.out] at HWR
 try rw [hln.out] at HWR
 try rw [hX.out] at HE
 try rw [hln.out] at HE
 try rw [hX.out]
 try rw [hln.out]
 clear hV0 hV hQ hr hy h8 hl8 hzk IH hS hR hs1 hcs
 unfold at0 at *
 cases bk
 all_goals
   go_enter Tryz.func216,Tryz.ntmps216
   go_upto_region 1 with fail
   go_region
   go_wp2_with (first
     | (go_at_call 192
        refine HIH.out.mono ?_
        rintro e w1 ⟨rfl,hw1,hc1⟩
        have HW1:=Lib.hid hw1
        have HC1:=Lib.hid (HC0.out.trans hc1)
        have HQ1:=Lib.hid (hc1.box HOK.out HQ.out hqw (by decide) (by decide) (by decide))
        obtain ⟨d0,d1,d2,d3⟩:=bx4k HQ1.out
        clear hw1 hc1)
     | (go_at_call 66
        refine (HWR.out _ HW1.out).mono ?_
        rintro e w2 ⟨rfl,hw2,hc2⟩
        have HW2:=Lib.hid hw2
        have HC2:=Lib.hid (HC1.out.trans hc2)
        clear hw2 hc2)
     | (fail))
   go_end0
   exact ⟨rfl,by rw [HE.out]; exact HW2.out,HC2.out⟩
set_option maxRecDepth 100000 in
set_option maxHeartbeats 8000000 in
theorem ex_at (hS:∀ b,S b→b<base) (s:List Nat) (n:Int) (l:List Ex) (IH:ExsC base K E nm pr S l):ExC base K E nm pr S (.mk 8 s n l):=by
 intro w st v hW hr hlc hlk hls
 rw [exN] at hlc hlk
 obtain ⟨y,rfl,h8,hl8,hy⟩:=(Ex.rd 8 s n l v).1 hr
 have hy':=hy
 rw [Rd] at hy'
 obtain ⟨A1,c1,rfl,hc1,hcm1,-⟩:=hy'
 rw [List.length_map] at hc1 hy ⊢
 have hq:=hW.lt
 obtain ⟨hqc,hqw,hbw⟩:=hq
 have HOK:=Lib.hid hW.ok
 have hWA:=(hW.alloc (.cells #[.int .u8 8,.string (strOf s),.int .i64 n,.slice A1 l.length c1] 276)).drew
 have HC0:=Lib.hid (((Cf.refl base K w).alloc hbw (.cells #[.int .u8 8,.string (strOf s),.int .i64 n,.slice A1 l.length c1] 276)).drew)
 have hQ:(w.alloc (.cells #[.int .u8 8,.string (strOf s),.int .i64 n,.slice A1 l.length c1] 276)).drew.heap[w.heap.size]?=some (.cells #[.int .u8 8,.string (strOf s),.int .i64 n,.slice A1 l.length c1] 276 (0,0)):=heap_new w _
 have HQ:=Lib.hid hQ
 have hcs:=exsW_cs E st l
 have hcl:=exsW_len E st l
 have HIH:=Lib.hid (IH _ st _ hWA (Rd.cf hS hy HC0.out.b) (by omega) (by omega) hls)
 obtain ⟨V,hV⟩:=hWA
 obtain ⟨V0,hV0⟩:=hW
 obtain ⟨⟨a0,-⟩,-⟩:=bx6 hV0.h
 obtain ⟨⟨p0,p1,p2,p3,p4,-⟩,-⟩:=bx9 hV0.cm.h
 have hlk1:=(hV.cm.o3.look s ⟨h8,hl8⟩ opSkip_lt).2
 obtain ⟨zk,hzk⟩:∃ z:Int,(opSkip s:Int)=z:=⟨_,rfl⟩
 obtain ⟨bk,hbk⟩:∃ z:Bool,decide (opSkip s≠0)=z:=⟨_,rfl⟩
 rw [hzk,hbk] at hlk1
 have HNM:Hid (NmOk s):=Lib.hid ⟨h8,hl8⟩
 obtain ⟨R,hR⟩:∃ R,Hid (exW E st (.mk 8 s n l)=R):=⟨_,Lib.hid rfl⟩
 obtain ⟨s1,hs1⟩:∃ s1,Hid (exsW E st l=s1):=⟨_,Lib.hid rfl⟩
 have HE:Hid (R=s1.put 18 0 0):=Lib.hid (by
   rw [← hR.out,exW,if_neg (by rintro ⟨h,-⟩; omega),← hs1.out]
   rfl)
 rw [hs1.out] at HIH hcs hcl
 rw [hR.out]
 obtain ⟨X,hX⟩:∃ X,Hid (strOf s=X):=⟨_,Lib.hid rfl⟩
 obtain ⟨ln,hln⟩:∃ ln,Hid (l.length=ln):=⟨_,Lib.hid rfl⟩
 have hcs2:=hcs.2
 have hcs1:=hcs.1
 have HWR:=Lib.hid (fun (w':World) (h:WrS base K E nm pr w' s1)=>show Calls Tryz.prog 66 #[at0 K.qw,.int .u8 18,.int .i64 0,.int .i64 0] w' (OutW base K E nm pr w' (s1.put 18 0 0)) from write_any h 18 0 0 (by omega))
 try rw [hX.out] at hlk1
 try rw [hln.out] at hlk1
 try rw [hX.out] at HIH
 try rw [hln.out] at HIH
 try rw [hX.out] at HQ
 try rw [hln.out] at HQ
 try rw [hX.out] at HC0
 try rw [hln.out] at HC0
 try rw [hX.out] at hc1
 try rw [hln.out] at hc1
 try rw [hX.out] at HCO
 try rw [hln.out] at HCO
 try rw [hX.out] at HVA
 try rw [hln.out] at HVA
 try rw [hX.out] at HOF
 try rw [hln.out] at HOF
 try rw [hX.out] at HWR
 try rw [hln.out] at HWR
 try rw [hX.out] at HE
 try rw [hln.out] at HE
 try rw [hX.out]
 try rw [hln.out]
 clear hV0 hV hQ hr hy h8 hl8 hzk IH hS hR hs1 hcs
 unfold at0 at *
 cases bk
 all_goals
   go_enter Tryz.func216,Tryz.ntmps216
   go_upto_region 1 with fail
   go_region
   go_wp2_with (first
     | (go_at_call 192
        refine HIH.out.mono ?_
        rintro e w1 ⟨rfl,hw1,hc1⟩
        have HW1:=Lib.hid hw1
        have HC1:=Lib.hid (HC0.out.trans hc1)
        have HQ1:=Lib.hid (hc1.box HOK.out HQ.out hqw (by decide) (by decide) (by decide))
        obtain ⟨d0,d1,d2,d3⟩:=bx4k HQ1.out
        clear hw1 hc1)
     | (go_at_call 66
        refine (HWR.out _ HW1.out).mono ?_
        rintro e w2 ⟨rfl,hw2,hc2⟩
        have HW2:=Lib.hid hw2
        have HC2:=Lib.hid (HC1.out.trans hc2)
        clear hw2 hc2)
     | (fail))
   go_end0
   exact ⟨rfl,by rw [HE.out]; exact HW2.out,HC2.out⟩
set_option maxRecDepth 100000 in
set_option maxHeartbeats 8000000 in
theorem ex_len (hS:∀ b,S b→b<base) (s:List Nat) (n:Int) (l:List Ex) (IH:ExsC base K E nm pr S l):ExC base K E nm pr S (.mk 9 s n l):=by
 intro w st v hW hr hlc hlk hls
 rw [exN] at hlc hlk
 obtain ⟨y,rfl,h8,hl8,hy⟩:=(Ex.rd 9 s n l v).1 hr
 have hy':=hy
 rw [Rd] at hy'
 obtain ⟨A1,c1,rfl,hc1,hcm1,-⟩:=hy'
 rw [List.length_map] at hc1 hy ⊢
 have hq:=hW.lt
 obtain ⟨hqc,hqw,hbw⟩:=hq
 have HOK:=Lib.hid hW.ok
 have hWA:=(hW.alloc (.cells #[.int .u8 9,.string (strOf s),.int .i64 n,.slice A1 l.length c1] 276)).drew
 have HC0:=Lib.hid (((Cf.refl base K w).alloc hbw (.cells #[.int .u8 9,.string (strOf s),.int .i64 n,.slice A1 l.length c1] 276)).drew)
 have hQ:(w.alloc (.cells #[.int .u8 9,.string (strOf s),.int .i64 n,.slice A1 l.length c1] 276)).drew.heap[w.heap.size]?=some (.cells #[.int .u8 9,.string (strOf s),.int .i64 n,.slice A1 l.length c1] 276 (0,0)):=heap_new w _
 have HQ:=Lib.hid hQ
 have hcs:=exsW_cs E st l
 have hcl:=exsW_len E st l
 have HIH:=Lib.hid (IH _ st _ hWA (Rd.cf hS hy HC0.out.b) (by omega) (by omega) hls)
 obtain ⟨V,hV⟩:=hWA
 obtain ⟨V0,hV0⟩:=hW
 obtain ⟨⟨a0,-⟩,-⟩:=bx6 hV0.h
 obtain ⟨⟨p0,p1,p2,p3,p4,-⟩,-⟩:=bx9 hV0.cm.h
 have hlk1:=(hV.cm.o3.look s ⟨h8,hl8⟩ opSkip_lt).2
 obtain ⟨zk,hzk⟩:∃ z:Int,(opSkip s:Int)=z:=⟨_,rfl⟩
 obtain ⟨bk,hbk⟩:∃ z:Bool,decide (opSkip s≠0)=z:=⟨_,rfl⟩
 rw [hzk,hbk] at hlk1
 have HNM:Hid (NmOk s):=Lib.hid ⟨h8,hl8⟩
 obtain ⟨R,hR⟩:∃ R,Hid (exW E st (.mk 9 s n l)=R):=⟨_,Lib.hid rfl⟩
 obtain ⟨s1,hs1⟩:∃ s1,Hid (exsW E st l=s1):=⟨_,Lib.hid rfl⟩
 have HE:Hid (R=s1.put 19 0 0):=Lib.hid (by
   rw [← hR.out,exW,if_neg (by rintro ⟨h,-⟩; omega),← hs1.out]
   rfl)
 rw [hs1.out] at HIH hcs hcl
 rw [hR.out]
 obtain ⟨X,hX⟩:∃ X,Hid (strOf s=X):=⟨_,Lib.hid rfl⟩
 obtain ⟨ln,hln⟩:∃ ln,Hid (l.length=ln):=⟨_,Lib.hid rfl⟩
 have hcs2:=hcs.2
 have hcs1:=hcs.1
 have HWR:=Lib.hid (fun (w':World) (h:WrS base K E nm pr w' s1)=>show Calls Tryz.prog 66 #[at0 K.qw,.int .u8 19,.int .i64 0,.int .i64 0] w' (OutW base K E nm pr w' (s1.put 19 0 0)) from write_any h 19 0 0 (by omega))
 try rw [hX.out] at hlk1
 try rw [hln.out] at hlk1
 try rw [hX.out] at HIH
 try rw [hln.out] at HIH
 try rw [hX.out] at HQ
 try rw [hln.out] at HQ
 try rw [hX.out] at HC0
 try rw [hln.out] at HC0
 try rw [hX.out] at hc1
 try rw [hln.out] at hc1
 try rw [hX.out] at HCO
 try rw [hln.out] at HCO
 try rw [hX.out] at HVA
 try rw [hln.out] at HVA
 try rw [hX.out] at HOF
 try rw [hln.out] at HOF
 try rw [hX.out] at HWR
 try rw [hln.out] at HWR
 try rw [hX.out] at HE
 try rw [hln.out] at HE
 try rw [hX.out]
 try rw [hln.out]
 clear hV0 hV hQ hr hy h8 hl8 hzk IH hS hR hs1 hcs
 unfold at0 at *
 cases bk
 all_goals
   go_enter Tryz.func216,Tryz.ntmps216
   go_upto_region 1 with fail
   go_region
   go_wp2_with (first
     | (go_at_call 192
        refine HIH.out.mono ?_
        rintro e w1 ⟨rfl,hw1,hc1⟩
        have HW1:=Lib.hid hw1
        have HC1:=Lib.hid (HC0.out.trans hc1)
        have HQ1:=Lib.hid (hc1.box HOK.out HQ.out hqw (by decide) (by decide) (by decide))
        obtain ⟨d0,d1,d2,d3⟩:=bx4k HQ1.out
        clear hw1 hc1)
     | (go_at_call 66
        refine (HWR.out _ HW1.out).mono ?_
        rintro e w2 ⟨rfl,hw2,hc2⟩
        have HW2:=Lib.hid hw2
        have HC2:=Lib.hid (HC1.out.trans hc2)
        clear hw2 hc2)
     | (fail))
   go_end0
   exact ⟨rfl,by rw [HE.out]; exact HW2.out,HC2.out⟩
set_option maxRecDepth 100000 in
set_option maxHeartbeats 8000000 in
theorem ex_op (hS:∀ b,S b→b<base) (s:List Nat) (n:Int) (l:List Ex) (IH:ExsC base K E nm pr S l) (hns:opSkip s=0):ExC base K E nm pr S (.mk 7 s n l):=by
 intro w st v hW hr hlc hlk hls
 rw [exN] at hlc hlk
 obtain ⟨y,rfl,h8,hl8,hy⟩:=(Ex.rd 7 s n l v).1 hr
 have hy':=hy
 rw [Rd] at hy'
 obtain ⟨A1,c1,rfl,hc1,hcm1,-⟩:=hy'
 rw [List.length_map] at hc1 hy ⊢
 have hq:=hW.lt
 obtain ⟨hqc,hqw,hbw⟩:=hq
 have HOK:=Lib.hid hW.ok
 have hWA:=(hW.alloc (.cells #[.int .u8 7,.string (strOf s),.int .i64 n,.slice A1 l.length c1] 276)).drew
 have HC0:=Lib.hid (((Cf.refl base K w).alloc hbw (.cells #[.int .u8 7,.string (strOf s),.int .i64 n,.slice A1 l.length c1] 276)).drew)
 have hQ:(w.alloc (.cells #[.int .u8 7,.string (strOf s),.int .i64 n,.slice A1 l.length c1] 276)).drew.heap[w.heap.size]?=some (.cells #[.int .u8 7,.string (strOf s),.int .i64 n,.slice A1 l.length c1] 276 (0,0)):=heap_new w _
 have HQ:=Lib.hid hQ
 have hcs:=exsW_cs E st l
 have hcl:=exsW_len E st l
 have HIH:=Lib.hid (IH _ st _ hWA (Rd.cf hS hy HC0.out.b) (by omega) (by omega) hls)
 obtain ⟨V,hV⟩:=hWA
 obtain ⟨V0,hV0⟩:=hW
 obtain ⟨⟨a0,-⟩,-⟩:=bx6 hV0.h
 obtain ⟨⟨p0,p1,p2,p3,p4,-⟩,-⟩:=bx9 hV0.cm.h
 have hlk1:=(hV.cm.o3.look s ⟨h8,hl8⟩ opSkip_lt).2
 obtain ⟨zk,hzk⟩:∃ z:Int,(opSkip s:Int)=z:=⟨_,rfl⟩
 obtain ⟨bk,hbk⟩:∃ z:Bool,decide (opSkip s≠0)=z:=⟨_,rfl⟩
 rw [hzk,hbk] at hlk1
 have HNM:Hid (NmOk s):=Lib.hid ⟨h8,hl8⟩
 obtain ⟨R,hR⟩:∃ R,Hid (exW E st (.mk 7 s n l)=R):=⟨_,Lib.hid rfl⟩
 obtain ⟨s1,hs1⟩:∃ s1,Hid (exsW E st l=s1):=⟨_,Lib.hid rfl⟩
 have HE:Hid (R=s1.put (if l.length=1 then opOne s else opTwo s) 0 0):=Lib.hid (by
   rw [← hR.out,exW,if_neg (by rintro ⟨-,h⟩; exact h hns),← hs1.out]
   rfl)
 rw [hs1.out] at HIH hcs hcl
 rw [hR.out]
 obtain ⟨X,hX⟩:∃ X,Hid (strOf s=X):=⟨_,Lib.hid rfl⟩
 obtain ⟨ln,hln⟩:∃ ln,Hid (l.length=ln):=⟨_,Lib.hid rfl⟩
 have hcs2:=hcs.2
 have hcs1:=hcs.1
 have HOF:=Lib.hid (fun (w':World) (h:WrS base K E nm pr w' s1)=>opOf_any h 7 s HNM.out n A1 l.length c1)
 obtain ⟨op,hop⟩:∃ op,Hid ((if l.length=1 then opOne s else opTwo s)=op):=⟨_,Lib.hid rfl⟩
 rw [hop.out] at HOF HE
 have HWR:=Lib.hid (fun (w':World) (h:WrS base K E nm pr w' s1)=>show Calls Tryz.prog 66 #[at0 K.qw,.int .u8 (op:Int),.int .i64 0,.int .i64 0] w' (OutW base K E nm pr w' (s1.put op 0 0)) from write_any h op 0 0 (by omega))
 have hbf:bk=false:=by rw [← hbk]; simpa using hns
 subst hbf
 try rw [hX.out] at hlk1
 try rw [hln.out] at hlk1
 try rw [hX.out] at HIH
 try rw [hln.out] at HIH
 try rw [hX.out] at HQ
 try rw [hln.out] at HQ
 try rw [hX.out] at HC0
 try rw [hln.out] at HC0
 try rw [hX.out] at hc1
 try rw [hln.out] at hc1
 try rw [hX.out] at HCO
 try rw [hln.out] at HCO
 try rw [hX.out] at HVA
 try rw [hln.out] at HVA
 try rw [hX.out] at HOF
 try rw [hln.out] at HOF
 try rw [hX.out] at HWR
 try rw [hln.out] at HWR
 try rw [hX.out] at HE
 try rw [hln.out] at HE
 try rw [hX.out]
 try rw [hln.out]
 clear hV0 hV hQ hr hy h8 hl8 hzk IH hS hR hs1 hcs
 unfold at0 at *
 all_goals
   go_enter Tryz.func216,Tryz.ntmps216
   go_upto_region 1 with fail
   go_region
   go_wp2_with (first
     | (go_at_call 192
        refine HIH.out.mono ?_
        rintro e w1 ⟨rfl,hw1,hc1⟩
        have HW1:=Lib.hid hw1
        have HC1:=Lib.hid (HC0.out.trans hc1)
        have HQ1:=Lib.hid (hc1.box HOK.out HQ.out hqw (by decide) (by decide) (by decide))
        obtain ⟨d0,d1,d2,d3⟩:=bx4k HQ1.out
        clear hw1 hc1)
     | (go_at_call 249
        refine (HOF.out _ HW1.out).mono ?_
        rintro e w3 ⟨rfl,hb3⟩
        have HW3:=Lib.hid (HW1.out.below hb3)
        have HC3:=Lib.hid (HC1.out.below HW1.out.lt.2.2 hb3)
        clear hb3)
     | (go_at_call 66
        refine (HWR.out _ HW3.out).mono ?_
        rintro e w2 ⟨rfl,hw2,hc2⟩
        have HW2:=Lib.hid hw2
        have HC2:=Lib.hid (HC3.out.trans hc2)
        clear hw2 hc2)
     | (fail))
   go_end0
   exact ⟨rfl,by rw [HE.out]; exact HW2.out,HC2.out⟩
end
end Go.Proofs.YtcmopnkldplngabGreatDoor
namespace Go.Proofs.YtcmopnkldplngabGreatDoor
open Go.RowKit
set_option linter.unusedVariables false
section
variable {base:Nat} {K:Bk} {E:Env} {nm:List Nat} {pr:Nat} {S:Nat→Prop}
set_option maxRecDepth 100000 in
set_option maxHeartbeats 8000000 in
theorem ex_call (hS:∀ b,S b→b<base) (s:List Nat) (n:Int) (l:List Ex) (IH:ExsC base K E nm pr S l):ExC base K E nm pr S (.mk 10 s n l):=by
 intro w st v hW hr hlc hlk hls
 rw [exN] at hlc hlk
 obtain ⟨y,rfl,h8,hl8,hy⟩:=(Ex.rd 10 s n l v).1 hr
 have hy':=hy
 rw [Rd] at hy'
 obtain ⟨A1,c1,rfl,hc1,hcm1,-⟩:=hy'
 rw [List.length_map] at hc1 hy ⊢
 have hq:=hW.lt
 obtain ⟨hqc,hqw,hbw⟩:=hq
 have HOK:=Lib.hid hW.ok
 have hWA:=(hW.alloc (.cells #[.int .u8 10,.string (strOf s),.int .i64 n,.slice A1 l.length c1] 276)).drew
 have HC0:=Lib.hid (((Cf.refl base K w).alloc hbw (.cells #[.int .u8 10,.string (strOf s),.int .i64 n,.slice A1 l.length c1] 276)).drew)
 have hQ:(w.alloc (.cells #[.int .u8 10,.string (strOf s),.int .i64 n,.slice A1 l.length c1] 276)).drew.heap[w.heap.size]?=some (.cells #[.int .u8 10,.string (strOf s),.int .i64 n,.slice A1 l.length c1] 276 (0,0)):=heap_new w _
 have HQ:=Lib.hid hQ
 have hcs:=exsW_cs E st l
 have hcl:=exsW_len E st l
 have HIH:=Lib.hid (IH _ st _ hWA (Rd.cf hS hy HC0.out.b) (by omega) (by omega) hls)
 obtain ⟨V,hV⟩:=hWA
 obtain ⟨V0,hV0⟩:=hW
 obtain ⟨⟨a0,-⟩,-⟩:=bx6 hV0.h
 obtain ⟨⟨p0,p1,p2,p3,p4,-⟩,-⟩:=bx9 hV0.cm.h
 have hlk1:=(hV.cm.o3.look s ⟨h8,hl8⟩ opSkip_lt).2
 obtain ⟨zk,hzk⟩:∃ z:Int,(opSkip s:Int)=z:=⟨_,rfl⟩
 obtain ⟨bk,hbk⟩:∃ z:Bool,decide (opSkip s≠0)=z:=⟨_,rfl⟩
 rw [hzk,hbk] at hlk1
 have HNM:Hid (NmOk s):=Lib.hid ⟨h8,hl8⟩
 obtain ⟨R,hR⟩:∃ R,Hid (exW E st (.mk 10 s n l)=R):=⟨_,Lib.hid rfl⟩
 obtain ⟨s1,hs1⟩:∃ s1,Hid (exsW E st l=s1):=⟨_,Lib.hid rfl⟩
 have HE:Hid (R=s1.put 22 (locL s E.fns:Int) 0):=Lib.hid (by
   rw [← hR.out,exW,if_neg (by rintro ⟨h,-⟩; omega),← hs1.out]
   rfl)
 rw [hs1.out] at HIH hcs hcl
 rw [hR.out]
 obtain ⟨X,hX⟩:∃ X,Hid (strOf s=X):=⟨_,Lib.hid rfl⟩
 obtain ⟨ln,hln⟩:∃ ln,Hid (l.length=ln):=⟨_,Lib.hid rfl⟩
 have hcs2:=hcs.2
 have hcs1:=hcs.1
 have HWR:=Lib.hid (fun (w':World) (h:WrS base K E nm pr w' s1)=>show Calls Tryz.prog 66 #[at0 K.qw,.int .u8 22,.int .i64 (locL s E.fns:Int),.int .i64 0] w' (OutW base K E nm pr w' (s1.put 22 (locL s E.fns:Int) 0)) from write_any h 22 _ 0 (by omega))
 obtain ⟨iv,hiv⟩:∃ iv:Int,Hid ((locL s E.fns:Int)=iv):=⟨_,Lib.hid rfl⟩
 rw [hiv.out] at HWR HE
 have HLK:=Lib.hid (fun (w':World) (h:WrS base K E nm pr w' s1)=>show (Instr.lookup 107 (.map (some K.bf)) (.string (strOf s)) false).run Tryz.prog w' = .ok (.int .i64 iv) w'∧w'.cell? ⟨K.qw,0,none⟩=some (.pointer (some ⟨K.qc,0,none⟩))∧w'.cell? ⟨K.qc,0,none⟩=some (.map (some K.bf)) from by
   obtain ⟨V',hV'⟩:=h
   rw [← hiv.out]
   obtain ⟨⟨a0,-⟩,-⟩:=bx6 hV'.h
   obtain ⟨⟨p0,p1,p2,p3,p4,-⟩,-⟩:=bx9 hV'.cm.h
   exact ⟨hV'.cm.f.look s HNM.out,a0,p0⟩)
 have HLK2:=Lib.hid (fun (w':World) (h:WrS base K E nm pr w' (s1.put 22 iv 0))=>show (Instr.lookup 107 (.map (some K.bf)) (.string (strOf s)) false).run Tryz.prog w' = .ok (.int .i64 iv) w'∧w'.cell? ⟨K.qw,0,none⟩=some (.pointer (some ⟨K.qc,0,none⟩))∧w'.cell? ⟨K.qc,0,none⟩=some (.map (some K.bf)) from by
   obtain ⟨V',hV'⟩:=h
   rw [← hiv.out]
   obtain ⟨⟨a0,-⟩,-⟩:=bx6 hV'.h
   obtain ⟨⟨p0,p1,p2,p3,p4,-⟩,-⟩:=bx9 hV'.cm.h
   exact ⟨hV'.cm.f.look s HNM.out,a0,p0⟩)
 try rw [hX.out] at hlk1
 try rw [hln.out] at hlk1
 try rw [hX.out] at HIH
 try rw [hln.out] at HIH
 try rw [hX.out] at HQ
 try rw [hln.out] at HQ
 try rw [hX.out] at HC0
 try rw [hln.out] at HC0
 try rw [hX.out] at hc1
 try rw [hln.out] at hc1
 try rw [hX.out] at HCO
 try rw [hln.out] at HCO
 try rw [hX.out] at HVA
 try rw [hln.out] at HVA
 try rw [hX.out] at HOF
 try rw [hln.out] at HOF
 try rw [hX.out] at HWR
 try rw [hln.out] at HWR
 try rw [hX.out] at HE
 try rw [hln.out] at HE
 try rw [hX.out]
 try rw [hln.out]
 clear hV0 hV hQ hr hy h8 hl8 hzk IH hS hR hs1 hcs
 unfold at0 at *
 cases bk
 all_goals
   go_enter Tryz.func216,Tryz.ntmps216
   go_upto_region 1 with fail
   go_region
   go_upto_region 25 with (first
     | (go_at_call 192
        refine HIH.out.mono ?_
        rintro e w1 ⟨rfl,hw1,hc1⟩
        have HW1:=Lib.hid hw1
        have HC1:=Lib.hid (HC0.out.trans hc1)
        have HQ1:=Lib.hid (hc1.box HOK.out HQ.out hqw (by decide) (by decide) (by decide))
        obtain ⟨d0,d1,d2,d3⟩:=bx4k HQ1.out
        clear hw1 hc1)
     | (fail))
   obtain ⟨k1,k2,k3⟩:=HLK.out _ HW1.out.drew
   obtain ⟨-,k4,k5⟩:=HLK.out _ HW1.out
   rw [hX.out] at k1
   go_region_held3 (fun w'=>(w'.cell? ⟨K.qw,0,none⟩=some (.pointer (some ⟨K.qc,0,none⟩))∧w'.cell? ⟨K.qc,0,none⟩=some (.map (some K.bf))∧w'.cell? ⟨w.heap.size,1,none⟩=some (.string X))∧(Instr.lookup 107 (.map (some K.bf)) (.string X) false).run Tryz.prog w' = .ok (.int .i64 iv) w') (go_keep)
     (first
       | (go_at_call 66
          refine (HWR.out _ HW1.out.drew).mono ?_
          rintro e w2 ⟨rfl,hw2,hc2⟩
          have HW2:=Lib.hid hw2
          have HC2:=Lib.hid (HC1.out.drew.trans hc2)
          obtain ⟨m1,m2,m3⟩:=HLK2.out _ hw2
          rw [hX.out] at m1
          obtain ⟨t0,t1,t2,t3⟩:=bx4k (hc2.box HOK.out (show w1.drew.heap[w.heap.size]? = _ from HQ1.out) hqw (by decide) (by decide) (by decide))
          clear hw2 hc2)
       | (fail))
   go_wp2_with fail
   go_end0
   exact ⟨rfl,by rw [HE.out]; exact HW2.out,HC2.out⟩
set_option maxRecDepth 100000 in
set_option maxHeartbeats 8000000 in
theorem ex_spawn (hS:∀ b,S b→b<base) (s:List Nat) (n:Int) (l:List Ex) (IH:ExsC base K E nm pr S l):ExC base K E nm pr S (.mk 11 s n l):=by
 intro w st v hW hr hlc hlk hls
 rw [exN] at hlc hlk
 obtain ⟨y,rfl,h8,hl8,hy⟩:=(Ex.rd 11 s n l v).1 hr
 have hy':=hy
 rw [Rd] at hy'
 obtain ⟨A1,c1,rfl,hc1,hcm1,-⟩:=hy'
 rw [List.length_map] at hc1 hy ⊢
 have hq:=hW.lt
 obtain ⟨hqc,hqw,hbw⟩:=hq
 have HOK:=Lib.hid hW.ok
 have hWA:=(hW.alloc (.cells #[.int .u8 11,.string (strOf s),.int .i64 n,.slice A1 l.length c1] 276)).drew
 have HC0:=Lib.hid (((Cf.refl base K w).alloc hbw (.cells #[.int .u8 11,.string (strOf s),.int .i64 n,.slice A1 l.length c1] 276)).drew)
 have hQ:(w.alloc (.cells #[.int .u8 11,.string (strOf s),.int .i64 n,.slice A1 l.length c1] 276)).drew.heap[w.heap.size]?=some (.cells #[.int .u8 11,.string (strOf s),.int .i64 n,.slice A1 l.length c1] 276 (0,0)):=heap_new w _
 have HQ:=Lib.hid hQ
 have hcs:=exsW_cs E st l
 have hcl:=exsW_len E st l
 have HIH:=Lib.hid (IH _ st _ hWA (Rd.cf hS hy HC0.out.b) (by omega) (by omega) hls)
 obtain ⟨V,hV⟩:=hWA
 obtain ⟨V0,hV0⟩:=hW
 obtain ⟨⟨a0,-⟩,-⟩:=bx6 hV0.h
 obtain ⟨⟨p0,p1,p2,p3,p4,-⟩,-⟩:=bx9 hV0.cm.h
 have hlk1:=(hV.cm.o3.look s ⟨h8,hl8⟩ opSkip_lt).2
 obtain ⟨zk,hzk⟩:∃ z:Int,(opSkip s:Int)=z:=⟨_,rfl⟩
 obtain ⟨bk,hbk⟩:∃ z:Bool,decide (opSkip s≠0)=z:=⟨_,rfl⟩
 rw [hzk,hbk] at hlk1
 have HNM:Hid (NmOk s):=Lib.hid ⟨h8,hl8⟩
 obtain ⟨R,hR⟩:∃ R,Hid (exW E st (.mk 11 s n l)=R):=⟨_,Lib.hid rfl⟩
 obtain ⟨s1,hs1⟩:∃ s1,Hid (exsW E st l=s1):=⟨_,Lib.hid rfl⟩
 have HE:Hid (R=s1.put 23 (locL s E.roles:Int) 0):=Lib.hid (by
   rw [← hR.out,exW,if_neg (by rintro ⟨h,-⟩; omega),← hs1.out]
   rfl)
 rw [hs1.out] at HIH hcs hcl
 rw [hR.out]
 obtain ⟨X,hX⟩:∃ X,Hid (strOf s=X):=⟨_,Lib.hid rfl⟩
 obtain ⟨ln,hln⟩:∃ ln,Hid (l.length=ln):=⟨_,Lib.hid rfl⟩
 have hcs2:=hcs.2
 have hcs1:=hcs.1
 have HWR:=Lib.hid (fun (w':World) (h:WrS base K E nm pr w' s1)=>show Calls Tryz.prog 66 #[at0 K.qw,.int .u8 23,.int .i64 (locL s E.roles:Int),.int .i64 0] w' (OutW base K E nm pr w' (s1.put 23 (locL s E.roles:Int) 0)) from write_any h 23 _ 0 (by omega))
 obtain ⟨iv,hiv⟩:∃ iv:Int,Hid ((locL s E.roles:Int)=iv):=⟨_,Lib.hid rfl⟩
 rw [hiv.out] at HWR HE
 have HLK:=Lib.hid (fun (w':World) (h:WrS base K E nm pr w' s1)=>show (Instr.lookup 107 (.map (some K.br)) (.string (strOf s)) false).run Tryz.prog w' = .ok (.int .i64 iv) w'∧w'.cell? ⟨K.qw,0,none⟩=some (.pointer (some ⟨K.qc,0,none⟩))∧w'.cell? ⟨K.qc,1,none⟩=some (.map (some K.br)) from by
   obtain ⟨V',hV'⟩:=h
   rw [← hiv.out]
   obtain ⟨⟨a0,-⟩,-⟩:=bx6 hV'.h
   obtain ⟨⟨p0,p1,p2,p3,p4,-⟩,-⟩:=bx9 hV'.cm.h
   exact ⟨hV'.cm.r.look s HNM.out,a0,p1⟩)
 have HLK2:=Lib.hid (fun (w':World) (h:WrS base K E nm pr w' (s1.put 23 iv 0))=>show (Instr.lookup 107 (.map (some K.br)) (.string (strOf s)) false).run Tryz.prog w' = .ok (.int .i64 iv) w'∧w'.cell? ⟨K.qw,0,none⟩=some (.pointer (some ⟨K.qc,0,none⟩))∧w'.cell? ⟨K.qc,1,none⟩=some (.map (some K.br)) from by
   obtain ⟨V',hV'⟩:=h
   rw [← hiv.out]
   obtain ⟨⟨a0,-⟩,-⟩:=bx6 hV'.h
   obtain ⟨⟨p0,p1,p2,p3,p4,-⟩,-⟩:=bx9 hV'.cm.h
   exact ⟨hV'.cm.r.look s HNM.out,a0,p1⟩)
 try rw [hX.out] at hlk1
 try rw [hln.out] at hlk1
 try rw [hX.out] at HIH
 try rw [hln.out] at HIH
 try rw [hX.out] at HQ
 try rw [hln.out] at HQ
 try rw [hX.out] at HC0
 try rw [hln.out] at HC0
 try rw [hX.out] at hc1
 try rw [hln.out] at hc1
 try rw [hX.out] at HCO
 try rw [hln.out] at HCO
 try rw [hX.out] at HVA
 try rw [hln.out] at HVA
 try rw [hX.out] at HOF
 try rw [hln.out] at HOF
 try rw [hX.out] at HWR
 try rw [hln.out] at HWR
 try rw [hX.out] at HE
 try rw [hln.out] at HE
 try rw [hX.out]
 try rw [hln.out]
 clear hV0 hV hQ hr hy h8 hl8 hzk IH hS hR hs1 hcs
 unfold at0 at *
 cases bk
 all_goals
   go_enter Tryz.func216,Tryz.ntmps216
   go_upto_region 1 with fail
   go_region
   go_upto_region 27 with (first
     | (go_at_call 192
        refine HIH.out.mono ?_
        rintro e w1 ⟨rfl,hw1,hc1⟩
        have HW1:=Lib.hid hw1
        have HC1:=Lib.hid (HC0.out.trans hc1)
        have HQ1:=Lib.hid (hc1.box HOK.out HQ.out hqw (by decide) (by decide) (by decide))
        obtain ⟨d0,d1,d2,d3⟩:=bx4k HQ1.out
        clear hw1 hc1)
     | (fail))
   obtain ⟨k1,k2,k3⟩:=HLK.out _ HW1.out.drew
   obtain ⟨-,k4,k5⟩:=HLK.out _ HW1.out
   rw [hX.out] at k1
   go_region_held3 (fun w'=>(w'.cell? ⟨K.qw,0,none⟩=some (.pointer (some ⟨K.qc,0,none⟩))∧w'.cell? ⟨K.qc,1,none⟩=some (.map (some K.br))∧w'.cell? ⟨w.heap.size,1,none⟩=some (.string X))∧(Instr.lookup 107 (.map (some K.br)) (.string X) false).run Tryz.prog w' = .ok (.int .i64 iv) w') (go_keep)
     (first
       | (go_at_call 66
          refine (HWR.out _ HW1.out.drew).mono ?_
          rintro e w2 ⟨rfl,hw2,hc2⟩
          have HW2:=Lib.hid hw2
          have HC2:=Lib.hid (HC1.out.drew.trans hc2)
          obtain ⟨m1,m2,m3⟩:=HLK2.out _ hw2
          rw [hX.out] at m1
          obtain ⟨t0,t1,t2,t3⟩:=bx4k (hc2.box HOK.out (show w1.drew.heap[w.heap.size]? = _ from HQ1.out) hqw (by decide) (by decide) (by decide))
          clear hw2 hc2)
       | (fail))
   go_wp2_with fail
   go_end0
   exact ⟨rfl,by rw [HE.out]; exact HW2.out,HC2.out⟩
end
end Go.Proofs.YtcmopnkldplngabGreatDoor
namespace Go.Proofs.YtcmopnkldplngabGreatDoor
open Go.RowKit
set_option linter.unusedVariables false
section
variable {base:Nat} {K:Bk} {E:Env} {nm:List Nat} {pr:Nat} {S:Nat→Prop}
set_option maxRecDepth 100000 in
set_option maxHeartbeats 4000000 in
theorem exprsW_any (hS:∀ b,S b→b<base) (l:List Ex) (IH:∀ x∈l,ExC base K E nm pr S x):ExsC base K E nm pr S l:=by
 intro w st v hW hr hlc hlk hls
 rw [Rd] at hr
 obtain ⟨A,cp,rfl,hcp,hcpm,hr⟩:=hr
 rw [List.length_map] at hcp ⊢
 have HR:=Lib.hid hr
 have HSS:=Lib.hid hS
 have HIH:=Lib.hid IH
 have HOK:=Lib.hid hW.ok
 have HW0:=Lib.hid hW
 have hq:=hW.lt
 obtain ⟨hqc,hqw,hbw⟩:=hq
 obtain ⟨m,hm⟩:∃ m,Hid (l.length=m):=⟨_,Lib.hid rfl⟩
 rw [hm.out] at hcp ⊢
 obtain ⟨R,hR⟩:∃ R,Hid (exsW E st l=R):=⟨_,Lib.hid rfl⟩
 rw [hR.out]
 unfold maxLen at hcpm
 clear hr hS hW IH
 unfold at0 at *
 go_enter Tryz.func192,Tryz.ntmps192
 go_wp2_with fail
 go_loopg [8] m (fun g i wr=>∃ (j:Nat) (sj:Ws),j+g=m∧i = .int .i64 (j:Int)∧Hid (exsW E sj (l.drop j)=R)∧Hid (sj.code.length+exsN (l.drop j)≤1000000∧sj.cs.length+exsN (l.drop j)≤1000000∧sj.sc.length≤1000000)∧Hid (WrS base K E nm pr wr sj)∧Hid (Cf base K w wr))
 case atStart=>exact ⟨0,st,by omega,rfl,Lib.hid (by rw [List.drop_zero]; exact hR.out),Lib.hid (by rw [List.drop_zero]; exact ⟨hlc,hlk,hls⟩),HW0,Lib.hid (Cf.refl _ _ _)⟩
 case round =>
   obtain ⟨j,sj,hj,rfl,HF,HN,HW,HK⟩:=hrel
   cases gk with
   | zero =>
     have h1:¬ (j:Int)<(m:Int):=by omega
     have HE:Hid (sj=R):=Lib.hid (by rw [← HF.out,List.drop_eq_nil_of_le (by rw [hm.out]; omega),exsW])
     clear HF HIH HN
     go_wp2_with fail
     go_end0
     exact ⟨rfl,by rw [← HE.out]; exact HW.out,HK.out⟩
   | succ g =>
     have h1:(j:Int)<(m:Int):=by omega
     have h2:j<m:=by omega
     have hjl:j<l.length:=by rw [hm.out]; exact h2
     obtain ⟨bb,o,vs,rfl,hSb,hvl,hrg,hx⟩:=HR.out.at j (Ex.nd l[j]) (by simp [hjl])
     have HD:=Lib.hid (List.drop_eq_getElem_cons hjl)
     have HIX:=Lib.hid (HIH.out l[j] (List.getElem_mem hjl))
     generalize l[j]=x at *
     have HF2:=Lib.hid (HF.out.symm.trans (by rw [HD.out,exsW]))
     have hN:=HN.out
     rw [HD.out,exsN] at hN
     have hcs:=exW_cs E sj x
     have hcl:=exW_len E sj x
     obtain ⟨k,s,z,ks⟩:=x
     have HX:=Lib.hid hx
     obtain ⟨y,hv,-,-,hy⟩:=(Ex.rd k s z ks _).1 hx
     obtain ⟨A3,n3,c3,rfl⟩:=hy.rowf
     have hv2:vs=[.int .u8 (k:Int),.string (strOf s),.int .i64 z,.slice A3 n3 c3]:=by
       injection hv with hv
       have:=congrArg Array.toList hv
       simpa using this
     subst hv2
     have hbb:=HSS.out bb hSb
     have hcell:∀ i u,[Value.int .u8 (k:Int),.string (strOf s),.int .i64 z,.slice A3 n3 c3][i]?=some u→wr.cell? ⟨bb,o+j*4+i,none⟩=some u:=fun i u hu=>by
       have:=hrg i u hu
       rw [Nat.zero_add] at this
       exact (HK.out.b.cell (p:=⟨bb,o+j*4+i,none⟩) hbb).trans this
     have y0:wr.cell? ⟨bb,o+j*4,none⟩=some (.int .u8 (k:Int)):=hcell 0 _ rfl
     have y1:=hcell 1 _ rfl
     have y2:=hcell 2 _ rfl
     have y3:=hcell 3 _ rfl
     have hwr:=HW.out.lt
     obtain ⟨hrc,hrw,hrb⟩:=hwr
     have hbr:bb<wr.heap.size:=by omega
     have HC1:=Lib.hid (HK.out.alloc hrb (.cells #[.int .u8 (k:Int),.string (strOf s),.int .i64 z,.slice A3 n3 c3] 276))
     have HXC:=Lib.hid (HIX.out _ sj _ (HW.out.alloc (.cells #[.int .u8 (k:Int),.string (strOf s),.int .i64 z,.slice A3 n3 c3] 276)) (Rd.cf HSS.out HX.out HC1.out.b) (by omega) (by omega) hN.2.2)
     have HN2:Hid ((exW E sj (.mk k s z ks)).code.length+exsN (l.drop (j+1))≤1000000∧(exW E sj (.mk k s z ks)).cs.length+exsN (l.drop (j+1))≤1000000∧(exW E sj (.mk k s z ks)).sc.length≤1000000):=Lib.hid ⟨by omega,by omega,by rw [hcs.2]; exact hN.2.2⟩
     obtain ⟨s2,hs2⟩:∃ s2,Hid (exW E sj (.mk k s z ks)=s2):=⟨_,Lib.hid rfl⟩
     rw [hs2.out] at HXC HN2 HF2
     clear hrg hx hv hy HF HD hjl hcell HIH HIX HN hN hcs hcl HX hs2
     generalize strOf s=X at *
     go_wp2_with (first
       | (go_at_call 216
          refine HXC.out.mono ?_
          rintro e w1 ⟨rfl,hw1,hc1⟩
          have HW1:=Lib.hid hw1
          have HK1:=Lib.hid (HC1.out.trans hc1)
          clear hw1 hc1)
       | (fail))
     go_roundg g
     case measure=>omega
     case rel=>exact ⟨j+1,s2,by omega,by go_num,Lib.hid HF2.out.symm,HN2,HW1,HK1⟩
theorem ex_all (hS:∀ b,S b→b<base):∀ (N:Nat) (x:Ex) (d c c':Nat),SizeOf.sizeOf x<N→exR d x c=some c'→Nb x→ExC base K E nm pr S x
 | 0,x,d,c,c',h, _, _ => absurd h (by omega)
 | N + 1,.mk k s n l,d,c,c',hN,hr,hn=>by
   obtain ⟨h1,h2,-,-⟩:=exR_parts hr
   rw [Nb] at hn
   have hkids:∀ (l:List Ex) (d c c':Nat),(∀ y∈l,SizeOf.sizeOf y<N)→exsR d l c=some c'→Nbs l→∀ y∈l,ExC base K E nm pr S y:=by
     intro l
     induction l with
     | nil=>intro d c c' _ _ _ y hy; cases hy
     | cons z r ih =>
       intro d c c' hsz hx hnb y hy
       obtain ⟨c1,hz,hr⟩:=exsR_parts hx
       rw [Nbs] at hnb
       rcases List.mem_cons.1 hy with rfl | hy
       · exact ex_all hS N y _ _ _ (hsz _ (by simp)) hz hnb.1
       · exact ih _ _ _ (fun y hy=>hsz y (by simp [hy])) hr hnb.2 y hy
   have IK:=hkids l _ _ _ (fun y hy=>by
     have:=List.sizeOf_lt_of_mem hy
     simp at hN
     omega) h2 hn.2
   have IH:=exprsW_any hS l IK
   have hk:=rightX_kin h1
   by_cases h7:k=7
   · subst h7
     by_cases hs:opSkip s=0
     · exact ex_op hS s n l IH hs
     · obtain ⟨a,b,rfl⟩:=skip_two h1 ⟨rfl,hs⟩
       exact ex_skip hS s n a b hs (IK a (by simp)) (IK b (by simp))
   · have h0:k=1∨k=2∨k=3∨k=4∨k=5∨k=6∨k=8∨k=9∨k=10∨k=11:=by omega
     rcases h0 with rfl | rfl | rfl | rfl | rfl | rfl | rfl | rfl | rfl | rfl
     · have:0≤n:=by
         unfold rightX at h1
         rw [if_pos rfl] at h1
         simp only [Bool.and_eq_true,decide_eq_true_eq] at h1
         exact h1.1.2
       exact ex_int hS s n l IH (by omega) hn.1
     · have:0≤n:=by
         unfold rightX at h1
         rw [if_neg (show ¬ (2:Nat)=1 by omega),if_pos rfl] at h1
         simp only [Bool.and_eq_true,Bool.or_eq_true,beq_iff_eq] at h1
         omega
       exact ex_truth hS s n l IH (by omega) hn.1
     · exact ex_text hS s n l IH
     · exact ex_name hS s n l IH
     · exact ex_self hS s n l IH
     · exact ex_tuple hS s n l IH
     · exact ex_at hS s n l IH
     · exact ex_len hS s n l IH
     · exact ex_call hS s n l IH
     · exact ex_spawn hS s n l IH
theorem exs_all (hS:∀ b,S b→b<base) (l:List Ex) (d c c':Nat) (hr:exsR d l c=some c') (hn:Nbs l):ExsC base K E nm pr S l:=by
 refine exprsW_any hS l fun y hy=>?_
 have:∀ (l:List Ex) (c:Nat),exsR d l c=some c'→∀ y∈l,∃ a b,exR d y a=some b:=by
   intro l
   induction l with
   | nil=>intro c _ y hy; cases hy
   | cons z r ih =>
     intro c hx y hy
     obtain ⟨c1,hz,hr⟩:=exsR_parts hx
     rcases List.mem_cons.1 hy with rfl | hy
     · exact ⟨_, _,hz⟩
     · exact ih _ hr y hy
 obtain ⟨a,b,hab⟩:=this l c hr y hy
 exact ex_all hS _ y _ _ _ (Nat.lt_succ_self _) hab (hn.at y hy)
end
end Go.Proofs.YtcmopnkldplngabGreatDoor
