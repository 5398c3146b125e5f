/- Texts Ue,Uf,Ug of this seat in one: see each part. -/
import Derived.Test.YtcmopnkldplngabGreatDoorUad
import Derived.Test.YtcmopnkldplngabGreatDoorTlo
import Derived.Test.YtcmopnkldplngabGreatDoorTqt
import Derived.Test.YtcmopnkldplngabGreatDoorTuv
namespace Go.Proofs.YtcmopnkldplngabGreatDoor
open Go.RowKit
set_option linter.unusedVariables false
def nxS (d:Nat) (l:List Sm):Option Nat→Option Nat
 | none=>none
 | some c=>smsR d l c
theorem smsR_cons (d:Nat) (x:Sm) (l:List Sm) (c:Nat):smsR d (x :: l) c=nxS d l (smR d x c):=by
 rw [smsR]
 cases smR d x c <;> rfl
theorem smR_eq (d k:Nat) (s:List Nat) (xs:List Ex) (b e:List Sm) (ln:Int) (c:Nat) (h:¬ (c=0∨40<d)) (hr:rightS k s xs.length b.length e.length=true):smR d (.mk k s xs b e ln) c=nxS (d+1) e (nxS (d+1) b (exsR (d+1) xs (c-1))):=by
 rw [smR,if_neg h,if_neg (by rw [hr]; simp)]
 cases exsR (d+1) xs (c-1) with
 | none=>rfl
 | some c1 =>
   dsimp only
   show _ = nxS (d+1) e (smsR (d+1) b c1)
   cases smsR (d+1) b c1 <;> rfl
theorem smsR_le:∀ (d:Nat) (l:List Sm) (c c':Nat),smsR d l c=some c'→c'≤c:=by
 intro d l
 have key : ∀ (n:Nat),(∀ (x:Sm) (d c c':Nat),SizeOf.sizeOf x<n→smR d x c=some c'→c'≤c)∧(∀ (l:List Sm) (d c c':Nat),SizeOf.sizeOf l<n→smsR d l c=some c'→c'≤c):=by
   intro n
   induction n with
   | zero=>exact ⟨fun x d c c' h=>absurd h (by omega),fun x d c c' h=>absurd h (by omega)⟩
   | succ n ih =>
     refine ⟨fun x d c c' hs h=>?_,fun l d c c' hs h=>?_⟩
     · obtain ⟨k,s,xs,b,e,ln⟩:=x
       rw [smR] at h
       split at h
       · cases h
       · split at h
         · cases h
         · split at h
           · cases h
           · rename_i c1 h1
             split at h
             · cases h
             · rename_i c2 h2
               have i1:=exsR_le _ _ _ _ h1
               have i2:=ih.2 b (d+1) c1 c2 (by simp at hs; omega) h2
               have i3:=ih.2 e (d+1) c2 c' (by simp at hs; omega) h
               omega
     · cases l with
       | nil=>rw [smsR] at h; cases h; omega
       | cons x r =>
         rw [smsR] at h
         split at h
         · cases h
         · rename_i c1 h1
           have a:=ih.1 x d c c1 (by simp at hs; omega) h1
           have b:=ih.2 r d c1 c' (by simp at hs; omega) h
           omega
 exact fun c c' h=>(key (SizeOf.sizeOf l+1)).2 l d c c' (by omega) h
set_option maxRecDepth 100000 in
set_option maxHeartbeats 8000000 in
theorem stmts_step (wb:World) (hwb:Wt wb) (qc:Nat) (hqb:wb.heap.size≤qc) (d:Nat) (hd:d≤1000)
   (IX:d≤40→∀ (l:List Ex) (c:Nat) (w:World) (S:Nat→Prop) (v:Value),Below wb.heap.size wb w→(∀ b,S b→b<w.heap.size∧b≠qc)→Rd w S (.row 4 (l.map Ex.nd)) v→Ct w qc (c:Int)→c≤2000→Calls Tryz.prog 186 #[at0 qc,v,.int .i64 ((d:Int)+1)] w (OutR qc w (exsR (d+1) l c)))
   (IH:d≤40→∀ (l:List Sm) (c:Nat) (w:World) (S:Nat→Prop) (v:Value),Below wb.heap.size wb w→(∀ b,S b→b<w.heap.size∧b≠qc)→Rd w S (.row 6 (l.map Sm.nd)) v→Ct w qc (c:Int)→c≤2000→Calls Tryz.prog 150 #[at0 qc,v,.int .i64 ((d:Int)+1)] w (OutR qc w (smsR (d+1) l c)))
   (l:List Sm) (c:Nat) (w:World) (S:Nat→Prop) (v:Value) (hb:Below wb.heap.size wb w) (hS:∀ b,S b→b<w.heap.size∧b≠qc) (hr:Rd w S (.row 6 (l.map Sm.nd)) v) (hc:Ct w qc (c:Int)) (hc2:c≤2000) :
   Calls Tryz.prog 150 #[at0 qc,v,.int .i64 (d:Int)] w (OutR qc w (smsR d l c)):=by
 rw [Rd] at hr
 obtain ⟨A,cp,rfl,hcp,hcpm,hr⟩:=hr
 rw [List.length_map] at hcp ⊢
 have HR:=Lib.hid hr
 have HSS:=Lib.hid hS
 have HWB:=Lib.hid hwb
 have HB:=Lib.hid hb
 have HC:=Lib.hid hc
 have HIH:=Lib.hid IH
 have HIX:=Lib.hid IX
 obtain ⟨n,hn⟩:∃ n,Hid (l.length=n):=⟨_,Lib.hid rfl⟩
 rw [hn.out] at hcp ⊢
 obtain ⟨r,hrr⟩:∃ r,Hid (smsR d l c=r):=⟨_,Lib.hid rfl⟩
 rw [hrr.out]
 have HPA:=Lib.hid (fun w' (cc:Nat) (h':Ct w' qc (cc:Int)) (h2:cc≤2000)=>part_any qc cc d w' h' (by omega) (by omega))
 have hqc:=lt_heap hc
 unfold maxLen at hcpm
 clear hr hS hwb hb hc IH IX
 unfold at0 at *
 go_enter Tryz.func150,Tryz.ntmps150
 go_wp2_with fail
 go_loopg [11] n (fun g i wr=>∃ (j cj:Nat),j+g=n∧i = .int .i64 (j:Int)∧Hid (smsR d (l.drop j) cj=r)∧Hid (cj≤2000)∧Hid (Ct wr qc (cj:Int))∧Hid (Kp qc w wr))
 case atStart=>exact ⟨0,c,by omega,rfl,Lib.hid (by rw [List.drop_zero]; exact hrr.out),Lib.hid hc2,HC,Lib.hid (Kp.refl _ _)⟩
 case round =>
   obtain ⟨j,cj,hj,rfl,HF,HCL,HCJ,HKJ⟩:=hrel
   cases gk with
   | zero =>
     have h1:¬ (j:Int)<(n:Int):=by omega
     have HE:Hid (some cj=r):=Lib.hid (by rw [← HF.out,List.drop_eq_nil_of_le (by rw [hn.out]; omega),smsR])
     clear HF HPA HIH HIX
     go_wp2_with fail
     go_ret
     exact ⟨by rw [← HE.out]; rfl,⟨_,HCJ.out,fun c' h=>by rw [← HE.out] at h; cases h; rfl⟩,HKJ.out⟩
   | succ g =>
     have h1:(j:Int)<(n:Int):=by omega
     have h2:j<n:=by omega
     have hjl:j<l.length:=by rw [hn.out]; exact h2
     obtain ⟨b,o,vs,rfl,hSb,hvl,hrg,hx⟩:=HR.out.at j (Sm.nd l[j]) (by simp [hjl])
     have HD:=Lib.hid (List.drop_eq_getElem_cons hjl)
     generalize l[j]=x at *
     obtain ⟨k,s,xs,bs,es,ln⟩:=x
     obtain ⟨y,y',y'',hv,h8,hl8,hy,hy1,hy2⟩:=(Sm.rd k s xs bs es ln _).1 hx
     obtain ⟨A3,n3,c3,rfl,hn3⟩:∃ A n c,y = .slice A n c∧n=xs.length:=by have:=hy; rw [Rd] at this; obtain ⟨A,c,rfl,-⟩:=this; exact ⟨A, _,c,rfl,by simp⟩
     obtain ⟨A4,n4,c4,rfl,hn4⟩:∃ A n c,y' = .slice A n c∧n=bs.length:=by have:=hy1; rw [Rd] at this; obtain ⟨A,c,rfl,-⟩:=this; exact ⟨A, _,c,rfl,by simp⟩
     obtain ⟨A5,n5,c5,rfl,hn5⟩:∃ A n c,y'' = .slice A n c∧n=es.length:=by have:=hy2; rw [Rd] at this; obtain ⟨A,c,rfl,-⟩:=this; exact ⟨A, _,c,rfl,by simp⟩
     have hv2:vs=[.int .u8 (k:Int),.string (strOf s),.slice A3 n3 c3,.slice A4 n4 c4,.slice A5 n5 c5,.int .i64 ln]:=by
       injection hv with hv
       have:=congrArg Array.toList hv
       simpa using this
     subst hv2
     have hcell:∀ i u,[Value.int .u8 (k:Int),.string (strOf s),.slice A3 n3 c3,.slice A4 n4 c4,.slice A5 n5 c5,.int .i64 ln][i]?=some u→wr.cell? ⟨b,o+j*6+i,none⟩=some u:=fun i u hu=>by
       have:=hrg i u hu
       rw [Nat.zero_add] at this
       exact (HKJ.out.cellq (p:=⟨b,o+j*6+i,none⟩) (HSS.out b hSb).1 (HSS.out b hSb).2).trans this
     have y0:wr.cell? ⟨b,o+j*6,none⟩=some (.int .u8 (k:Int)):=hcell 0 _ rfl
     have y1:=hcell 1 _ rfl
     have y2:=hcell 2 _ rfl
     have y3:=hcell 3 _ rfl
     have y4:=hcell 4 _ rfl
     have y5:=hcell 5 _ rfl
     have HY:=Lib.hid (And.intro hy (And.intro hy1 hy2))
     have HREX:=Lib.hid (fun w' (h':Wt w')=>rightStmt_any k s n3 n4 n5 A3 A4 A5 c3 c4 c5 ln h8 hl8 w' h')
     have HF2:=Lib.hid (HF.out.symm.trans (by rw [HD.out,smsR_cons]))
     have HP:=Lib.hid (HPA.out (wr.alloc (.cells #[.int .u8 (k:Int),.string (strOf s),.slice A3 n3 c3,.slice A4 n4 c4,.slice A5 n5 c5,.int .i64 ln] 218)) cj (heap_old HCJ.out _) HCL.out)
     have HQ:=Lib.hid (heap_new wr (.cells #[.int .u8 (k:Int),.string (strOf s),.slice A3 n3 c3,.slice A4 n4 c4,.slice A5 n5 c5,.int .i64 ln] 218))
     have hqr:qc<wr.heap.size:=lt_heap HCJ.out
     have hqn:¬ wr.heap.size=qc:=by omega
     have hbr:b<wr.heap.size:=Nat.lt_of_lt_of_le (HSS.out b hSb).1 HKJ.out.size
     have HNN:=Lib.hid (And.intro hn3 (And.intro hn4 hn5))
     clear hrg hx hv h8 hl8 hy hy1 hy2 HF HD hjl hcell hn3 hn4 hn5
     by_cases hpt:cj=0∨40<d
     · have HE:Hid (none=r):=Lib.hid (by rw [HF2.out,smR,if_pos hpt]; rfl)
       rw [decide_eq_false (fun hh=>hh hpt)] at HP
       clear hpt HF2 HREX HIH HIX HPA
       go_wp2_with (first
         | (go_at_call 184
            refine HP.out.mono ?_
            rintro e w1 ⟨rfl,hc1,hk1⟩
            have HC1:=Lib.hid hc1
            have HK1:=Lib.hid ((HKJ.out.alloc _).trans hk1)
            clear hc1 hk1)
         | (fail))
       go_ret
       exact ⟨by rw [← HE.out]; rfl,⟨_,HC1.out,fun c' h=>by rw [← HE.out] at h; cases h⟩,HK1.out⟩
     · rw [decide_eq_true hpt] at HP
       have hc0:¬ cj=0:=fun hh=>hpt (.inl hh)
       have hd40:d≤40:=by omega
       cases hrx:rightS k s n3 n4 n5 with
       | false =>
         have HE:Hid (none=r):=Lib.hid (by rw [HF2.out,smR,if_neg hpt,← HNN.out.1,← HNN.out.2.1,← HNN.out.2.2,if_pos hrx]; rfl)
         rw [hrx] at HREX
         clear hpt HF2 HIH HIX HPA hrx
         go_wp2_with (first
           | (go_at_call 184
              refine HP.out.mono ?_
              rintro e w1 ⟨rfl,hc1,hk1⟩
              have HC1:=Lib.hid hc1
              have HK1:=Lib.hid ((HKJ.out.alloc _).trans hk1)
              have hQ1:=hk1.heap HQ.out hqn
              have HQ1:=Lib.hid hQ1
              obtain ⟨⟨z0,z1,z2,z3,z4,z5⟩,-⟩:=bx6 hQ1
              clear hc1 hk1 hQ1)
           | (go_at_call 185
              refine (HREX.out _ (HWB.out.below (HB.out.trans (HK1.out.below hqb HB.out.size)))).mono ?_
              rintro e w2 ⟨rfl,hb2⟩
              have HC2:Hid (Ct w2 qc ((cj:Int)-1)):=Lib.hid (heap_below HC1.out hb2)
              have HK2:=Lib.hid (HK1.out.trans (Kp.of_below hb2))
              have hQ2:=heap_below HQ1.out hb2
              have HQ2:=Lib.hid hQ2
              obtain ⟨⟨x0,x1,x2,x3,x4,x5⟩,-⟩:=bx6 hQ2
              clear hb2 hQ2)
           | (fail))
         go_ret
         exact ⟨by rw [← HE.out]; rfl,⟨_,HC2.out,fun c' h=>by rw [← HE.out] at h; cases h⟩,HK2.out⟩
       | true =>
         rw [hrx] at HREX
         have HF3:Hid (r=nxS d (l.drop (j+1)) (nxS (d+1) es (nxS (d+1) bs (exsR (d+1) xs (cj-1))))):=Lib.hid (by rw [HF2.out,smR_eq d k s xs bs es ln cj hpt (by rw [← HNN.out.1,← HNN.out.2.1,← HNN.out.2.2]; exact hrx)])
         have HCC:Hid (¬ cj=0):=Lib.hid hc0
         have HIX2:=Lib.hid (fun w' S' v' a1 a2 a3 a4=>HIX.out hd40 xs (cj-1) w' S' v' a1 a2 a3 a4 (by have:=HCL.out; omega))
         have HIHc:=Lib.hid (HIH.out hd40)
         have HXL:=Lib.hid (exsR_le (d+1) xs (cj-1))
         clear hpt HF2 HPA hrx hc0 HIH HIX hd40
         generalize exsR (d+1) xs (cj-1)=r1 at *
         cases r1 with
         | none =>
           have HE:Hid (none=r):=Lib.hid (by rw [HF3.out]; rfl)
           clear HF3 HIHc HXL
           go_wp2_with (first
             | (go_at_call 184
                refine HP.out.mono ?_
                rintro e w1 ⟨rfl,hc1,hk1⟩
                have HC1:=Lib.hid hc1
                have HK1:=Lib.hid ((HKJ.out.alloc _).trans hk1)
                have hQ1:=hk1.heap HQ.out hqn
                have HQ1:=Lib.hid hQ1
                obtain ⟨⟨z0,z1,z2,z3,z4,z5⟩,-⟩:=bx6 hQ1
                clear hc1 hk1 hQ1)
             | (go_at_call 185
                refine (HREX.out _ (HWB.out.below (HB.out.trans (HK1.out.below hqb HB.out.size)))).mono ?_
                rintro e w2 ⟨rfl,hb2⟩
                have HC2:Hid (Ct w2 qc ((cj:Int)-1)):=Lib.hid (heap_below HC1.out hb2)
                have HK2:=Lib.hid (HK1.out.trans (Kp.of_below hb2))
                have hQ2:=heap_below HQ1.out hb2
                have HQ2:=Lib.hid hQ2
                obtain ⟨⟨x0,x1,x2,x3,x4,x5⟩,-⟩:=bx6 hQ2
                clear hb2 hQ2)
             | (go_at_call 186
                refine (HIX2.out _ S _ (HB.out.trans (HK2.out.below hqb HB.out.size)) (fun b hb=>⟨Nat.lt_of_lt_of_le (HSS.out b hb).1 HK2.out.size,(HSS.out b hb).2⟩) (Rd.keep (fun p hp=>HK2.out.cellq (HSS.out _ hp).1 (HSS.out _ hp).2) (fun _ h=>h) _ _ HY.out.1) (ct_pred HC2.out HCC.out)).mono ?_
                rintro e w3 ⟨rfl,⟨z,hz,hz2⟩,hk3⟩
                have HZ:=Lib.hid hz
                have HZ2:=Lib.hid hz2
                have HK3:=Lib.hid (HK2.out.trans hk3)
                have hQ3:=hk3.heap HQ2.out hqn
                have HQ3:=Lib.hid hQ3
                obtain ⟨⟨u0,u1,u2,u3,u4,u5⟩,-⟩:=bx6 hQ3
                clear hz hz2 hk3 hQ3)
             | (fail))
           go_ret
           exact ⟨by rw [← HE.out]; rfl,⟨z,HZ.out,fun c' h=>by rw [← HE.out] at h; cases h⟩,HK3.out⟩
         | some c6 =>
           have HL6:Hid (c6≤2000):=Lib.hid (by have:=HXL.out c6 rfl; have:=HCL.out; omega)
           have HF4:Hid (r=nxS d (l.drop (j+1)) (nxS (d+1) es (smsR (d+1) bs c6))):=Lib.hid HF3.out
           have HIB:=Lib.hid (fun w' S' v' a1 a2 a3 a4=>HIHc.out bs c6 w' S' v' a1 a2 a3 a4 HL6.out)
           have HBL:=Lib.hid (smsR_le (d+1) bs c6)
           clear HF3 HXL
           generalize smsR (d+1) bs c6=r2 at *
           cases r2 with
           | none =>
             have HE:Hid (none=r):=Lib.hid (by rw [HF4.out]; rfl)
             clear HF4 HIHc HBL
             go_wp2_with (first
               | (go_at_call 184
                  refine HP.out.mono ?_
                  rintro e w1 ⟨rfl,hc1,hk1⟩
                  have HC1:=Lib.hid hc1
                  have HK1:=Lib.hid ((HKJ.out.alloc _).trans hk1)
                  have hQ1:=hk1.heap HQ.out hqn
                  have HQ1:=Lib.hid hQ1
                  obtain ⟨⟨z0,z1,z2,z3,z4,z5⟩,-⟩:=bx6 hQ1
                  clear hc1 hk1 hQ1)
               | (go_at_call 185
                  refine (HREX.out _ (HWB.out.below (HB.out.trans (HK1.out.below hqb HB.out.size)))).mono ?_
                  rintro e w2 ⟨rfl,hb2⟩
                  have HC2:Hid (Ct w2 qc ((cj:Int)-1)):=Lib.hid (heap_below HC1.out hb2)
                  have HK2:=Lib.hid (HK1.out.trans (Kp.of_below hb2))
                  have hQ2:=heap_below HQ1.out hb2
                  have HQ2:=Lib.hid hQ2
                  obtain ⟨⟨x0,x1,x2,x3,x4,x5⟩,-⟩:=bx6 hQ2
                  clear hb2 hQ2)
               | (go_at_call 186
                  refine (HIX2.out _ S _ (HB.out.trans (HK2.out.below hqb HB.out.size)) (fun b hb=>⟨Nat.lt_of_lt_of_le (HSS.out b hb).1 HK2.out.size,(HSS.out b hb).2⟩) (Rd.keep (fun p hp=>HK2.out.cellq (HSS.out _ hp).1 (HSS.out _ hp).2) (fun _ h=>h) _ _ HY.out.1) (ct_pred HC2.out HCC.out)).mono ?_
                  rintro e w3 ⟨rfl,⟨z,hz,hz2⟩,hk3⟩
                  have HZ:=Lib.hid hz
                  have HZ2:=Lib.hid hz2
                  have HK3:=Lib.hid (HK2.out.trans hk3)
                  have hQ3:=hk3.heap HQ2.out hqn
                  have HQ3:=Lib.hid hQ3
                  obtain ⟨⟨u0,u1,u2,u3,u4,u5⟩,-⟩:=bx6 hQ3
                  clear hz hz2 hk3 hQ3)
               | (go_at_call 150
                  refine (HIB.out _ S _ (HB.out.trans (HK3.out.below hqb HB.out.size)) (fun b hb=>⟨Nat.lt_of_lt_of_le (HSS.out b hb).1 HK3.out.size,(HSS.out b hb).2⟩) (Rd.keep (fun p hp=>HK3.out.cellq (HSS.out _ hp).1 (HSS.out _ hp).2) (fun _ h=>h) _ _ HY.out.2.1) (by rw [← HZ2.out c6 rfl]; exact HZ.out)).mono ?_
                  rintro e w4 ⟨rfl,⟨z',hz,hz2⟩,hk3⟩
                  have HZb:=Lib.hid hz
                  have HZb2:=Lib.hid hz2
                  have HK4:=Lib.hid (HK3.out.trans hk3)
                  have hQ4:=hk3.heap HQ3.out hqn
                  have HQ4:=Lib.hid hQ4
                  obtain ⟨⟨v0,v1,v2,v3,v4,v5⟩,-⟩:=bx6 hQ4
                  clear hz hz2 hk3 hQ4)
               | (fail))
             go_ret
             exact ⟨by rw [← HE.out]; rfl,⟨z',HZb.out,fun c' h=>by rw [← HE.out] at h; cases h⟩,HK4.out⟩
           | some c7 =>
             have HL7:Hid (c7≤2000):=Lib.hid (by have:=HBL.out c7 rfl; have:=HL6.out; omega)
             have HF5:Hid (r=nxS d (l.drop (j+1)) (smsR (d+1) es c7)):=Lib.hid HF4.out
             have HIE:=Lib.hid (fun w' S' v' a1 a2 a3 a4=>HIHc.out es c7 w' S' v' a1 a2 a3 a4 HL7.out)
             have HEL:=Lib.hid (smsR_le (d+1) es c7)
             clear HF4 HBL HIHc
             generalize smsR (d+1) es c7=r3 at *
             cases r3 with
             | none =>
               have HE:Hid (none=r):=Lib.hid (by rw [HF5.out]; rfl)
               clear HF5 HEL
               go_wp2_with (first
                 | (go_at_call 184
                    refine HP.out.mono ?_
                    rintro e w1 ⟨rfl,hc1,hk1⟩
                    have HC1:=Lib.hid hc1
                    have HK1:=Lib.hid ((HKJ.out.alloc _).trans hk1)
                    have hQ1:=hk1.heap HQ.out hqn
                    have HQ1:=Lib.hid hQ1
                    obtain ⟨⟨z0,z1,z2,z3,z4,z5⟩,-⟩:=bx6 hQ1
                    clear hc1 hk1 hQ1)
                 | (go_at_call 185
                    refine (HREX.out _ (HWB.out.below (HB.out.trans (HK1.out.below hqb HB.out.size)))).mono ?_
                    rintro e w2 ⟨rfl,hb2⟩
                    have HC2:Hid (Ct w2 qc ((cj:Int)-1)):=Lib.hid (heap_below HC1.out hb2)
                    have HK2:=Lib.hid (HK1.out.trans (Kp.of_below hb2))
                    have hQ2:=heap_below HQ1.out hb2
                    have HQ2:=Lib.hid hQ2
                    obtain ⟨⟨x0,x1,x2,x3,x4,x5⟩,-⟩:=bx6 hQ2
                    clear hb2 hQ2)
                 | (go_at_call 186
                    refine (HIX2.out _ S _ (HB.out.trans (HK2.out.below hqb HB.out.size)) (fun b hb=>⟨Nat.lt_of_lt_of_le (HSS.out b hb).1 HK2.out.size,(HSS.out b hb).2⟩) (Rd.keep (fun p hp=>HK2.out.cellq (HSS.out _ hp).1 (HSS.out _ hp).2) (fun _ h=>h) _ _ HY.out.1) (ct_pred HC2.out HCC.out)).mono ?_
                    rintro e w3 ⟨rfl,⟨z,hz,hz2⟩,hk3⟩
                    have HZ:=Lib.hid hz
                    have HZ2:=Lib.hid hz2
                    have HK3:=Lib.hid (HK2.out.trans hk3)
                    have hQ3:=hk3.heap HQ2.out hqn
                    have HQ3:=Lib.hid hQ3
                    obtain ⟨⟨u0,u1,u2,u3,u4,u5⟩,-⟩:=bx6 hQ3
                    clear hz hz2 hk3 hQ3)
                 | (go_at_call 150
                    refine (HIB.out _ S _ (HB.out.trans (HK3.out.below hqb HB.out.size)) (fun b hb=>⟨Nat.lt_of_lt_of_le (HSS.out b hb).1 HK3.out.size,(HSS.out b hb).2⟩) (Rd.keep (fun p hp=>HK3.out.cellq (HSS.out _ hp).1 (HSS.out _ hp).2) (fun _ h=>h) _ _ HY.out.2.1) (by rw [← HZ2.out c6 rfl]; exact HZ.out)).mono ?_
                    rintro e w4 ⟨rfl,⟨z',hz,hz2⟩,hk3⟩
                    have HZb:=Lib.hid hz
                    have HZb2:=Lib.hid hz2
                    have HK4:=Lib.hid (HK3.out.trans hk3)
                    have hQ4:=hk3.heap HQ3.out hqn
                    have HQ4:=Lib.hid hQ4
                    obtain ⟨⟨v0,v1,v2,v3,v4,v5⟩,-⟩:=bx6 hQ4
                    clear hz hz2 hk3 hQ4 HIB)
                 | (go_at_call 150
                    refine (HIE.out _ S _ (HB.out.trans (HK4.out.below hqb HB.out.size)) (fun b hb=>⟨Nat.lt_of_lt_of_le (HSS.out b hb).1 HK4.out.size,(HSS.out b hb).2⟩) (Rd.keep (fun p hp=>HK4.out.cellq (HSS.out _ hp).1 (HSS.out _ hp).2) (fun _ h=>h) _ _ HY.out.2.2) (by rw [← HZb2.out c7 rfl]; exact HZb.out)).mono ?_
                    rintro e w5 ⟨rfl,⟨z'',hz,hz2⟩,hk3⟩
                    have HZe:=Lib.hid hz
                    have HZe2:=Lib.hid hz2
                    have HK5:=Lib.hid (HK4.out.trans hk3)
                    clear hz hz2 hk3)
                 | (fail))
               go_ret
               exact ⟨by rw [← HE.out]; rfl,⟨z'',HZe.out,fun c' h=>by rw [← HE.out] at h; cases h⟩,HK5.out⟩
             | some c8 =>
               have HL8:Hid (c8≤2000):=Lib.hid (by have:=HEL.out c8 rfl; have:=HL7.out; omega)
               have HF6:Hid (smsR d (l.drop (j+1)) c8=r):=Lib.hid HF5.out.symm
               clear HF5 HEL
               go_wp2_with (first
                 | (go_at_call 184
                    refine HP.out.mono ?_
                    rintro e w1 ⟨rfl,hc1,hk1⟩
                    have HC1:=Lib.hid hc1
                    have HK1:=Lib.hid ((HKJ.out.alloc _).trans hk1)
                    have hQ1:=hk1.heap HQ.out hqn
                    have HQ1:=Lib.hid hQ1
                    obtain ⟨⟨z0,z1,z2,z3,z4,z5⟩,-⟩:=bx6 hQ1
                    clear hc1 hk1 hQ1)
                 | (go_at_call 185
                    refine (HREX.out _ (HWB.out.below (HB.out.trans (HK1.out.below hqb HB.out.size)))).mono ?_
                    rintro e w2 ⟨rfl,hb2⟩
                    have HC2:Hid (Ct w2 qc ((cj:Int)-1)):=Lib.hid (heap_below HC1.out hb2)
                    have HK2:=Lib.hid (HK1.out.trans (Kp.of_below hb2))
                    have hQ2:=heap_below HQ1.out hb2
                    have HQ2:=Lib.hid hQ2
                    obtain ⟨⟨x0,x1,x2,x3,x4,x5⟩,-⟩:=bx6 hQ2
                    clear hb2 hQ2)
                 | (go_at_call 186
                    refine (HIX2.out _ S _ (HB.out.trans (HK2.out.below hqb HB.out.size)) (fun b hb=>⟨Nat.lt_of_lt_of_le (HSS.out b hb).1 HK2.out.size,(HSS.out b hb).2⟩) (Rd.keep (fun p hp=>HK2.out.cellq (HSS.out _ hp).1 (HSS.out _ hp).2) (fun _ h=>h) _ _ HY.out.1) (ct_pred HC2.out HCC.out)).mono ?_
                    rintro e w3 ⟨rfl,⟨z,hz,hz2⟩,hk3⟩
                    have HZ:=Lib.hid hz
                    have HZ2:=Lib.hid hz2
                    have HK3:=Lib.hid (HK2.out.trans hk3)
                    have hQ3:=hk3.heap HQ2.out hqn
                    have HQ3:=Lib.hid hQ3
                    obtain ⟨⟨u0,u1,u2,u3,u4,u5⟩,-⟩:=bx6 hQ3
                    clear hz hz2 hk3 hQ3)
                 | (go_at_call 150
                    refine (HIB.out _ S _ (HB.out.trans (HK3.out.below hqb HB.out.size)) (fun b hb=>⟨Nat.lt_of_lt_of_le (HSS.out b hb).1 HK3.out.size,(HSS.out b hb).2⟩) (Rd.keep (fun p hp=>HK3.out.cellq (HSS.out _ hp).1 (HSS.out _ hp).2) (fun _ h=>h) _ _ HY.out.2.1) (by rw [← HZ2.out c6 rfl]; exact HZ.out)).mono ?_
                    rintro e w4 ⟨rfl,⟨z',hz,hz2⟩,hk3⟩
                    have HZb:=Lib.hid hz
                    have HZb2:=Lib.hid hz2
                    have HK4:=Lib.hid (HK3.out.trans hk3)
                    have hQ4:=hk3.heap HQ3.out hqn
                    have HQ4:=Lib.hid hQ4
                    obtain ⟨⟨v0,v1,v2,v3,v4,v5⟩,-⟩:=bx6 hQ4
                    clear hz hz2 hk3 hQ4 HIB)
                 | (go_at_call 150
                    refine (HIE.out _ S _ (HB.out.trans (HK4.out.below hqb HB.out.size)) (fun b hb=>⟨Nat.lt_of_lt_of_le (HSS.out b hb).1 HK4.out.size,(HSS.out b hb).2⟩) (Rd.keep (fun p hp=>HK4.out.cellq (HSS.out _ hp).1 (HSS.out _ hp).2) (fun _ h=>h) _ _ HY.out.2.2) (by rw [← HZb2.out c7 rfl]; exact HZb.out)).mono ?_
                    rintro e w5 ⟨rfl,⟨z'',hz,hz2⟩,hk3⟩
                    have HZe:=Lib.hid hz
                    have HZe2:=Lib.hid hz2
                    have HK5:=Lib.hid (HK4.out.trans hk3)
                    clear hz hz2 hk3)
                 | (fail))
               go_roundg g
               case measure=>omega
               case rel=>exact ⟨j+1,c8,by omega,by go_num,HF6,HL8,Lib.hid (by rw [← HZe2.out c8 rfl]; exact HZe.out),HK5⟩
theorem stmts_any (wb:World) (hwb:Wt wb) (qc:Nat) (hqb:wb.heap.size≤qc):∀ (L d:Nat),d+L=42→∀ (l:List Sm) (c:Nat) (w:World) (S:Nat→Prop) (v:Value),Below wb.heap.size wb w→(∀ b,S b→b<w.heap.size∧b≠qc)→Rd w S (.row 6 (l.map Sm.nd)) v→Ct w qc (c:Int)→c≤2000→Calls Tryz.prog 150 #[at0 qc,v,.int .i64 (d:Int)] w (OutR qc w (smsR d l c))
 | 0,d,hd=>fun l c w S v hb hS hr hc hc2=>stmts_step wb hwb qc hqb d (by omega) (fun h=>absurd h (by omega)) (fun h=>absurd h (by omega)) l c w S v hb hS hr hc hc2
 | L+1,d,hd=>fun l c w S v hb hS hr hc hc2=>stmts_step wb hwb qc hqb d (by omega) (fun _ l c w S v hb hS hr hc hc2=>exprs_any wb hwb qc hqb L (d+1) (by omega) l c w S v hb hS hr hc hc2) (fun _ l c w S v hb hS hr hc hc2=>stmts_any wb hwb qc hqb L (d+1) (by omega) l c w S v hb hS hr hc hc2) l c w S v hb hS hr hc hc2
end Go.Proofs.YtcmopnkldplngabGreatDoor
namespace Go.Proofs.YtcmopnkldplngabGreatDoor
open Go.RowKit
set_option linter.unusedVariables false
set_option maxRecDepth 100000 in
set_option maxHeartbeats 4000000 in
theorem bodyC_any (wb:World) (hwb:Wt wb) (qc:Nat) (hqb:wb.heap.size≤qc) (b:Bd) (c:Nat) (w:World) (S:Nat→Prop) (v:Value) (hb:Below wb.heap.size wb w) (hS:∀ b,S b→b<w.heap.size∧b≠qc) (hr:Rd w S b.nd v) (hc:Ct w qc (c:Int)) (hc2:c≤2000) :
   Calls Tryz.prog 103 #[at0 qc,v] w (OutR qc w (bodyR b c)):=by
 obtain ⟨s,ps,st,ln⟩:=b
 obtain ⟨yp,ys,rfl,h8,hl8,hp,hs⟩:=(hd_rd s ps 6 (st.map Sm.nd) ln v).1 hr
 obtain ⟨A1,n1,c1,rfl⟩:=hp.row_form
 obtain ⟨A2,n2,c2,rfl⟩:=hs.row_form
 have HB:=Lib.hid hb
 have HSS:=Lib.hid hS
 have HC:=Lib.hid hc
 have HQ:=Lib.hid (heap_new w (.cells #[.string (strOf s),.slice A1 n1 c1,.slice A2 n2 c2,.int .i64 ln] 87))
 have hbel:∀ o,Below w.heap.size w (w.alloc o):=fun o=>(Below.refl _ w).alloc (Nat.le_refl _) o
 have HH:=Lib.hid (fun o=>rightHead_any s ps S (.slice A1 n1 c1) (w.alloc o) (hwb.below (hb.trans ((hbel o).mono hb.size))) h8 hl8 (fun b hb=>by have:=(hS b hb).1; simp; omega) (Rd.keep (fun p hp=>(hbel o).cell (hS _ hp).1) (fun _ h=>h) _ _ hp))
 have HST:=Lib.hid (fun w' a1 a2 a3 a4=>stmts_any wb hwb qc hqb 41 1 (by omega) st c w' S (.slice A2 n2 c2) a1 a2 a3 a4 hc2)
 have hqn:¬ w.heap.size=qc:=by have:=lt_heap hc; omega
 have HY:=Lib.hid hs
 have HBL:=Lib.hid hbel
 unfold bodyR
 clear hr hp hs hb hS hc hwb hbel
 cases hh:headR s ps with
 | false =>
   rw [hh] at HH
   rw [if_neg (by simp)]
   clear hh HST
   unfold at0 at *
   go_enter Tryz.func103,Tryz.ntmps103
   go_wp2_with (first
     | (go_at_call 149
        refine (HH.out _).mono ?_
        rintro e w1 ⟨rfl,hb1⟩
        have hb':Below w.heap.size w w1:=(HBL.out _).trans (hb1.mono (by simp))
        have HC1:=Lib.hid (show Ct w1 qc (c:Int) from heap_below HC.out hb')
        have HK1:=Lib.hid (Kp.of_below (b:=qc) hb')
        clear hb1 hb')
     | (fail))
   go_ret
   exact ⟨rfl,⟨_,HC1.out,fun c' h=>by cases h⟩,HK1.out⟩
 | true =>
   rw [hh] at HH
   rw [if_pos rfl]
   clear hh
   unfold at0 at *
   go_enter Tryz.func103,Tryz.ntmps103
   generalize hrr:smsR 1 st c=r at *
   cases r
   all_goals
     go_wp2_with (first
       | (go_at_call 149
          refine (HH.out _).mono ?_
          rintro e w1 ⟨rfl,hb1⟩
          have hb':Below w.heap.size w w1:=(HBL.out _).trans (hb1.mono (by simp))
          have HB1:=Lib.hid hb'
          have HC1:=Lib.hid (show Ct w1 qc (c:Int) from heap_below HC.out hb')
          have HK1:=Lib.hid (Kp.of_below (b:=qc) hb')
          obtain ⟨⟨z0,z1,z2,z3⟩,-⟩:=box4f (heap_below HQ.out hb1)
          clear hb1 hb')
       | (go_at_call 150
          refine (HST.out _ (HB.out.trans (HB1.out.mono HB.out.size)) (fun b hb=>⟨Nat.lt_of_lt_of_le (HSS.out b hb).1 HB1.out.size,(HSS.out b hb).2⟩) (Rd.keep (fun p hp=>HB1.out.cell (HSS.out _ hp).1) (fun _ h=>h) _ _ HY.out) HC1.out).mono ?_
          rintro e w2 ⟨rfl,⟨z,hz,hz2⟩,hk2⟩
          have HZ:=Lib.hid hz
          have HZ2:=Lib.hid hz2
          have HK2:=Lib.hid (HK1.out.trans hk2)
          clear hz hz2 hk2)
       | (fail))
     go_ret
     exact ⟨rfl,⟨z,HZ.out,HZ2.out⟩,HK2.out⟩
theorem bodiesR_le:∀ (l:List Bd) (c c':Nat),bodiesR l c=some c'→c'≤c
 | [],c,c',h=>by cases h; omega
 | x :: r,c,c',h=>by
   rw [bodiesR] at h
   split at h
   · cases h
   · rename_i c1 h1
     have:=bodiesR_le r c1 c' h
     unfold bodyR at h1
     split at h1
     · have:=smsR_le _ _ _ _ h1
       omega
     · cases h1
def nxB (l:List Bd):Option Nat→Option Nat
 | none=>none
 | some c=>bodiesR l c
theorem bodiesR_cons (x:Bd) (l:List Bd) (c:Nat):bodiesR (x :: l) c=nxB l (bodyR x c):=by
 rw [bodiesR]
 cases bodyR x c <;> rfl
def nxL (l:List Rl):Option Nat→Option Nat
 | none=>none
 | some c=>rolesR l c
theorem rolesR_cons (x:Rl) (l:List Rl) (c:Nat):rolesR (x :: l) c=nxL l (roleR x c):=by
 rw [rolesR]
 cases roleR x c <;> rfl
theorem roleR_le (x:Rl) (c c':Nat) (h:roleR x c=some c'):c'≤c:=by
 unfold roleR at h
 split at h
 · exact bodiesR_le _ _ _ h
 · cases h
theorem bodyR_le (x:Bd) (c c':Nat) (h:bodyR x c=some c'):c'≤c:=by
 unfold bodyR at h
 split at h
 · exact smsR_le _ _ _ _ h
 · cases h
end Go.Proofs.YtcmopnkldplngabGreatDoor
namespace Go.Proofs.YtcmopnkldplngabGreatDoor
open Go.RowKit
set_option linter.unusedVariables false
set_option maxRecDepth 100000 in
set_option maxHeartbeats 8000000 in
theorem roleC_any (wb:World) (hwb:Wt wb) (qc:Nat) (hqb:wb.heap.size≤qc) (x:Rl) (c:Nat) (w:World) (S:Nat→Prop) (v:Value) (hb:Below wb.heap.size wb w) (hS:∀ b,S b→b<w.heap.size∧b≠qc) (hr:Rd w S x.nd v) (hc:Ct w qc (c:Int)) (hc2:c≤2000) :
   Calls Tryz.prog 104 #[at0 qc,v] w (OutR qc w (roleR x c)):=by
 obtain ⟨s,ps,l,ln⟩:=x
 obtain ⟨yp,ys,rfl,h8,hl8,hp,hs⟩:=(hd_rd s ps 4 (l.map Bd.nd) ln v).1 hr
 obtain ⟨A1,n1,c1,rfl⟩:=hp.row_form
 rw [Rd] at hs
 obtain ⟨A,cp,rfl,hcp,hcpm,hs⟩:=hs
 rw [List.length_map] at hcp ⊢
 obtain ⟨n,hnn⟩:∃ n,Hid (l.length=n):=⟨_,Lib.hid rfl⟩
 rw [hnn.out] at hcp ⊢
 have HBB:=Lib.hid hb
 have HSS:=Lib.hid hS
 have HC:=Lib.hid hc
 have HCL0:=Lib.hid hc2
 have HWB:=Lib.hid hwb
 have HR:=Lib.hid hs
 have HQ:=Lib.hid (heap_new w (.cells #[.string (strOf s),.slice A1 n1 c1,.slice A n cp,.int .i64 ln] 90))
 have hbel:∀ o,Below w.heap.size w (w.alloc o):=fun o=>(Below.refl _ w).alloc (Nat.le_refl _) o
 have HH:=Lib.hid (fun o=>rightHead_any s ps S (.slice A1 n1 c1) (w.alloc o) (hwb.below (hb.trans ((hbel o).mono hb.size))) h8 hl8 (fun b hb=>by have:=(hS b hb).1; simp; omega) (Rd.keep (fun p hp=>(hbel o).cell (hS _ hp).1) (fun _ h=>h) _ _ hp))
 have hqn0:¬ w.heap.size=qc:=by have:=lt_heap hc; omega
 have HBL:=Lib.hid hbel
 obtain ⟨r,HRR0⟩:∃ r,Hid (roleR ⟨s,ps,l,ln⟩ c=r):=⟨_,Lib.hid rfl⟩
 rw [HRR0.out]
 unfold maxLen at hcpm
 clear hr hp hs hb hS hc hwb hbel
 by_cases hg:headR s ps=true∧n≤60
 · rw [hg.1] at HH
   have hgn:¬ (n:Int) > 60:=by have:=hg.2; omega
   have hgn2:¬ (60:Int)<(n:Int):=by have:=hg.2; omega
   have HRR:Hid (bodiesR l c=r):=Lib.hid (by
     rw [← HRR0.out]
     unfold roleR
     rw [if_pos (by rw [hg.1,hnn.out,decide_eq_true hg.2]; rfl)])
   clear hg HRR0
   unfold at0 at *
   go_enter Tryz.func104,Tryz.ntmps104
   go_wp2_with (first
     | (go_at_call 149
        refine (HH.out _).mono ?_
        rintro e w1 ⟨rfl,hb1⟩
        have hb':Below w.heap.size w w1:=(HBL.out _).trans (hb1.mono (by simp))
        have HC1:=Lib.hid (show Ct w1 qc (c:Int) from heap_below HC.out hb')
        have HK1:=Lib.hid (Kp.of_below (b:=qc) hb')
        obtain ⟨⟨z0,z1,z2,z3⟩,-⟩:=box4f (heap_below HQ.out hb1)
        clear hb1 hb')
     | (fail))
   go_loopg [22] n (fun g i wr=>∃ (j cj:Nat),j+g=n∧i = .int .i64 (j:Int)∧Hid (bodiesR (l.drop j) cj=r)∧Hid (cj≤2000)∧Hid (Ct wr qc (cj:Int))∧Hid (Kp qc w wr))
   case atStart=>exact ⟨0,c,by omega,rfl,Lib.hid (by rw [List.drop_zero]; exact HRR.out),HCL0,HC1,HK1⟩
   case round =>
     obtain ⟨j,cj,hj,rfl,HF,HCL,HCJ,HKJ⟩:=hrel
     cases gk with
     | zero =>
       have h1:¬ (j:Int)<(n:Int):=by omega
       have HE:Hid (some cj=r):=Lib.hid (by rw [← HF.out,List.drop_eq_nil_of_le (by rw [hnn.out]; omega),bodiesR])
       clear HF
       go_wp2_with fail
       go_ret
       exact ⟨by rw [← HE.out]; rfl,⟨_,HCJ.out,fun c' h=>by rw [← HE.out] at h; cases h; rfl⟩,HKJ.out⟩
     | succ g =>
       have h1:(j:Int)<(n:Int):=by omega
       have h2:j<n:=by omega
       have hjl:j<l.length:=by rw [hnn.out]; exact h2
       obtain ⟨b,o,vs,rfl,hSb,hvl,hrg,hx⟩:=HR.out.at j (Bd.nd l[j]) (by simp [hjl])
       have HD:=Lib.hid (List.drop_eq_getElem_cons hjl)
       generalize hxg:l[j]=x at *
       have hx0:=hx
       obtain ⟨s1,ps1,st1,ln1⟩:=x
       obtain ⟨y,y',hv,-,-,hy,hy1⟩:=(hd_rd s1 ps1 6 _ ln1 _).1 hx
       obtain ⟨A3,n3,c3,rfl⟩:=hy.row_form
       obtain ⟨A4,n4,c4,rfl⟩:=hy1.row_form
       have hv2:vs=[.string (strOf s1),.slice A3 n3 c3,.slice A4 n4 c4,.int .i64 ln1]:=by
         injection hv with hv
         have:=congrArg Array.toList hv
         simpa using this
       subst hv2
       have hcell:∀ i u,([.string (strOf s1),.slice A3 n3 c3,.slice A4 n4 c4,.int .i64 ln1]:List Value)[i]?=some u→wr.cell? ⟨b,o+j*4+i,none⟩=some u:=fun i u hu=>by
         have:=hrg i u hu
         rw [Nat.zero_add] at this
         exact ((Kp.trans (Kp.refl qc w) HKJ.out).cellq (p:=⟨b,o+j*4+i,none⟩) (HSS.out b hSb).1 (HSS.out b hSb).2).trans this
       have y0:wr.cell? ⟨b,o+j*4,none⟩=some (.string (strOf s1)):=hcell 0 _ rfl
       have y1:=hcell 1 _ rfl
       have y2:=hcell 2 _ rfl
       have y3:=hcell 3 _ rfl
       have HY:=Lib.hid hx0
       have HF2:=Lib.hid (HF.out.symm.trans (by rw [HD.out,bodiesR_cons]))
       have hqr:qc<wr.heap.size:=lt_heap HCJ.out
       have hqn:¬ wr.heap.size=qc:=by omega
       have hbr:b<wr.heap.size:=Nat.lt_of_lt_of_le (HSS.out b hSb).1 (Kp.trans (Kp.refl qc w) HKJ.out).size
       have HBD:=Lib.hid (bodyC_any wb HWB.out qc hqb ⟨s1,ps1,st1,ln1⟩ cj (wr.alloc (.cells #[.string (strOf s1),.slice A3 n3 c3,.slice A4 n4 c4,.int .i64 ln1] 87)) S (.agg #[.string (strOf s1),.slice A3 n3 c3,.slice A4 n4 c4,.int .i64 ln1]) (HBB.out.trans (((Kp.trans (Kp.refl qc w) HKJ.out).alloc _).below hqb HBB.out.size)) (fun b hb=>⟨Nat.lt_of_lt_of_le (HSS.out b hb).1 ((Kp.trans (Kp.refl qc w) HKJ.out).alloc _).size,(HSS.out b hb).2⟩) (Rd.keep (fun p hp=>((Kp.trans (Kp.refl qc w) HKJ.out).alloc _).cellq (HSS.out _ hp).1 (HSS.out _ hp).2) (fun _ h=>h) _ _ HY.out) (heap_old HCJ.out _) HCL.out)
       have HL:=Lib.hid (bodyR_le ⟨s1,ps1,st1,ln1⟩ cj)
       clear hrg hx hx0 hv hy hy1 HF HD hjl hcell hxg
       generalize bodyR ⟨s1,ps1,st1,ln1⟩ cj=r1 at *
       cases r1 with
       | none =>
         have HE:Hid (none=r):=Lib.hid HF2.out.symm
         clear HF2 HL
         go_wp2_with (first
           | (go_at_call 103
              refine HBD.out.mono ?_
              rintro e w1 ⟨rfl,⟨z,hz,hz2⟩,hk1⟩
              have HZ:=Lib.hid hz
              have HK1:=Lib.hid (HKJ.out.trans (((Kp.refl qc wr).alloc _).trans hk1))
              clear hz hz2 hk1)
           | (fail))
         go_ret
         exact ⟨by rw [← HE.out]; rfl,⟨_,HZ.out,fun c' h=>by rw [← HE.out] at h; cases h⟩,HK1.out⟩
       | some c8 =>
         have HL8:Hid (c8≤2000):=Lib.hid (by have:=HL.out c8 rfl; have:=HCL.out; omega)
         have HF6:Hid (bodiesR (l.drop (j+1)) c8=r):=Lib.hid HF2.out.symm
         clear HF2 HL
         go_wp2_with (first
           | (go_at_call 103
              refine HBD.out.mono ?_
              rintro e w1 ⟨rfl,⟨z,hz,hz2⟩,hk1⟩
              have HZ:=Lib.hid hz
              have HZ2:=Lib.hid hz2
              have HK1:=Lib.hid (HKJ.out.trans (((Kp.refl qc wr).alloc _).trans hk1))
              clear hz hz2 hk1)
           | (fail))
         go_roundg g
         case measure=>omega
         case rel=>exact ⟨j+1,c8,by omega,by go_num,HF6,HL8,Lib.hid (by rw [← HZ2.out c8 rfl]; exact HZ.out),HK1⟩
 · have HE:Hid (none=r):=Lib.hid (by
     rw [← HRR0.out]
     unfold roleR
     rw [if_neg (by
       intro hh
       rw [Bool.and_eq_true] at hh
       exact hg ⟨hh.1,by have:=of_decide_eq_true hh.2; rw [hnn.out] at this; exact this⟩)])
   clear HRR0
   cases hh:headR s ps with
   | false =>
     rw [hh] at HH
     clear hh hg
     unfold at0 at *
     go_enter Tryz.func104,Tryz.ntmps104
     go_wp2_with (first
       | (go_at_call 149
          refine (HH.out _).mono ?_
          rintro e w1 ⟨rfl,hb1⟩
          have hb':Below w.heap.size w w1:=(HBL.out _).trans (hb1.mono (by simp))
          have HC1:=Lib.hid (show Ct w1 qc (c:Int) from heap_below HC.out hb')
          have HK1:=Lib.hid (Kp.of_below (b:=qc) hb')
          clear hb1 hb')
       | (fail))
     go_ret
     exact ⟨by rw [← HE.out]; rfl,⟨_,HC1.out,fun c' h=>by rw [← HE.out] at h; cases h⟩,HK1.out⟩
   | true =>
     have hn60:60<n:=by
       have:¬ n≤60:=fun h=>hg ⟨hh,h⟩
       omega
     have hgn:(n:Int) > 60:=by omega
     have hgn2:(60:Int)<(n:Int):=by omega
     rw [hh] at HH
     clear hh hg hn60
     unfold at0 at *
     go_enter Tryz.func104,Tryz.ntmps104
     go_wp2_with (first
       | (go_at_call 149
          refine (HH.out _).mono ?_
          rintro e w1 ⟨rfl,hb1⟩
          have hb':Below w.heap.size w w1:=(HBL.out _).trans (hb1.mono (by simp))
          have HC1:=Lib.hid (show Ct w1 qc (c:Int) from heap_below HC.out hb')
          have HK1:=Lib.hid (Kp.of_below (b:=qc) hb')
          obtain ⟨⟨z0,z1,z2,z3⟩,-⟩:=box4f (heap_below HQ.out hb1)
          clear hb1 hb')
       | (fail))
     go_ret
     exact ⟨by rw [← HE.out]; rfl,⟨_,HC1.out,fun c' h=>by rw [← HE.out] at h; cases h⟩,HK1.out⟩
def nxP (l:List Rl):Option Nat→Bool
 | none=>false
 | some c=>(rolesR l c).isSome
theorem rightP_eq (a:List Bd) (b:List Rl) (h:¬ 60<a.length+b.length):rightP ⟨a,b⟩=nxP b (bodiesR a 2000):=by
 unfold rightP
 rw [if_neg h]
 cases bodiesR a 2000 <;> rfl
set_option maxRecDepth 100000 in
set_option maxHeartbeats 8000000 in
theorem right_any (w0:World) (hw0:Wt w0):RightOk w0:=by
 intro x w S v hlen hb0 hS0 hr
 obtain ⟨l,l2⟩:=x
 obtain ⟨ys,yt,rfl,hs,ht⟩:=(Pg.rd ⟨l,l2⟩ v).1 hr
 have hs':Rd w S (.row 4 (l.map Bd.nd)) ys:=hs
 have ht':Rd w S (.row 4 (l2.map Rl.nd)) yt:=ht
 rw [Rd] at hs' ht'
 obtain ⟨A,cp,rfl,hcp,hcpm,hs'⟩:=hs'
 obtain ⟨A2,cp2,rfl,hcp2,hcpm2,ht'⟩:=ht'
 rw [List.length_map] at hcp hcp2 ⊢
 rw [List.length_map]
 obtain ⟨n,hnn⟩:∃ n,Hid (l.length=n):=⟨_,Lib.hid rfl⟩
 obtain ⟨m,hnm⟩:∃ m,Hid (l2.length=m):=⟨_,Lib.hid rfl⟩
 rw [hnn.out] at hcp ⊢
 rw [hnm.out] at hcp2 ⊢
 have HR:=Lib.hid hs'
 have HR2:=Lib.hid ht'
 have HWB:=Lib.hid (hw0.below hb0)
 have HBB:=Lib.hid (Below.refl w.heap.size w)
 have HSS:=Lib.hid (show ∀ b,S b→b<w.heap.size∧b≠w.heap.size+1 from fun b h=>⟨hS0 b h,by have:=hS0 b h; omega⟩)
 have HCL0:Hid (2000≤2000):=Lib.hid (Nat.le_refl _)
 have hqb:w.heap.size≤w.heap.size+1:=Nat.le_succ _
 obtain ⟨rp,HRP0⟩:∃ r,Hid (rightP ⟨l,l2⟩=r):=⟨_,Lib.hid rfl⟩
 rw [HRP0.out]
 unfold maxLen at hcpm hcpm2
 have hnm1:n+m≤1000000:=by rw [← hnn.out,← hnm.out]; exact hlen
 have hnm2:n≤1000000∧m≤1000000:=by omega
 obtain ⟨hnm3,hnm4⟩:=hnm2
 clear hlen hr hs ht hs' ht' hb0 hS0 hw0
 by_cases hg:60<n+m
 · have hg2:(n:Int)+(m:Int) > 60:=by omega
   have hg3:(60:Int)<(n:Int)+(m:Int):=by omega
   have t1:decide ((60:Int)<(n:Int)+(m:Int))=true:=decide_eq_true hg3
   have t2:decide ((n:Int)+(m:Int) > 60)=true:=decide_eq_true hg2
   have HE:Hid (false=rp):=Lib.hid (by rw [← HRP0.out]; unfold rightP; rw [if_pos (by rw [hnn.out,hnm.out]; exact hg)])
   clear HRP0 hg
   go_enter Tryz.func60,Tryz.ntmps60
   go_wp2_with fail
   go_ret
   exact ⟨by rw [← HE.out]; rfl,(Below.refl _ w).alloc (Nat.le_refl _) _⟩
 · have hg2 : ¬ (n:Int)+(m:Int) > 60:=by omega
   have hg3:¬ (60:Int)<(n:Int)+(m:Int):=by omega
   obtain ⟨r,HRR⟩:∃ r,Hid (bodiesR l 2000=r):=⟨_,Lib.hid rfl⟩
   have HRP:Hid (nxP l2 r=rp):=Lib.hid (by rw [← HRP0.out,rightP_eq l l2 (by rw [hnn.out,hnm.out]; exact hg),HRR.out])
   clear HRP0 hg
   have HC1:Hid (Ct ((w.alloc (.cells #[.slice A n cp,.slice A2 m cp2] 25)).alloc (.cells #[.int .i64 2000] 234)) (w.heap.size+1) ((2000:Nat):Int)):=Lib.hid (by
     unfold Ct
     have:=heap_new (w.alloc (.cells #[.slice A n cp,.slice A2 m cp2] 25)) (.cells #[.int .i64 2000] 234)
     simpa using this)
   have HK0:Hid (Kp (w.heap.size+1) w ((w.alloc (.cells #[.slice A n cp,.slice A2 m cp2] 25)).alloc (.cells #[.int .i64 2000] 234))):=Lib.hid (((Kp.refl _ w).alloc _).alloc _)
   have HQP:=Lib.hid (heap_old (heap_new w (.cells #[.slice A n cp,.slice A2 m cp2] 25)) (.cells #[.int .i64 2000] 234))
   go_enter Tryz.func60,Tryz.ntmps60
   go_wp2_with fail
   go_loopg [21] n (fun g i wr=>∃ (j cj:Nat),j+g=n∧i = .int .i64 (j:Int)∧Hid (bodiesR (l.drop j) cj=r)∧Hid (cj≤2000)∧Hid (Ct wr (w.heap.size+1) (cj:Int))∧Hid (Kp (w.heap.size+1) ((w.alloc (.cells #[.slice A n cp,.slice A2 m cp2] 25)).alloc (.cells #[.int .i64 2000] 234)) wr))
   case atStart=>exact ⟨0,2000,by omega,rfl,Lib.hid (by rw [List.drop_zero]; exact HRR.out),HCL0,HC1,(Lib.hid (Kp.refl _ _))⟩
   case round =>
     obtain ⟨j,cj,hj,rfl,HF,HCL,HCJ,HKJ⟩:=hrel
     cases gk with
     | zero =>
       have h1:¬ (j:Int)<(n:Int):=by omega
       have HE:Hid (some cj=r):=Lib.hid (by rw [← HF.out,List.drop_eq_nil_of_le (by rw [hnn.out]; omega),bodiesR])
       clear HF
       have hQJ:=HKJ.out.heap HQP.out (Nat.ne_of_lt (Nat.lt_succ_self _))
       obtain ⟨⟨p0,p1⟩,-⟩:=bx2 hQJ
       have HKJ2:=Lib.hid (HK0.out.trans HKJ.out)
       have HCL0:=HCL
       obtain ⟨r2,HRR2⟩:∃ r,Hid (rolesR l2 cj=r):=⟨_,Lib.hid rfl⟩
       have HRP2:Hid (r2.isSome=rp):=Lib.hid (by rw [← HRP.out,← HE.out,← HRR2.out]; rfl)
       clear HRR HRP HE hQJ HKJ
       go_wp2_with fail
       go_loopg [33] m (fun g i wr=>∃ (j cj:Nat),j+g=m∧i = .int .i64 (j:Int)∧Hid (rolesR (l2.drop j) cj=r2)∧Hid (cj≤2000)∧Hid (Ct wr (w.heap.size+1) (cj:Int))∧Hid (Kp (w.heap.size+1) w wr))
       case atStart=>exact ⟨0,cj,by omega,rfl,Lib.hid (by rw [List.drop_zero]; exact HRR2.out),HCL0,HCJ,HKJ2⟩
       case round =>
         obtain ⟨j,cj,hj,rfl,HF,HCL,HCJ,HKJ⟩:=hrel
         cases gk with
         | zero =>
           have h1:¬ (j:Int)<(m:Int):=by omega
           have HE:Hid (some cj=r2):=Lib.hid (by rw [← HF.out,List.drop_eq_nil_of_le (by rw [hnm.out]; omega),rolesR])
           clear HF
           go_wp2_with fail
           go_ret
           exact ⟨by rw [← HRP2.out,← HE.out]; rfl,HKJ.out.below (Nat.le_succ _) (Nat.le_refl _)⟩
         | succ g =>
           have h1:(j:Int)<(m:Int):=by omega
           have h2:j<m:=by omega
           have hjl:j<l2.length:=by rw [hnm.out]; exact h2
           obtain ⟨b,o,vs,rfl,hSb,hvl,hrg,hx⟩:=HR2.out.at j (Rl.nd l2[j]) (by simp [hjl])
           have HD:=Lib.hid (List.drop_eq_getElem_cons hjl)
           generalize hxg:l2[j]=x at *
           have hx0:=hx
           obtain ⟨s1,ps1,st1,ln1⟩:=x
           obtain ⟨y,y',hv,-,-,hy,hy1⟩:=(hd_rd s1 ps1 4 _ ln1 _).1 hx
           obtain ⟨A3,n3,c3,rfl⟩:=hy.row_form
           obtain ⟨A4,n4,c4,rfl⟩:=hy1.row_form
           have hv2:vs=[.string (strOf s1),.slice A3 n3 c3,.slice A4 n4 c4,.int .i64 ln1]:=by
             injection hv with hv
             have:=congrArg Array.toList hv
             simpa using this
           subst hv2
           have hcell:∀ i u,([.string (strOf s1),.slice A3 n3 c3,.slice A4 n4 c4,.int .i64 ln1]:List Value)[i]?=some u→wr.cell? ⟨b,o+j*4+i,none⟩=some u:=fun i u hu=>by
             have:=hrg i u hu
             rw [Nat.zero_add] at this
             exact ((Kp.trans (Kp.refl (w.heap.size+1) w) HKJ.out).cellq (p:=⟨b,o+j*4+i,none⟩) (HSS.out b hSb).1 (HSS.out b hSb).2).trans this
           have y0:wr.cell? ⟨b,o+j*4,none⟩=some (.string (strOf s1)):=hcell 0 _ rfl
           have y1:=hcell 1 _ rfl
           have y2:=hcell 2 _ rfl
           have y3:=hcell 3 _ rfl
           have HY:=Lib.hid hx0
           have HF2:=Lib.hid (HF.out.symm.trans (by rw [HD.out,rolesR_cons]))
           have hqr:(w.heap.size+1)<wr.heap.size:=lt_heap HCJ.out
           have hqn:¬ wr.heap.size=(w.heap.size+1):=by omega
           have hbr:b<wr.heap.size:=Nat.lt_of_lt_of_le (HSS.out b hSb).1 (Kp.trans (Kp.refl (w.heap.size+1) w) HKJ.out).size
           have HBD:=Lib.hid (roleC_any w HWB.out (w.heap.size+1) hqb ⟨s1,ps1,st1,ln1⟩ cj (wr.alloc (.cells #[.string (strOf s1),.slice A3 n3 c3,.slice A4 n4 c4,.int .i64 ln1] 90)) S (.agg #[.string (strOf s1),.slice A3 n3 c3,.slice A4 n4 c4,.int .i64 ln1]) (HBB.out.trans (((Kp.trans (Kp.refl (w.heap.size+1) w) HKJ.out).alloc _).below hqb HBB.out.size)) (fun b hb=>⟨Nat.lt_of_lt_of_le (HSS.out b hb).1 ((Kp.trans (Kp.refl (w.heap.size+1) w) HKJ.out).alloc _).size,(HSS.out b hb).2⟩) (Rd.keep (fun p hp=>((Kp.trans (Kp.refl (w.heap.size+1) w) HKJ.out).alloc _).cellq (HSS.out _ hp).1 (HSS.out _ hp).2) (fun _ h=>h) _ _ HY.out) (heap_old HCJ.out _) HCL.out)
           have HL:=Lib.hid (roleR_le ⟨s1,ps1,st1,ln1⟩ cj)
           clear hrg hx hx0 hv hy hy1 HF HD hjl hcell hxg
           generalize roleR ⟨s1,ps1,st1,ln1⟩ cj=r1 at *
           cases r1 with
           | none =>
             have HE:Hid (none=r2):=Lib.hid HF2.out.symm
             clear HF2 HL
             go_wp2_with (first
               | (go_at_call 104
                  refine HBD.out.mono ?_
                  rintro e w1 ⟨rfl,⟨z,hz,hz2⟩,hk1⟩
                  have HZ:=Lib.hid hz
                  have HK1:=Lib.hid (HKJ.out.trans (((Kp.refl (w.heap.size+1) wr).alloc _).trans hk1))
                  clear hz hz2 hk1)
               | (fail))
             go_ret
             exact ⟨by rw [← HRP2.out,← HE.out]; rfl,HK1.out.below (Nat.le_succ _) (Nat.le_refl _)⟩
           | some c8 =>
             have HL8:Hid (c8≤2000):=Lib.hid (by have:=HL.out c8 rfl; have:=HCL.out; omega)
             have HF6:Hid (rolesR (l2.drop (j+1)) c8=r2):=Lib.hid HF2.out.symm
             clear HF2 HL
             go_wp2_with (first
               | (go_at_call 104
                  refine HBD.out.mono ?_
                  rintro e w1 ⟨rfl,⟨z,hz,hz2⟩,hk1⟩
                  have HZ:=Lib.hid hz
                  have HZ2:=Lib.hid hz2
                  have HK1:=Lib.hid (HKJ.out.trans (((Kp.refl (w.heap.size+1) wr).alloc _).trans hk1))
                  clear hz hz2 hk1)
               | (fail))
             go_roundg g
             case measure=>omega
             case rel=>exact ⟨j+1,c8,by omega,by go_num,HF6,HL8,Lib.hid (by rw [← HZ2.out c8 rfl]; exact HZ.out),HK1⟩
     | succ g =>
       have h1:(j:Int)<(n:Int):=by omega
       have h2:j<n:=by omega
       have hjl:j<l.length:=by rw [hnn.out]; exact h2
       obtain ⟨b,o,vs,rfl,hSb,hvl,hrg,hx⟩:=HR.out.at j (Bd.nd l[j]) (by simp [hjl])
       have HD:=Lib.hid (List.drop_eq_getElem_cons hjl)
       generalize hxg:l[j]=x at *
       have hx0:=hx
       obtain ⟨s1,ps1,st1,ln1⟩:=x
       obtain ⟨y,y',hv,-,-,hy,hy1⟩:=(hd_rd s1 ps1 6 _ ln1 _).1 hx
       obtain ⟨A3,n3,c3,rfl⟩:=hy.row_form
       obtain ⟨A4,n4,c4,rfl⟩:=hy1.row_form
       have hv2:vs=[.string (strOf s1),.slice A3 n3 c3,.slice A4 n4 c4,.int .i64 ln1]:=by
         injection hv with hv
         have:=congrArg Array.toList hv
         simpa using this
       subst hv2
       have hcell:∀ i u,([.string (strOf s1),.slice A3 n3 c3,.slice A4 n4 c4,.int .i64 ln1]:List Value)[i]?=some u→wr.cell? ⟨b,o+j*4+i,none⟩=some u:=fun i u hu=>by
         have:=hrg i u hu
         rw [Nat.zero_add] at this
         exact ((Kp.trans HK0.out HKJ.out).cellq (p:=⟨b,o+j*4+i,none⟩) (HSS.out b hSb).1 (HSS.out b hSb).2).trans this
       have y0:wr.cell? ⟨b,o+j*4,none⟩=some (.string (strOf s1)):=hcell 0 _ rfl
       have y1:=hcell 1 _ rfl
       have y2:=hcell 2 _ rfl
       have y3:=hcell 3 _ rfl
       have HY:=Lib.hid hx0
       have HF2:=Lib.hid (HF.out.symm.trans (by rw [HD.out,bodiesR_cons]))
       have hqr:(w.heap.size+1)<wr.heap.size:=lt_heap HCJ.out
       have hqn:¬ wr.heap.size=(w.heap.size+1):=by omega
       have hbr:b<wr.heap.size:=Nat.lt_of_lt_of_le (HSS.out b hSb).1 (Kp.trans HK0.out HKJ.out).size
       have HBD:=Lib.hid (bodyC_any w HWB.out (w.heap.size+1) hqb ⟨s1,ps1,st1,ln1⟩ cj (wr.alloc (.cells #[.string (strOf s1),.slice A3 n3 c3,.slice A4 n4 c4,.int .i64 ln1] 87)) S (.agg #[.string (strOf s1),.slice A3 n3 c3,.slice A4 n4 c4,.int .i64 ln1]) (HBB.out.trans (((Kp.trans HK0.out HKJ.out).alloc _).below hqb HBB.out.size)) (fun b hb=>⟨Nat.lt_of_lt_of_le (HSS.out b hb).1 ((Kp.trans HK0.out HKJ.out).alloc _).size,(HSS.out b hb).2⟩) (Rd.keep (fun p hp=>((Kp.trans HK0.out HKJ.out).alloc _).cellq (HSS.out _ hp).1 (HSS.out _ hp).2) (fun _ h=>h) _ _ HY.out) (heap_old HCJ.out _) HCL.out)
       have HL:=Lib.hid (bodyR_le ⟨s1,ps1,st1,ln1⟩ cj)
       clear hrg hx hx0 hv hy hy1 HF HD hjl hcell hxg
       generalize bodyR ⟨s1,ps1,st1,ln1⟩ cj=r1 at *
       cases r1 with
       | none =>
         have HE:Hid (none=r):=Lib.hid HF2.out.symm
         clear HF2 HL
         go_wp2_with (first
           | (go_at_call 103
              refine HBD.out.mono ?_
              rintro e w1 ⟨rfl,⟨z,hz,hz2⟩,hk1⟩
              have HZ:=Lib.hid hz
              have HK1:=Lib.hid (HKJ.out.trans (((Kp.refl (w.heap.size+1) wr).alloc _).trans hk1))
              clear hz hz2 hk1)
           | (fail))
         go_ret
         exact ⟨by rw [← HRP.out,← HE.out]; rfl,(HK0.out.trans HK1.out).below (Nat.le_succ _) (Nat.le_refl _)⟩
       | some c8 =>
         have HL8:Hid (c8≤2000):=Lib.hid (by have:=HL.out c8 rfl; have:=HCL.out; omega)
         have HF6:Hid (bodiesR (l.drop (j+1)) c8=r):=Lib.hid HF2.out.symm
         clear HF2 HL
         go_wp2_with (first
           | (go_at_call 103
              refine HBD.out.mono ?_
              rintro e w1 ⟨rfl,⟨z,hz,hz2⟩,hk1⟩
              have HZ:=Lib.hid hz
              have HZ2:=Lib.hid hz2
              have HK1:=Lib.hid (HKJ.out.trans (((Kp.refl (w.heap.size+1) wr).alloc _).trans hk1))
              clear hz hz2 hk1)
           | (fail))
         go_roundg g
         case measure=>omega
         case rel=>exact ⟨j+1,c8,by omega,by go_num,HF6,HL8,Lib.hid (by rw [← HZ2.out c8 rfl]; exact HZ.out),HK1⟩
end Go.Proofs.YtcmopnkldplngabGreatDoor
