/- Texts Kg,Kh,Ki,Kj,Kk of this seat in one: see each part. -/
import Derived.Deep.RegionHeld3
import Derived.Test.YtcmopnkldplngabGreatDoorKaf
import Derived.Test.YtcmopnkldplngabGreatDoorTqt
import Derived.Test.YtcmopnkldplngabGreatDoorUeg
namespace Go.Proofs.YtcmopnkldplngabGreatDoor
open Go.RowKit
set_option linter.unusedVariables false
set_option maxRecDepth 100000 in
set_option maxHeartbeats 2000000 in
theorem clone_any {b:Nat} {l:Nms} (w:World) (h:Ns w b l) :
   Calls Tryz.prog 106 #[.map (some b)] w fun e w'=>e = .returned (.map (some w.heap.size))∧Ns w' w.heap.size l∧Below w.heap.size w w':=by
 have H0:=Lib.hid h
 obtain ⟨es,clock,hb,F,hs,hD⟩:=h.own
 have hq:=fun w=>run_eql_map_nil_sl (P:=Tryz.prog) w 164 _ _ (some b) names_u
 have HF:=Lib.hid F
 have HD:=Lib.hid hD
 have HS:=Lib.hid hs
 clear h F hs hD
 go_enter Tryz.func106,Tryz.ntmps106
 go_wp2
 rw [run_callFunc_extern Tryz.func151 (by kernel_rfl) (by kernel_rfl) (by kernel_rfl) (e:=Extern.MapsClone.clone) (by kernel_rfl),run_maps_clone_sl w 164 hb]
 simp only [Result.andThen]
 rw [Oper.upon_value]
 go_wp2
 rw [run_typeAssert_map_sl _ 164 20 _ _ _ names_u]
 simp only [Result.andThen]
 rw [Oper.upon_value]
 go_wp2
 go_ret
 have hB:Below w.heap.size w (w.alloc (.map es clock)):=(Below.refl _ w).alloc (Nat.le_refl _) _
 exact ⟨rfl,⟨⟨es,clock,(MapKept.heap_alloc w _).1,HF.out,HS.out,HD.out⟩,H0.out.nd,H0.out.ok⟩,hB⟩
def OutF (w:World) (f:Flt) (e:Ending) (w':World):Prop:=e = .returned (.agg #[.int .i64 (f.1:Int),.int .i64 f.2])∧Below w.heap.size w w'
set_option maxRecDepth 100000 in
set_option maxHeartbeats 8000000 in
theorem stmtsC_step {q bf br:Nat} {c:Ck} (l:List Sm)
   (IH:∀ (ks:List Sm),SizeOf.sizeOf ks<SizeOf.sizeOf l→∀ (b:Nat) (n:Nms) (w:World) (S:Nat→Prop) (v:Value),ChAt w q c bf br→Ns w b n→n.length≤30→(∀ b,S b→b<w.heap.size)→Rd w S (.row 6 (ks.map Sm.nd)) v→Calls Tryz.prog 108 #[at0 q,v,.map (some b)] w (OutF w (smsC c n ks)))
   (b:Nat) (n:Nms) (w:World) (S:Nat→Prop) (v:Value) (h:ChAt w q c bf br) (hn:Ns w b n) (hnl:n.length≤30) (hS:∀ b,S b→b<w.heap.size) (hr:Rd w S (.row 6 (l.map Sm.nd)) v) :
   Calls Tryz.prog 108 #[at0 q,v,.map (some b)] w (OutF w (smsC c n l)):=by
 rw [Rd] at hr
 obtain ⟨A,cp,rfl,hcp,hcpm,hr⟩:=hr
 rw [List.length_map] at hcp ⊢
 have HR:=Lib.hid hr
 have HSS:=Lib.hid hS
 have H0:=Lib.hid h
 have HIH:=Lib.hid IH
 have hqw:=h.lt
 obtain ⟨m,hm⟩:∃ m,Hid (l.length=m):=⟨_,Lib.hid rfl⟩
 rw [hm.out] at hcp ⊢
 obtain ⟨r,hrr⟩:∃ r,Hid (smsC c n l=r):=⟨_,Lib.hid rfl⟩
 rw [hrr.out]
 obtain ⟨re,rl⟩:=r
 have HCL:=Lib.hid (clone_any _ (hn.alloc (.cells #[.int .i64 0,.int .i64 0] 36)))
 have HRC:=Lib.hid (heap_new w (.cells #[.int .i64 0,.int .i64 0] 36))
 unfold maxLen at hcpm
 unfold OutF
 clear hr hS h hn IH
 unfold at0 at *
 go_enter Tryz.func108,Tryz.ntmps108
 go_wp2_with (first
   | (go_at_call 106
      refine HCL.out.mono ?_
      rintro e w0 ⟨rfl,hn0,hb0⟩
      have HN1:=Lib.hid hn0
      have HB0:Hid (Below w.heap.size w w0):=Lib.hid (((Below.refl _ w).alloc (Nat.le_refl _) _).trans (hb0.mono (by simp)))
      have HRC0:=Lib.hid (heap_below HRC.out hb0)
      have hbo:(w.alloc (.cells #[.int .i64 0,.int .i64 0] 36)).heap.size=w.heap.size+1:=by simp
      rw [hbo] at HN1
      clear hn0 hb0)
   | (fail))
 go_loopg [17] m (fun g i wr=>∃ (j:Nat) (nj:Nms),j+g=m∧i = .int .i64 (j:Int)∧nj.length≤30∧Hid (smsC c nj (l.drop j)=(re,rl))∧Hid (Ns wr (w.heap.size+1) nj)∧Hid (wr.heap[w.heap.size]?=some (.cells #[.int .i64 0,.int .i64 0] 36 (0,0)))∧Hid (Below w.heap.size w wr))
 case atStart=>exact ⟨0,n,by omega,rfl,hnl,Lib.hid (by rw [List.drop_zero]; exact hrr.out),HN1,HRC0,HB0⟩
 case round =>
   obtain ⟨j,nj,hj,rfl,hnjl,HF,HN,HRC,HK⟩:=hrel
   obtain ⟨⟨rc0,rc1⟩,rf0,rf1⟩:=bx2 HRC.out
   have hrcl:=lt_heap HRC.out
   have hnlt:=HN.out.lt
   cases gk with
   | zero =>
     have h1:¬ (j:Int)<(m:Int):=by omega
     have HE:Hid (fl0=(re,rl)):=Lib.hid (by rw [← HF.out,List.drop_eq_nil_of_le (by rw [hm.out]; omega),smsC])
     clear HF HIH
     go_wp2_with fail
     have HX:=Lib.hid (st2 HRC.out (.int .i64 0) (.int .i64 0))
     obtain ⟨⟨x0,x1⟩,-⟩:=bx2 HX.out
     refine bodyPost_ret (v := .agg #[.int .i64 0,.int .i64 0]) (by simp [results,Tryz.results108,go_sem,x0,x1]) rfl ?_
     have e:=HE.out
     unfold fl0 at e
     cases e
     exact ⟨rfl,(HK.out.setCell (Nat.le_refl _) _).setCell (Nat.le_refl _) _⟩
   | succ g =>
     have h1:(j:Int)<(m:Int):=by omega
     have h2:j<m:=by omega
     have hjl:j<l.length:=by rw [hm.out]; exact h2
     obtain ⟨bb,o,vs,rfl,hSb,hvl,hrg,hx⟩:=HR.out.at j (Sm.nd l[j]) (by simp [hjl])
     have HD:=Lib.hid (List.drop_eq_getElem_cons hjl)
     have HSZ:=Lib.hid (List.sizeOf_lt_of_mem (List.getElem_mem hjl))
     generalize l[j]=x at *
     obtain ⟨k,s,xs,bs,cs,ln⟩:=x
     obtain ⟨y,z,u,hv,h8,hl8,hy,hz,hu⟩:=(Sm.rd k s xs bs cs ln _).1 hx
     have hy':=hy
     rw [Rd] at hy'
     obtain ⟨A3,c3,rfl,-⟩:=hy'
     have hz':=hz
     rw [Rd] at hz'
     obtain ⟨A4,c4,rfl,-⟩:=hz'
     have hu':=hu
     rw [Rd] at hu'
     obtain ⟨A5,c5,rfl,-⟩:=hu'
     have hv2:vs=[.int .u8 (k:Int),.string (strOf s),.slice A3 (xs.map Ex.nd).length c3,.slice A4 (bs.map Sm.nd).length c4,.slice A5 (cs.map Sm.nd).length c5,.int .i64 ln]:=by
       injection hv with hv
       have:=congrArg Array.toList hv
       simpa using this
     subst hv2
     rw [List.length_map,List.length_map,List.length_map] at hrg
     rw [List.length_map] at hy hz hu
     have hcell:∀ i u,[Value.int .u8 (k:Int),.string (strOf s),.slice A3 xs.length c3,.slice A4 bs.length c4,.slice A5 cs.length c5,.int .i64 ln][i]?=some u→wr.cell? ⟨bb,o+j*6+i,none⟩=some u:=fun i u hu=>by
       have:=hrg i u hu
       rw [Nat.zero_add] at this
       exact (HK.out.cell (p:=⟨bb,o+j*6+i,none⟩) (HSS.out bb hSb)).trans this
     have y0:wr.cell? ⟨bb,o+j*6,none⟩=some (.int .u8 (k:Int)):=hcell 0 _ rfl
     have y1:=hcell 1 _ rfl
     have y2:=hcell 2 _ rfl
     have y3:=hcell 3 _ rfl
     have y4:=hcell 4 _ rfl
     have y5:=hcell 5 _ rfl
     have hbr:bb<wr.heap.size:=Nat.lt_of_lt_of_le (HSS.out bb hSb) HK.out.size
     have hszr:w.heap.size≤wr.heap.size:=HK.out.size
     have hBA:Below w.heap.size w (wr.alloc (.cells #[.int .u8 (k:Int),.string (strOf s),.slice A3 xs.length c3,.slice A4 bs.length c4,.slice A5 cs.length c5,.int .i64 ln] 218)):=HK.out.alloc HK.out.size _
     have HQ:=Lib.hid (heap_new wr (.cells #[.int .u8 (k:Int),.string (strOf s),.slice A3 xs.length c3,.slice A4 bs.length c4,.slice A5 cs.length c5,.int .i64 ln] 218))
     have HRX:=Lib.hid (heap_old HRC.out (.cells #[.int .u8 (k:Int),.string (strOf s),.slice A3 xs.length c3,.slice A4 bs.length c4,.slice A5 cs.length c5,.int .i64 ln] 218))
     have HNX:=Lib.hid (HN.out.alloc (.cells #[.int .u8 (k:Int),.string (strOf s),.slice A3 xs.length c3,.slice A4 bs.length c4,.slice A5 cs.length c5,.int .i64 ln] 218))
     have HBA:=Lib.hid hBA
     have HST:=Lib.hid (stmtC_any _ (H0.out.below hBA) HNX.out hnjl S (fun b hb=>Nat.lt_of_lt_of_le (HSS.out b hb) hBA.size) k s xs ln A3 A4 A5 c3 bs.length c4 cs.length c5 h8 hl8 (Rd.keep (fun p hp=>hBA.cell (HSS.out _ hp)) (fun _ h=>h) _ _ hy))
     obtain ⟨be,bl,hb⟩:∃ be bl,Hid (smsC c (scF nj k s) bs=(be,bl)):=⟨_, _,Lib.hid rfl⟩
     obtain ⟨ce,cl,hc⟩:∃ be bl,Hid (smsC c (scF nj k s) cs=(be,bl)):=⟨_, _,Lib.hid rfl⟩
     have HIB:=Lib.hid (fun (w':World) (a1:Below w.heap.size w w') (a2:Ns w' (w.heap.size+1) (scF nj k s)) (a3:(scF nj k s).length≤30)=>show Calls Tryz.prog 108 #[.pointer (some ⟨q,0,none⟩),.slice A4 bs.length c4,.map (some (w.heap.size+1))] w' (fun e w''=>e = .returned (.agg #[.int .i64 (be:Int),.int .i64 bl])∧Below w'.heap.size w' w'') from by
       have:=HIH.out bs (by have:=HSZ.out; simp at this; omega) (w.heap.size+1) _ w' S _ (H0.out.below a1) a2 a3 (fun b hb=>Nat.lt_of_lt_of_le (HSS.out b hb) a1.size) (Rd.keep (fun p hp=>a1.cell (HSS.out _ hp)) (fun _ h=>h) _ _ hz)
       rw [hb.out] at this
       exact this)
     have HIC:=Lib.hid (fun (w':World) (a1:Below w.heap.size w w') (a2:Ns w' (w.heap.size+1) (scF nj k s)) (a3:(scF nj k s).length≤30)=>show Calls Tryz.prog 108 #[.pointer (some ⟨q,0,none⟩),.slice A5 cs.length c5,.map (some (w.heap.size+1))] w' (fun e w''=>e = .returned (.agg #[.int .i64 (ce:Int),.int .i64 cl])∧Below w'.heap.size w' w'') from by
       have:=HIH.out cs (by have:=HSZ.out; simp at this; omega) (w.heap.size+1) _ w' S _ (H0.out.below a1) a2 a3 (fun b hb=>Nat.lt_of_lt_of_le (HSS.out b hb) a1.size) (Rd.keep (fun p hp=>a1.cell (HSS.out _ hp)) (fun _ h=>h) _ _ hu)
       rw [hc.out] at this
       exact this)
     have HF2:Hid ((re,rl)=fstF (smC c nj (.mk k s xs bs cs ln)) (smsC c (scF nj k s) (l.drop (j+1)))):=Lib.hid (by rw [← HF.out,HD.out,smsC_cons]; rfl)
     have HSC:Hid (stE c nj k s xs.length=0→(scF nj k s).length≤30):=Lib.hid (fun h=>by
       unfold scF
       by_cases hk:k=1
       · rw [if_pos hk]
         unfold stE letN at h
         rw [if_pos hk] at h
         split at h
         · omega
         · split at h
           · omega
           · rw [List.length_append]; simp; omega
       · rw [if_neg hk]; exact hnjl)
     rw [smC,hb.out,hc.out] at HF2
     clear hrg hx hv h8 hl8 hy hz hu HF HD hjl hcell hBA HSZ HIH HN hb hc
     obtain ⟨xn,hxn⟩:∃ xn,Hid (xs.length=xn):=⟨_,Lib.hid rfl⟩
     obtain ⟨bn,hbn⟩:∃ bn,Hid (bs.length=bn):=⟨_,Lib.hid rfl⟩
     obtain ⟨cn,hcn⟩:∃ cn,Hid (cs.length=cn):=⟨_,Lib.hid rfl⟩
     rw [hxn.out] at y2 HST HQ HF2 HSC HRX HNX HBA
     rw [hbn.out] at y3 HST HQ HIB HRX HNX HBA
     rw [hcn.out] at y4 HST HQ HIC HRX HNX HBA
     obtain ⟨es,hes⟩:∃ es,Hid (fstE (exsC c nj xs) (stE c nj k s xn)=es):=⟨_,Lib.hid rfl⟩
     rw [hes.out] at HST HF2
     have HSC2:Hid (es=0→(scF nj k s).length≤30):=Lib.hid (fun h=>HSC.out (by
       have:=hes.out
       unfold fstE at this
       split at this
       · omega
       · omega))
     obtain ⟨n2,hn2⟩:∃ n2,Hid (scF nj k s=n2):=⟨_,Lib.hid rfl⟩
     rw [hn2.out] at HST HF2 HSC2 HIB HIC
     unfold OutT at HST
     clear HSC
     have hwq:w.heap.size<wr.heap.size:=hrcl
     by_cases hes0:es=0
     · have HZ:=Lib.hid hes0
       have e1:((es:Int) != 0)=false:=by rw [hes0]; rfl
       have HF3:Hid ((re,rl)=fstF (fstF (be,bl) (ce,cl)) (smsC c n2 (l.drop (j+1)))):=Lib.hid (by rw [HF2.out,if_pos hes0])
       clear hes0 HF2
       by_cases hbe:be=0
       · have e2:((be:Int) != 0)=false:=by rw [hbe]; rfl
         have HF4:Hid ((re,rl)=fstF (ce,cl) (smsC c n2 (l.drop (j+1)))):=Lib.hid (by
           rw [HF3.out]
           show fstF (if be=0 then (ce,cl) else (be,bl)) _ = _
           rw [if_pos hbe])
         clear hbe HF3
         by_cases hce:ce=0
         · have e3:((ce:Int) != 0)=false:=by rw [hce]; rfl
           have HF5:Hid (smsC c n2 (l.drop (j+1))=(re,rl)):=Lib.hid (by
             rw [HF4.out]
             show _ = (if ce=0 then _ else _)
             rw [if_pos hce])
           clear hce HF4
           go_wp2_with (first
             | (go_at_call 153
                refine HST.out.mono ?_
                rintro e w1 ⟨rfl,hn1,hk1⟩
                have HN1:=Lib.hid hn1
                have HB1:=Lib.hid (HBA.out.trans (hk1.below (Nat.le_succ _) HBA.out.size))
                have HQ1:=Lib.hid (hk1.heap HQ.out (by omega))
                have HR1:=Lib.hid (hk1.heap HRX.out (by omega))
                obtain ⟨q0,q1,q2,q3,q4,q5⟩:=bx6c HQ1.out
                obtain ⟨⟨v0,v1⟩,vf0,vf1⟩:=bx2 HR1.out
                have hw1:=lt_heap HQ1.out
                have hw1r:=lt_heap HR1.out
                clear hn1 hk1)
             | (go_at_call 108
                (with_reducible refine (HIB.out _ HB1.out (HN1.out HZ.out) (HSC2.out HZ.out)).mono ?_)
                rintro e w2 ⟨rfl,hb2⟩
                have HB2:=Lib.hid (HB1.out.trans (hb2.mono HB1.out.size))
                have HQ2:=Lib.hid (heap_below HQ1.out hb2)
                have HR2:=Lib.hid (heap_below HR1.out hb2)
                have HN2:=Lib.hid ((HN1.out HZ.out).below hb2)
                obtain ⟨r0,r1,r2,r3,r4,r5⟩:=bx6c HQ2.out
                obtain ⟨⟨s0,s1⟩,sf0,sf1⟩:=bx2 HR2.out
                have hw2:=lt_heap HQ2.out
                have hw2r:=lt_heap HR2.out
                clear hb2)
             | (go_at_call 108
                (with_reducible refine (HIC.out _ (HB2.out.alloc HB2.out.size (.cells #[.int .i64 (be:Int),.int .i64 bl] 36)) (HN2.out.alloc _) (HSC2.out HZ.out)).mono ?_)
                rintro e w3 ⟨rfl,hb3⟩
                have HB3:=Lib.hid ((HB2.out.alloc HB2.out.size (.cells #[.int .i64 (be:Int),.int .i64 bl] 36)).trans (hb3.mono (HB2.out.alloc HB2.out.size _).size))
                have HR3:=Lib.hid (heap_below (heap_old HR2.out _) hb3)
                have HN3:=Lib.hid ((HN2.out.alloc _).below hb3)
                obtain ⟨⟨t0,t1⟩,tf0,tf1⟩:=bx2 HR3.out
                have hw3:=lt_heap HR3.out
                clear hb3)
             | (fail))
           go_roundg g
           case measure=>omega
           case rel=>exact ⟨j+1,n2,by omega,by go_num,HSC2.out HZ.out,HF5,Lib.hid (HN3.out.alloc _),Lib.hid (heap_old HR3.out _),Lib.hid (HB3.out.alloc HB3.out.size _)⟩
         · have e3:((ce:Int) != 0)=true:=bne_iff_ne.2 (by omega)
           have HE:Hid ((re,rl)=(ce,cl)):=Lib.hid (by
             rw [HF4.out]
             show (if ce=0 then _ else (ce,cl)) = _
             rw [if_neg hce])
           clear hce HF4
           go_wp2_with (first
             | (go_at_call 153
                refine HST.out.mono ?_
                rintro e w1 ⟨rfl,hn1,hk1⟩
                have HN1:=Lib.hid hn1
                have HB1:=Lib.hid (HBA.out.trans (hk1.below (Nat.le_succ _) HBA.out.size))
                have HQ1:=Lib.hid (hk1.heap HQ.out (by omega))
                have HR1:=Lib.hid (hk1.heap HRX.out (by omega))
                obtain ⟨q0,q1,q2,q3,q4,q5⟩:=bx6c HQ1.out
                obtain ⟨⟨v0,v1⟩,vf0,vf1⟩:=bx2 HR1.out
                have hw1:=lt_heap HQ1.out
                have hw1r:=lt_heap HR1.out
                clear hn1 hk1)
             | (go_at_call 108
                (with_reducible refine (HIB.out _ HB1.out (HN1.out HZ.out) (HSC2.out HZ.out)).mono ?_)
                rintro e w2 ⟨rfl,hb2⟩
                have HB2:=Lib.hid (HB1.out.trans (hb2.mono HB1.out.size))
                have HQ2:=Lib.hid (heap_below HQ1.out hb2)
                have HR2:=Lib.hid (heap_below HR1.out hb2)
                have HN2:=Lib.hid ((HN1.out HZ.out).below hb2)
                obtain ⟨r0,r1,r2,r3,r4,r5⟩:=bx6c HQ2.out
                obtain ⟨⟨s0,s1⟩,sf0,sf1⟩:=bx2 HR2.out
                have hw2:=lt_heap HQ2.out
                have hw2r:=lt_heap HR2.out
                clear hb2)
             | (go_at_call 108
                (with_reducible refine (HIC.out _ (HB2.out.alloc HB2.out.size (.cells #[.int .i64 (be:Int),.int .i64 bl] 36)) (HN2.out.alloc _) (HSC2.out HZ.out)).mono ?_)
                rintro e w3 ⟨rfl,hb3⟩
                have HB3:=Lib.hid ((HB2.out.alloc HB2.out.size (.cells #[.int .i64 (be:Int),.int .i64 bl] 36)).trans (hb3.mono (HB2.out.alloc HB2.out.size _).size))
                have HR3:=Lib.hid (heap_below (heap_old HR2.out _) hb3)
                have HN3:=Lib.hid ((HN2.out.alloc _).below hb3)
                obtain ⟨⟨t0,t1⟩,tf0,tf1⟩:=bx2 HR3.out
                have hw3:=lt_heap HR3.out
                clear hb3)
             | (fail))
           have HX:=Lib.hid (heap_old (st2 HR3.out (.int .i64 (ce:Int)) (.int .i64 cl)) (.cells #[.int .i64 (ce:Int),.int .i64 cl] 36))
           obtain ⟨⟨x0,x1⟩,-⟩:=bx2 HX.out
           refine bodyPost_ret (v := .agg #[.int .i64 (ce:Int),.int .i64 cl]) (by simp [results,Tryz.results108,go_sem,x0,x1]) rfl ?_
           have e:=HE.out
           cases e
           exact ⟨rfl,((HB3.out.setCell (Nat.le_refl _) _).setCell (Nat.le_refl _) _).alloc (by have:=HB3.out.size; simpa using this) _⟩
       · have e2:((be:Int) != 0)=true:=bne_iff_ne.2 (by omega)
         have HE:Hid ((re,rl)=(be,bl)):=Lib.hid (by
           rw [HF3.out]
           show (if (if be=0 then (ce,cl) else (be,bl)).1=0 then _ else (if be=0 then (ce,cl) else (be,bl))) = _
           rw [if_neg hbe,if_neg hbe])
         clear hbe HF3
         go_wp2_with (first
           | (go_at_call 153
              refine HST.out.mono ?_
              rintro e w1 ⟨rfl,hn1,hk1⟩
              have HN1:=Lib.hid hn1
              have HB1:=Lib.hid (HBA.out.trans (hk1.below (Nat.le_succ _) HBA.out.size))
              have HQ1:=Lib.hid (hk1.heap HQ.out (by omega))
              have HR1:=Lib.hid (hk1.heap HRX.out (by omega))
              obtain ⟨q0,q1,q2,q3,q4,q5⟩:=bx6c HQ1.out
              obtain ⟨⟨v0,v1⟩,vf0,vf1⟩:=bx2 HR1.out
              have hw1:=lt_heap HQ1.out
              have hw1r:=lt_heap HR1.out
              clear hn1 hk1)
           | (go_at_call 108
              (with_reducible refine (HIB.out _ HB1.out (HN1.out HZ.out) (HSC2.out HZ.out)).mono ?_)
              rintro e w2 ⟨rfl,hb2⟩
              have HB2:=Lib.hid (HB1.out.trans (hb2.mono HB1.out.size))
              have HQ2:=Lib.hid (heap_below HQ1.out hb2)
              have HR2:=Lib.hid (heap_below HR1.out hb2)
              have HN2:=Lib.hid ((HN1.out HZ.out).below hb2)
              obtain ⟨r0,r1,r2,r3,r4,r5⟩:=bx6c HQ2.out
              obtain ⟨⟨s0,s1⟩,sf0,sf1⟩:=bx2 HR2.out
              have hw2:=lt_heap HQ2.out
              have hw2r:=lt_heap HR2.out
              clear hb2)
           | (fail))
         have HX:=Lib.hid (heap_old (st2 HR2.out (.int .i64 (be:Int)) (.int .i64 bl)) (.cells #[.int .i64 (be:Int),.int .i64 bl] 36))
         obtain ⟨⟨x0,x1⟩,-⟩:=bx2 HX.out
         refine bodyPost_ret (v := .agg #[.int .i64 (be:Int),.int .i64 bl]) (by simp [results,Tryz.results108,go_sem,x0,x1]) rfl ?_
         have e:=HE.out
         cases e
         exact ⟨rfl,((HB2.out.setCell (Nat.le_refl _) _).setCell (Nat.le_refl _) _).alloc (by have:=HB2.out.size; simpa using this) _⟩
     · have e1:((es:Int) != 0)=true:=bne_iff_ne.2 (by omega)
       have HE:Hid ((re,rl)=(es,ln)):=Lib.hid (by
         rw [HF2.out,if_neg hes0]
         show (if es=0 then _ else (es,ln)) = _
         rw [if_neg hes0])
       clear hes0 HF2
       go_wp2_with (first
         | (go_at_call 153
            refine HST.out.mono ?_
            rintro e w1 ⟨rfl,hn1,hk1⟩
            have HN1:=Lib.hid hn1
            have HB1:=Lib.hid (HBA.out.trans (hk1.below (Nat.le_succ _) HBA.out.size))
            have HQ1:=Lib.hid (hk1.heap HQ.out (by omega))
            have HR1:=Lib.hid (hk1.heap HRX.out (by omega))
            obtain ⟨q0,q1,q2,q3,q4,q5⟩:=bx6c HQ1.out
            obtain ⟨⟨v0,v1⟩,vf0,vf1⟩:=bx2 HR1.out
            have hw1:=lt_heap HQ1.out
            have hw1r:=lt_heap HR1.out
            clear hn1 hk1)
         | (fail))
       have HX:=Lib.hid (st2 HR1.out (.int .i64 (es:Int)) (.int .i64 ln))
       obtain ⟨⟨x0,x1⟩,-⟩:=bx2 HX.out
       refine bodyPost_ret (v := .agg #[.int .i64 (es:Int),.int .i64 ln]) (by simp [results,Tryz.results108,go_sem,x0,x1]) rfl ?_
       have e:=HE.out
       cases e
       exact ⟨rfl,(HB1.out.setCell (Nat.le_refl _) _).setCell (Nat.le_refl _) _⟩
theorem stmtsC_any {q bf br:Nat} {c:Ck}:∀ (N:Nat) (l:List Sm),SizeOf.sizeOf l≤N→∀ (b:Nat) (n:Nms) (w:World) (S:Nat→Prop) (v:Value),ChAt w q c bf br→Ns w b n→n.length≤30→(∀ b,S b→b<w.heap.size)→Rd w S (.row 6 (l.map Sm.nd)) v→Calls Tryz.prog 108 #[at0 q,v,.map (some b)] w (OutF w (smsC c n l))
 | 0,l,hl=>fun b n w S v h hn hnl hS hr=>stmtsC_step l (fun ks hk=>absurd hk (by omega)) b n w S v h hn hnl hS hr
 | N+1,l,hl=>fun b n w S v h hn hnl hS hr=>stmtsC_step l (fun ks hk b n w S v h hn hnl hS hr=>stmtsC_any N ks (by omega) b n w S v h hn hnl hS hr) b n w S v h hn hnl hS hr
end Go.Proofs.YtcmopnkldplngabGreatDoor
namespace Go.Proofs.YtcmopnkldplngabGreatDoor
open Go.RowKit
set_option linter.unusedVariables false
theorem addN_one {l:Nms} {s:List Nat}:addN l [s]=if s∈l then none else some (l ++ [s]):=by
 rw [addN]
 by_cases h:s∈l
 · rw [if_pos h,if_pos h]
 · rw [if_neg h,if_neg h,addN]
theorem bdsC_cons (c:Ck) (st a:Nms) (b:Bd) (r:List Bd):bdsC c st a (b :: r)=if b.name∈a then (112,b.ln) else fstF (bdC c st b) (bdsC c st (a ++ [b.name]) r):=by rw [bdsC]
theorem names_rd {w:World} {S:Nat→Prop} {ps:Nms} {v:Value} (h:Rd w S (.row 1 (ps.map nmNd)) v):(∀ s∈ps,∀ x∈s,x<256)∧(∀ s∈ps,s.length≤140737488355328):=by
 rw [Rd] at h
 obtain ⟨A,c,rfl,-,-,h⟩:=h
 have key:∀ s∈ps,(∀ x∈s,x<256)∧s.length≤140737488355328:=fun s hs=>by
   obtain ⟨i,hi,rfl⟩:=List.getElem_of_mem hs
   obtain ⟨b,o,vs,h1,h2,h3,h4,h5⟩:=h.at i (nmNd ps[i]) (by simp [hi])
   obtain ⟨-,a,b⟩:=(nm_rd _ _).1 h5
   exact ⟨a,b⟩
 exact ⟨fun s hs=>(key s hs).1,fun s hs=>(key s hs).2⟩
set_option maxRecDepth 100000 in
set_option maxHeartbeats 8000000 in
theorem bodiesC_any {q bf br:Nat} {c:Ck} (l:List Bd) (hll:l.length≤1000) (hps:∀ b∈l,b.ps.length≤1000)
   (b:Nat) (st:Nms) (w:World) (S:Nat→Prop) (v:Value) (h:ChAt w q c bf br) (hn:Ns w b st) (hnl:st.length≤1000) (hS:∀ b,S b→b<w.heap.size) (hr:Rd w S (.row 4 (l.map Bd.nd)) v) :
   Calls Tryz.prog 62 #[at0 q,v,.map (some b)] w (OutF w (bdsC c st [] l)):=by
 rw [Rd] at hr
 obtain ⟨A,cp,rfl,hcp,hcpm,hr⟩:=hr
 rw [List.length_map] at hcp ⊢
 have HR:=Lib.hid hr
 have HSS:=Lib.hid hS
 have H0:=Lib.hid h
 have HN0:=Lib.hid hn
 have HPS:=Lib.hid hps
 have hqw:=h.lt
 have hbw:=hn.lt
 obtain ⟨m,hm⟩:∃ m,Hid (l.length=m):=⟨_,Lib.hid rfl⟩
 rw [hm.out] at hcp hll ⊢
 obtain ⟨r,hrr⟩:∃ r,Hid (bdsC c st [] l=r):=⟨_,Lib.hid rfl⟩
 rw [hrr.out]
 obtain ⟨re,rl⟩:=r
 have HRC:=Lib.hid (heap_old (heap_new w (.cells #[.int .i64 0,.int .i64 0] 36)) (.map #[] 0))
 have hAH:=Ns.made (w.alloc (.cells #[.int .i64 0,.int .i64 0] 36))
 rw [show (w.alloc (.cells #[.int .i64 0,.int .i64 0] 36)).heap.size=w.heap.size+1 by simp] at hAH
 have HAH:=Lib.hid hAH
 have HB0:=Lib.hid (two w (.cells #[.int .i64 0,.int .i64 0] 36) (.map #[] 0))
 unfold maxLen at hcpm
 unfold OutF
 have hmm:=@run_makeMap Tryz.prog
 clear hr hS h hn hAH hps
 unfold at0 at *
 go_enter Tryz.func62,Tryz.ntmps62
 go_wp2_with fail
 go_loopg [15] m (fun g i wr=>∃ (j:Nat) (aj:Nms),j+g=m∧i = .int .i64 (j:Int)∧aj.length=j∧Hid (bdsC c st aj (l.drop j)=(re,rl))∧Hid (Ns wr (w.heap.size+1) aj)∧Hid (wr.heap[w.heap.size]?=some (.cells #[.int .i64 0,.int .i64 0] 36 (0,0)))∧Hid (Below w.heap.size w wr))
 case atStart=>exact ⟨0,[],by omega,rfl,rfl,Lib.hid (by rw [List.drop_zero]; exact hrr.out),HAH,HRC,HB0⟩
 case round =>
   obtain ⟨j,aj,hj,rfl,hajl,HF,HN,HRC,HK⟩:=hrel
   obtain ⟨⟨rc0,rc1⟩,rf0,rf1⟩:=bx2 HRC.out
   have hrcl:=lt_heap HRC.out
   have hnlt:=HN.out.lt
   have HAL:=Lib.hid hajl
   have haj2:aj.length≤1000:=by omega
   clear hajl
   cases gk with
   | zero =>
     have h1:¬ (j:Int)<(m:Int):=by omega
     have HE:Hid (fl0=(re,rl)):=Lib.hid (by rw [← HF.out,List.drop_eq_nil_of_le (by rw [hm.out]; omega),bdsC])
     clear HF
     go_wp2_with fail
     have HX:=Lib.hid (st2 HRC.out (.int .i64 0) (.int .i64 0))
     obtain ⟨⟨x0,x1⟩,-⟩:=bx2 HX.out
     refine bodyPost_ret (v := .agg #[.int .i64 0,.int .i64 0]) (by simp [results,Tryz.results62,go_sem,x0,x1]) rfl ?_
     have e:=HE.out
     unfold fl0 at e
     cases e
     exact ⟨rfl,(HK.out.setCell (Nat.le_refl _) _).setCell (Nat.le_refl _) _⟩
   | succ g =>
     have h1:(j:Int)<(m:Int):=by omega
     have h2:j<m:=by omega
     have hjl:j<l.length:=by rw [hm.out]; exact h2
     obtain ⟨bb,o,vs,rfl,hSb,hvl,hrg,hx⟩:=HR.out.at j (Bd.nd l[j]) (by simp [hjl])
     have HD:=Lib.hid (List.drop_eq_getElem_cons hjl)
     have hpl:=HPS.out _ (List.getElem_mem hjl)
     generalize l[j]=x at *
     obtain ⟨s1,ps1,st1,ln1⟩:=x
     obtain ⟨y,y',hv,h8,hl8,hy,hy1⟩:=(hd_rd s1 ps1 6 _ ln1 _).1 hx
     obtain ⟨p8,p9⟩:=names_rd hy
     have hy0:=hy
     rw [Rd] at hy0
     obtain ⟨A3,c3,rfl,-,-,hyt⟩:=hy0
     obtain ⟨A4,n4,c4,rfl⟩:=hy1.row_form
     rw [List.length_map] at hv hy
     have hv2:vs=[.string (strOf s1),.slice A3 ps1.length c3,.slice A4 n4 c4,.int .i64 ln1]:=by
       injection hv with hv
       have:=congrArg Array.toList hv
       simpa using this
     subst hv2
     have hcell:∀ i u,([.string (strOf s1),.slice A3 ps1.length c3,.slice A4 n4 c4,.int .i64 ln1]:List Value)[i]?=some u→wr.cell? ⟨bb,o+j*4+i,none⟩=some u:=fun i u hu=>by
       have:=hrg i u hu
       rw [Nat.zero_add] at this
       exact (HK.out.cell (p:=⟨bb,o+j*4+i,none⟩) (HSS.out bb hSb)).trans this
     have y0:wr.cell? ⟨bb,o+j*4,none⟩=some (.string (strOf s1)):=hcell 0 _ rfl
     have y1:=hcell 1 _ rfl
     have y2:=hcell 2 _ rfl
     have y3:=hcell 3 _ rfl
     have hbr:bb<wr.heap.size:=Nat.lt_of_lt_of_le (HSS.out bb hSb) HK.out.size
     have HF2:Hid ((re,rl)=if s1∈aj then (112,ln1) else fstF (bdC c st ⟨s1,ps1,st1,ln1⟩) (bdsC c st (aj ++ [s1]) (l.drop (j+1)))):=Lib.hid (by rw [← HF.out,HD.out,bdsC_cons])
     have HP8:=Lib.hid p8
     have HP9:=Lib.hid p9
     have H8:=Lib.hid h8
     have HL8:=Lib.hid hl8
     have HTX:Hid (∀ w' (z:Nat),Below w.heap.size w w'→w.heap.size≤z→Txn w' z A3 ps1):=Lib.hid (fun w' z hb hz=>fun i s hs=>by
       obtain ⟨b1,o1,e1,e2,e3⟩:=(Txn.of_rd (q:=z) (c:=c3) hyt (fun b hb=>by have:=HSS.out b hb; omega)) i s hs
       exact ⟨b1,o1,e1,e2,(hb.cell (p:=⟨b1,o1+i,none⟩) (by
         obtain ⟨b2,o2,vs2,g1,g2,-⟩:=hyt.at i (nmNd s) (by simp [hs])
         rw [g1] at e1
         cases e1
         exact HSS.out _ g2)).trans e3⟩)
     have HIB:=Lib.hid (fun (b':Nat) (n':Nms) (w':World) (a1:Below w.heap.size w w') (a2:Ns w' b' n') (a3:n'.length≤30)=>stmtsC_any (c:=c) _ st1 (Nat.le_refl _) b' n' w' S _ (H0.out.below a1) a2 a3 (fun b hb=>Nat.lt_of_lt_of_le (HSS.out b hb) a1.size) (Rd.keep (fun p hp=>a1.cell (HSS.out _ hp)) (fun _ h=>h) _ _ hy1))
     clear hrg hx hv hy hy1 hyt HF HD hjl hcell p8 p9 h8 hl8
     obtain ⟨pn,hpn⟩:∃ pn,Hid (ps1.length=pn):=⟨_,Lib.hid rfl⟩
     rw [hpn.out] at y1 hpl
     have HQ:=Lib.hid (heap_new wr (.cells #[.string (strOf s1),.slice A3 pn c3,.slice A4 n4 c4,.int .i64 ln1] 87))
     have HBA:Hid (Below w.heap.size w (wr.alloc (.cells #[.string (strOf s1),.slice A3 pn c3,.slice A4 n4 c4,.int .i64 ln1] 87))):=Lib.hid (HK.out.alloc HK.out.size _)
     have HRX:=Lib.hid (heap_old HRC.out (.cells #[.string (strOf s1),.slice A3 pn c3,.slice A4 n4 c4,.int .i64 ln1] 87))
     have HNX:=Lib.hid (HN.out.alloc (.cells #[.string (strOf s1),.slice A3 pn c3,.slice A4 n4 c4,.int .i64 ln1] 87))
     have HCL:=Lib.hid (clone_any _ (HN0.out.below HBA.out))
     have hzx:(wr.alloc (.cells #[.string (strOf s1),.slice A3 pn c3,.slice A4 n4 c4,.int .i64 ln1] 87)).heap.size=wr.heap.size+1:=by simp
     rw [hzx] at HCL
     have HAD:=Lib.hid (fun w' (hb:Ns w' (w.heap.size+1) aj)=>show Calls Tryz.prog 107 #[.map (some (w.heap.size+1)),.slice (some ⟨w'.heap.size,0,none⟩) 1 1] (w'.alloc (.cells #[.string (strOf s1)] 9)) (OutN (w.heap.size+1) (w'.alloc (.cells #[.string (strOf s1)] 9)) aj [s1]) from add_any (w'.alloc (.cells #[.string (strOf s1)] 9)) (hb.alloc _) (some ⟨w'.heap.size,0,none⟩) 1 [s1] (Txn.one (by have:=hb.lt; omega) s1 _) (by intro u hu; rw [List.mem_singleton.1 hu]; exact H8.out) (by intro u hu; rw [List.mem_singleton.1 hu]; exact HL8.out) (by simp; omega))
     have HAP:=Lib.hid (fun w' (hb:Ns w' (wr.heap.size+1) st) (hb2:Below w.heap.size w w')=>add_any w' hb A3 c3 ps1 (HTX.out _ _ hb2 (by have:=HK.out.size; omega)) HP8.out HP9.out (by have:=hpn.out; omega))
     rw [hpn.out] at HAP
     have hszr:w.heap.size≤wr.heap.size:=HK.out.size
     clear hzx HTX
     by_cases hin:s1∈aj
     · have HE:Hid ((re,rl)=(112,ln1)):=Lib.hid (by rw [HF2.out,if_pos hin])
       have HA1:Hid (addN aj [s1]=none):=Lib.hid (by rw [addN_one,if_pos hin])
       unfold OutN at HAD
       rw [HA1.out] at HAD
       clear hin HF2
       go_wp2_with (first
         | (go_at_call 106
            refine HCL.out.mono ?_
            rintro e w0 ⟨rfl,hn0,hb0⟩
            have hb0':Below (wr.alloc (.cells #[.string (strOf s1),.slice A3 pn c3,.slice A4 n4 c4,.int .i64 ln1] 87)).heap.size (wr.alloc (.cells #[.string (strOf s1),.slice A3 pn c3,.slice A4 n4 c4,.int .i64 ln1] 87)) w0:=by simpa using hb0
            have HS0:=Lib.hid hn0
            have HB0:=Lib.hid (HBA.out.trans (hb0'.mono HBA.out.size))
            have HQ0:=Lib.hid (heap_below HQ.out hb0')
            have HR0:=Lib.hid (heap_below HRX.out hb0')
            have HN0':=Lib.hid (HNX.out.below hb0')
            have h00:=lt_heap HQ0.out
            have h01:=lt_heap HR0.out
            have h02:=hn0.lt
            obtain ⟨⟨q0,q1,q2,q3⟩,-⟩:=box4f HQ0.out
            clear hn0 hb0 hb0')
         | (go_at_call 107
            (with_reducible refine (HAD.out _ HN0'.out).mono ?_)
            rintro e w1 ⟨rfl,⟨l1,hl1,hl2⟩,hk1⟩
            have HB1:=Lib.hid ((HB0.out.alloc HB0.out.size (.cells #[.string (strOf s1)] 9)).trans (hk1.below (Nat.le_succ _) (HB0.out.alloc HB0.out.size _).size))
            have HQ1:=Lib.hid (hk1.heap (heap_old HQ0.out _) (by omega))
            have HR1:=Lib.hid (hk1.heap (heap_old HR0.out _) (by omega))
            have HS1:=Lib.hid ((HS0.out.alloc _).kp hk1 (by omega))
            have HL1:=Lib.hid hl1
            have HL2:=Lib.hid hl2
            obtain ⟨⟨r0,r1,r2,r3⟩,-⟩:=box4f HQ1.out
            obtain ⟨⟨v0,v1⟩,vf0,vf1⟩:=bx2 HR1.out
            have h10:=lt_heap HQ1.out
            have h11:=lt_heap HR1.out
            clear hl1 hl2 hk1)
         | (fail))
       have HX:=Lib.hid (st2 HR1.out (.int .i64 (112)) (.int .i64 ln1))
       obtain ⟨⟨z0,z1⟩,-⟩:=bx2 HX.out
       refine bodyPost_ret (v := .agg #[.int .i64 (112),.int .i64 ln1]) (by simp [results,Tryz.results62,go_sem,z0,z1]) rfl ?_
       have e:=HE.out
       cases e
       exact ⟨rfl,(HB1.out.setCell (Nat.le_refl _) _).setCell (Nat.le_refl _) _⟩
     · have HF3 : Hid ((re,rl)=fstF (bdC c st ⟨s1,ps1,st1,ln1⟩) (bdsC c st (aj ++ [s1]) (l.drop (j+1)))):=Lib.hid (by rw [HF2.out,if_neg hin])
       have HA1:Hid (addN aj [s1]=some (aj ++ [s1])):=Lib.hid (by rw [addN_one,if_neg hin])
       unfold OutN at HAD HAP
       rw [HA1.out] at HAD
       clear hin HF2
       unfold bdC at HF3
       dsimp only at HF3
       cases hsc:addN st ps1 with
       | none =>
         rw [hsc] at HAP HF3
         have HE:Hid ((re,rl)=(112,ln1)):=Lib.hid (by rw [HF3.out]; rfl)
         clear hsc HF3
         go_wp2_with (first
           | (go_at_call 106
              refine HCL.out.mono ?_
              rintro e w0 ⟨rfl,hn0,hb0⟩
              have hb0':Below (wr.alloc (.cells #[.string (strOf s1),.slice A3 pn c3,.slice A4 n4 c4,.int .i64 ln1] 87)).heap.size (wr.alloc (.cells #[.string (strOf s1),.slice A3 pn c3,.slice A4 n4 c4,.int .i64 ln1] 87)) w0:=by simpa using hb0
              have HS0:=Lib.hid hn0
              have HB0:=Lib.hid (HBA.out.trans (hb0'.mono HBA.out.size))
              have HQ0:=Lib.hid (heap_below HQ.out hb0')
              have HR0:=Lib.hid (heap_below HRX.out hb0')
              have HN0':=Lib.hid (HNX.out.below hb0')
              have h00:=lt_heap HQ0.out
              have h01:=lt_heap HR0.out
              have h02:=hn0.lt
              obtain ⟨⟨q0,q1,q2,q3⟩,-⟩:=box4f HQ0.out
              clear hn0 hb0 hb0')
           | (go_at_call 107
              (with_reducible refine (HAD.out _ HN0'.out).mono ?_)
              rintro e w1 ⟨rfl,⟨l1,hl1,hl2⟩,hk1⟩
              have HB1:=Lib.hid ((HB0.out.alloc HB0.out.size (.cells #[.string (strOf s1)] 9)).trans (hk1.below (Nat.le_succ _) (HB0.out.alloc HB0.out.size _).size))
              have HQ1:=Lib.hid (hk1.heap (heap_old HQ0.out _) (by omega))
              have HR1:=Lib.hid (hk1.heap (heap_old HR0.out _) (by omega))
              have HS1:=Lib.hid ((HS0.out.alloc _).kp hk1 (by omega))
              have HL1:=Lib.hid hl1
              have HL2:=Lib.hid hl2
              obtain ⟨⟨r0,r1,r2,r3⟩,-⟩:=box4f HQ1.out
              obtain ⟨⟨v0,v1⟩,vf0,vf1⟩:=bx2 HR1.out
              have h10:=lt_heap HQ1.out
              have h11:=lt_heap HR1.out
              clear hl1 hl2 hk1)
           | (go_at_call 107
              (with_reducible refine (HAP.out _ HS1.out HB1.out).mono ?_)
              rintro e w2 ⟨rfl,⟨m1,hm1,hm2⟩,hk2⟩
              have HB2:=Lib.hid (HB1.out.trans (hk2.below (by omega) HB1.out.size))
              have HQ2:=Lib.hid (hk2.heap HQ1.out (by omega))
              have HR2:=Lib.hid (hk2.heap HR1.out (by omega))
              have HN2:=Lib.hid (HL1.out.kp hk2 (by omega))
              have HM1:=Lib.hid hm1
              have HM2:=Lib.hid hm2
              obtain ⟨⟨s0,s10,s2,s3⟩,-⟩:=box4f HQ2.out
              obtain ⟨⟨t0,t1⟩,tf0,tf1⟩:=bx2 HR2.out
              have h20:=lt_heap HQ2.out
              have h21:=lt_heap HR2.out
              clear hm1 hm2 hk2)
           | (fail))
         have HX:=Lib.hid (st2 HR2.out (.int .i64 (112)) (.int .i64 ln1))
         obtain ⟨⟨z0,z1⟩,-⟩:=bx2 HX.out
         refine bodyPost_ret (v := .agg #[.int .i64 (112),.int .i64 ln1]) (by simp [results,Tryz.results62,go_sem,z0,z1]) rfl ?_
         have e:=HE.out
         cases e
         exact ⟨rfl,(HB2.out.setCell (Nat.le_refl _) _).setCell (Nat.le_refl _) _⟩
       | some sc =>
         have HSC:=Lib.hid hsc
         rw [hsc] at HAP HF3
         dsimp only at HF3
         clear hsc
         obtain ⟨D,hD⟩:∃ D,Hid (nmD sc=D):=⟨_,Lib.hid rfl⟩
         by_cases hbig:30<sc.length
         · have HE:Hid ((re,rl)=(102,ln1)):=Lib.hid (by rw [HF3.out,if_pos hbig]; rfl)
           clear HF3
           go_wp2_with (first
             | (go_at_call 106
                refine HCL.out.mono ?_
                rintro e w0 ⟨rfl,hn0,hb0⟩
                have hb0':Below (wr.alloc (.cells #[.string (strOf s1),.slice A3 pn c3,.slice A4 n4 c4,.int .i64 ln1] 87)).heap.size (wr.alloc (.cells #[.string (strOf s1),.slice A3 pn c3,.slice A4 n4 c4,.int .i64 ln1] 87)) w0:=by simpa using hb0
                have HS0:=Lib.hid hn0
                have HB0:=Lib.hid (HBA.out.trans (hb0'.mono HBA.out.size))
                have HQ0:=Lib.hid (heap_below HQ.out hb0')
                have HR0:=Lib.hid (heap_below HRX.out hb0')
                have HN0':=Lib.hid (HNX.out.below hb0')
                have h00:=lt_heap HQ0.out
                have h01:=lt_heap HR0.out
                have h02:=hn0.lt
                obtain ⟨⟨q0,q1,q2,q3⟩,-⟩:=box4f HQ0.out
                clear hn0 hb0 hb0')
             | (go_at_call 107
                (with_reducible refine (HAD.out _ HN0'.out).mono ?_)
                rintro e w1 ⟨rfl,⟨l1,hl1,hl2⟩,hk1⟩
                have HB1:=Lib.hid ((HB0.out.alloc HB0.out.size (.cells #[.string (strOf s1)] 9)).trans (hk1.below (Nat.le_succ _) (HB0.out.alloc HB0.out.size _).size))
                have HQ1:=Lib.hid (hk1.heap (heap_old HQ0.out _) (by omega))
                have HR1:=Lib.hid (hk1.heap (heap_old HR0.out _) (by omega))
                have HS1:=Lib.hid ((HS0.out.alloc _).kp hk1 (by omega))
                have HL1:=Lib.hid hl1
                have HL2:=Lib.hid hl2
                obtain ⟨⟨r0,r1,r2,r3⟩,-⟩:=box4f HQ1.out
                obtain ⟨⟨v0,v1⟩,vf0,vf1⟩:=bx2 HR1.out
                have h10:=lt_heap HQ1.out
                have h11:=lt_heap HR1.out
                clear hl1 hl2 hk1)
             | (go_at_call 107
                (with_reducible refine (HAP.out _ HS1.out HB1.out).mono ?_)
                rintro e w2 ⟨rfl,⟨m1,hm1,hm2⟩,hk2⟩
                have HB2:=Lib.hid (HB1.out.trans (hk2.below (by omega) HB1.out.size))
                have HQ2:=Lib.hid (hk2.heap HQ1.out (by omega))
                have HR2:=Lib.hid (hk2.heap HR1.out (by omega))
                have HN2:=Lib.hid (HL1.out.kp hk2 (by omega))
                have HM1:=Lib.hid hm1
                have HM2:=Lib.hid hm2
                obtain ⟨⟨s0,s10,s2,s3⟩,-⟩:=box4f HQ2.out
                obtain ⟨⟨t0,t1⟩,tf0,tf1⟩:=bx2 HR2.out
                have h20:=lt_heap HQ2.out
                have h21:=lt_heap HR2.out
                have hsc:m1=sc:=hm2 sc rfl
                rw [hsc] at HM1 hm1
                have ho:=hm1.own
                have hsz:=nm_size sc hm1.ok hm1.nd
                rw [hD.out] at ho hsz
                have t1:(30:Int)<(Maps.size D:Int):=by omega
                have t2:(Maps.size D:Int) > 30:=t1
                clear hsz hsc
                clear hm1 hm2 hk2)
             | (at_len
                refine wpList_len_own _ rfl _ 164 rfl 9 239 names_u unitElem (wr.heap.size+1) sc.length D rfl ho ?_)
             | (fail))
           have HX:=Lib.hid (st2 HR2.out (.int .i64 (102)) (.int .i64 ln1))
           obtain ⟨⟨z0,z1⟩,-⟩:=bx2 HX.out
           refine bodyPost_ret (v := .agg #[.int .i64 (102),.int .i64 ln1]) (by simp [results,Tryz.results62,go_sem,z0,z1]) rfl ?_
           have e:=HE.out
           cases e
           exact ⟨rfl,(HB2.out.setCell (Nat.le_refl _) _).setCell (Nat.le_refl _) _⟩
         · have HSL:Hid (sc.length≤30):=Lib.hid (by omega)
           rw [if_neg hbig] at HF3
           obtain ⟨be,bl,hb⟩:∃ be bl,Hid (smsC c sc st1=(be,bl)):=⟨_, _,Lib.hid rfl⟩
           have HIB:=Lib.hid (fun b' w' a1 a2=>show Calls Tryz.prog 108 #[.pointer (some ⟨q,0,none⟩),.slice A4 n4 c4,.map (some b')] w' (fun e w''=>e = .returned (.agg #[.int .i64 (be:Int),.int .i64 bl])∧Below w'.heap.size w' w'') from by
             have:=HIB.out b' sc w' a1 a2 HSL.out
             rw [hb.out] at this
             exact this)
           rw [hb.out] at HF3
           by_cases hbe:be=0
           · have e2:((be:Int) != 0)=false:=by rw [hbe]; rfl
             have HF4:Hid (bdsC c st (aj ++ [s1]) (l.drop (j+1))=(re,rl)):=Lib.hid (by
               rw [HF3.out]
               show _ = (if be=0 then _ else _)
               rw [if_pos hbe])
             clear hbe HF3
             go_wp2_with (first
               | (go_at_call 106
                  refine HCL.out.mono ?_
                  rintro e w0 ⟨rfl,hn0,hb0⟩
                  have hb0':Below (wr.alloc (.cells #[.string (strOf s1),.slice A3 pn c3,.slice A4 n4 c4,.int .i64 ln1] 87)).heap.size (wr.alloc (.cells #[.string (strOf s1),.slice A3 pn c3,.slice A4 n4 c4,.int .i64 ln1] 87)) w0:=by simpa using hb0
                  have HS0:=Lib.hid hn0
                  have HB0:=Lib.hid (HBA.out.trans (hb0'.mono HBA.out.size))
                  have HQ0:=Lib.hid (heap_below HQ.out hb0')
                  have HR0:=Lib.hid (heap_below HRX.out hb0')
                  have HN0':=Lib.hid (HNX.out.below hb0')
                  have h00:=lt_heap HQ0.out
                  have h01:=lt_heap HR0.out
                  have h02:=hn0.lt
                  obtain ⟨⟨q0,q1,q2,q3⟩,-⟩:=box4f HQ0.out
                  clear hn0 hb0 hb0')
               | (go_at_call 107
                  (with_reducible refine (HAD.out _ HN0'.out).mono ?_)
                  rintro e w1 ⟨rfl,⟨l1,hl1,hl2⟩,hk1⟩
                  have HB1:=Lib.hid ((HB0.out.alloc HB0.out.size (.cells #[.string (strOf s1)] 9)).trans (hk1.below (Nat.le_succ _) (HB0.out.alloc HB0.out.size _).size))
                  have HQ1:=Lib.hid (hk1.heap (heap_old HQ0.out _) (by omega))
                  have HR1:=Lib.hid (hk1.heap (heap_old HR0.out _) (by omega))
                  have HS1:=Lib.hid ((HS0.out.alloc _).kp hk1 (by omega))
                  have HL1:=Lib.hid hl1
                  have HL2:=Lib.hid hl2
                  obtain ⟨⟨r0,r1,r2,r3⟩,-⟩:=box4f HQ1.out
                  obtain ⟨⟨v0,v1⟩,vf0,vf1⟩:=bx2 HR1.out
                  have h10:=lt_heap HQ1.out
                  have h11:=lt_heap HR1.out
                  clear hl1 hl2 hk1)
               | (go_at_call 107
                  (with_reducible refine (HAP.out _ HS1.out HB1.out).mono ?_)
                  rintro e w2 ⟨rfl,⟨m1,hm1,hm2⟩,hk2⟩
                  have HB2:=Lib.hid (HB1.out.trans (hk2.below (by omega) HB1.out.size))
                  have HQ2:=Lib.hid (hk2.heap HQ1.out (by omega))
                  have HR2:=Lib.hid (hk2.heap HR1.out (by omega))
                  have HN2:=Lib.hid (HL1.out.kp hk2 (by omega))
                  have HM1:=Lib.hid hm1
                  have HM2:=Lib.hid hm2
                  obtain ⟨⟨s0,s10,s2,s3⟩,-⟩:=box4f HQ2.out
                  obtain ⟨⟨t0,t1⟩,tf0,tf1⟩:=bx2 HR2.out
                  have h20:=lt_heap HQ2.out
                  have h21:=lt_heap HR2.out
                  have hsc:m1=sc:=hm2 sc rfl
                  rw [hsc] at HM1 hm1
                  have ho:=hm1.own
                  have hsz:=nm_size sc hm1.ok hm1.nd
                  rw [hD.out] at ho hsz
                  have t1:¬ (30:Int)<(Maps.size D:Int):=by omega
                  have t2:¬ (Maps.size D:Int) > 30:=t1
                  have HSCN:Hid (Ns w2 (wr.heap.size+1) sc):=Lib.hid hm1
                  clear hsz hsc
                  clear hm1 hm2 hk2)
               | (at_len
                  refine wpList_len_own _ rfl _ 164 rfl 9 239 names_u unitElem (wr.heap.size+1) sc.length D rfl ho ?_)
               | (go_at_call 108
                  (with_reducible refine (HIB.out _ _ HB2.out HSCN.out).mono ?_)
                  rintro e w3 ⟨rfl,hb3⟩
                  have HB3:=Lib.hid (HB2.out.trans (hb3.mono HB2.out.size))
                  have HR3:=Lib.hid (heap_below HR2.out hb3)
                  have HN3:=Lib.hid (HN2.out.below hb3)
                  obtain ⟨⟨x0,x1⟩,xf0,xf1⟩:=bx2 HR3.out
                  have h31:=lt_heap HR3.out
                  clear hb3)
               | (fail))
             go_roundg g
             case measure=>omega
             case rel=>exact ⟨j+1,aj ++ [s1],by omega,by go_num,by rw [List.length_append,HAL.out]; rfl,HF4,Lib.hid (by rw [← HL2.out _ rfl]; exact HN3.out.alloc _),Lib.hid (heap_old HR3.out _),Lib.hid (HB3.out.alloc HB3.out.size _)⟩
           · have e2:((be:Int) != 0)=true:=bne_iff_ne.2 (by omega)
             have HE:Hid ((re,rl)=(be,bl)):=Lib.hid (by
               rw [HF3.out]
               show (if be=0 then _ else (be,bl)) = _
               rw [if_neg hbe])
             clear hbe HF3
             go_wp2_with (first
               | (go_at_call 106
                  refine HCL.out.mono ?_
                  rintro e w0 ⟨rfl,hn0,hb0⟩
                  have hb0':Below (wr.alloc (.cells #[.string (strOf s1),.slice A3 pn c3,.slice A4 n4 c4,.int .i64 ln1] 87)).heap.size (wr.alloc (.cells #[.string (strOf s1),.slice A3 pn c3,.slice A4 n4 c4,.int .i64 ln1] 87)) w0:=by simpa using hb0
                  have HS0:=Lib.hid hn0
                  have HB0:=Lib.hid (HBA.out.trans (hb0'.mono HBA.out.size))
                  have HQ0:=Lib.hid (heap_below HQ.out hb0')
                  have HR0:=Lib.hid (heap_below HRX.out hb0')
                  have HN0':=Lib.hid (HNX.out.below hb0')
                  have h00:=lt_heap HQ0.out
                  have h01:=lt_heap HR0.out
                  have h02:=hn0.lt
                  obtain ⟨⟨q0,q1,q2,q3⟩,-⟩:=box4f HQ0.out
                  clear hn0 hb0 hb0')
               | (go_at_call 107
                  (with_reducible refine (HAD.out _ HN0'.out).mono ?_)
                  rintro e w1 ⟨rfl,⟨l1,hl1,hl2⟩,hk1⟩
                  have HB1:=Lib.hid ((HB0.out.alloc HB0.out.size (.cells #[.string (strOf s1)] 9)).trans (hk1.below (Nat.le_succ _) (HB0.out.alloc HB0.out.size _).size))
                  have HQ1:=Lib.hid (hk1.heap (heap_old HQ0.out _) (by omega))
                  have HR1:=Lib.hid (hk1.heap (heap_old HR0.out _) (by omega))
                  have HS1:=Lib.hid ((HS0.out.alloc _).kp hk1 (by omega))
                  have HL1:=Lib.hid hl1
                  have HL2:=Lib.hid hl2
                  obtain ⟨⟨r0,r1,r2,r3⟩,-⟩:=box4f HQ1.out
                  obtain ⟨⟨v0,v1⟩,vf0,vf1⟩:=bx2 HR1.out
                  have h10:=lt_heap HQ1.out
                  have h11:=lt_heap HR1.out
                  clear hl1 hl2 hk1)
               | (go_at_call 107
                  (with_reducible refine (HAP.out _ HS1.out HB1.out).mono ?_)
                  rintro e w2 ⟨rfl,⟨m1,hm1,hm2⟩,hk2⟩
                  have HB2:=Lib.hid (HB1.out.trans (hk2.below (by omega) HB1.out.size))
                  have HQ2:=Lib.hid (hk2.heap HQ1.out (by omega))
                  have HR2:=Lib.hid (hk2.heap HR1.out (by omega))
                  have HN2:=Lib.hid (HL1.out.kp hk2 (by omega))
                  have HM1:=Lib.hid hm1
                  have HM2:=Lib.hid hm2
                  obtain ⟨⟨s0,s10,s2,s3⟩,-⟩:=box4f HQ2.out
                  obtain ⟨⟨t0,t1⟩,tf0,tf1⟩:=bx2 HR2.out
                  have h20:=lt_heap HQ2.out
                  have h21:=lt_heap HR2.out
                  have hsc:m1=sc:=hm2 sc rfl
                  rw [hsc] at HM1 hm1
                  have ho:=hm1.own
                  have hsz:=nm_size sc hm1.ok hm1.nd
                  rw [hD.out] at ho hsz
                  have t1:¬ (30:Int)<(Maps.size D:Int):=by omega
                  have t2:¬ (Maps.size D:Int) > 30:=t1
                  have HSCN:Hid (Ns w2 (wr.heap.size+1) sc):=Lib.hid hm1
                  clear hsz hsc
                  clear hm1 hm2 hk2)
               | (at_len
                  refine wpList_len_own _ rfl _ 164 rfl 9 239 names_u unitElem (wr.heap.size+1) sc.length D rfl ho ?_)
               | (go_at_call 108
                  (with_reducible refine (HIB.out _ _ HB2.out HSCN.out).mono ?_)
                  rintro e w3 ⟨rfl,hb3⟩
                  have HB3:=Lib.hid (HB2.out.trans (hb3.mono HB2.out.size))
                  have HR3:=Lib.hid (heap_below HR2.out hb3)
                  have HN3:=Lib.hid (HN2.out.below hb3)
                  obtain ⟨⟨x0,x1⟩,xf0,xf1⟩:=bx2 HR3.out
                  have h31:=lt_heap HR3.out
                  clear hb3)
               | (fail))
             have HX:=Lib.hid (heap_old (st2 HR3.out (.int .i64 (be:Int)) (.int .i64 bl)) (.cells #[.int .i64 (be:Int),.int .i64 bl] 36))
             obtain ⟨⟨z0,z1⟩,-⟩:=bx2 HX.out
             refine bodyPost_ret (v := .agg #[.int .i64 (be:Int),.int .i64 bl]) (by simp [results,Tryz.results62,go_sem,z0,z1]) rfl ?_
             have e:=HE.out
             cases e
             exact ⟨rfl,((HB3.out.setCell (Nat.le_refl _) _).setCell (Nat.le_refl _) _).alloc (by have:=HB3.out.size; simpa using this) _⟩
end Go.Proofs.YtcmopnkldplngabGreatDoor
namespace Go.Proofs.YtcmopnkldplngabGreatDoor
open Go.RowKit
set_option linter.unusedVariables false
theorem rlsC_cons (c:Ck) (a:Nms) (b:Rl) (r:List Rl):rlsC c a (b :: r)=if b.name∈a then (112,b.ln) else fstF (rlC c b) (rlsC c (a ++ [b.name]) r):=by rw [rlsC]
set_option maxRecDepth 100000 in
set_option maxHeartbeats 8000000 in
theorem rolesC_any {q bf br:Nat} {c:Ck} (l:List Rl) (hll:l.length≤1000) (hps:∀ b∈l,b.ps.length≤1000∧b.on.length≤1000∧∀ x∈b.on,x.ps.length≤1000)
   (w:World) (S:Nat→Prop) (v:Value) (h:ChAt w q c bf br) (hS:∀ b,S b→b<w.heap.size) (hr:Rd w S (.row 4 (l.map Rl.nd)) v) :
   Calls Tryz.prog 63 #[at0 q,v] w (OutF w (rlsC c [] l)):=by
 rw [Rd] at hr
 obtain ⟨A,cp,rfl,hcp,hcpm,hr⟩:=hr
 rw [List.length_map] at hcp ⊢
 have HR:=Lib.hid hr
 have HSS:=Lib.hid hS
 have H0:=Lib.hid h
 have HPS:=Lib.hid hps
 have hqw:=h.lt
 obtain ⟨m,hm⟩:∃ m,Hid (l.length=m):=⟨_,Lib.hid rfl⟩
 rw [hm.out] at hcp hll ⊢
 obtain ⟨r,hrr⟩:∃ r,Hid (rlsC c [] l=r):=⟨_,Lib.hid rfl⟩
 rw [hrr.out]
 obtain ⟨re,rl⟩:=r
 have HRC:=Lib.hid (heap_old (heap_new w (.cells #[.int .i64 0,.int .i64 0] 36)) (.map #[] 0))
 have hAH:=Ns.made (w.alloc (.cells #[.int .i64 0,.int .i64 0] 36))
 rw [show (w.alloc (.cells #[.int .i64 0,.int .i64 0] 36)).heap.size=w.heap.size+1 by simp] at hAH
 have HAH:=Lib.hid hAH
 have HB0:=Lib.hid (two w (.cells #[.int .i64 0,.int .i64 0] 36) (.map #[] 0))
 unfold maxLen at hcpm
 unfold OutF
 have hmm:=@run_makeMap Tryz.prog
 clear hr hS h hAH hps
 unfold at0 at *
 go_enter Tryz.func63,Tryz.ntmps63
 go_wp2_with fail
 go_loopg [13] m (fun g i wr=>∃ (j:Nat) (aj:Nms),j+g=m∧i = .int .i64 (j:Int)∧aj.length=j∧Hid (rlsC c aj (l.drop j)=(re,rl))∧Hid (Ns wr (w.heap.size+1) aj)∧Hid (wr.heap[w.heap.size]?=some (.cells #[.int .i64 0,.int .i64 0] 36 (0,0)))∧Hid (Below w.heap.size w wr))
 case atStart=>exact ⟨0,[],by omega,rfl,rfl,Lib.hid (by rw [List.drop_zero]; exact hrr.out),HAH,HRC,HB0⟩
 case round =>
   obtain ⟨j,aj,hj,rfl,hajl,HF,HN,HRC,HK⟩:=hrel
   obtain ⟨⟨rc0,rc1⟩,rf0,rf1⟩:=bx2 HRC.out
   have hrcl:=lt_heap HRC.out
   have hnlt:=HN.out.lt
   have HAL:=Lib.hid hajl
   have haj2:aj.length≤1000:=by omega
   clear hajl
   cases gk with
   | zero =>
     have h1:¬ (j:Int)<(m:Int):=by omega
     have HE:Hid (fl0=(re,rl)):=Lib.hid (by rw [← HF.out,List.drop_eq_nil_of_le (by rw [hm.out]; omega),rlsC])
     clear HF
     go_wp2_with fail
     have HX:=Lib.hid (st2 HRC.out (.int .i64 0) (.int .i64 0))
     obtain ⟨⟨x0,x1⟩,-⟩:=bx2 HX.out
     refine bodyPost_ret (v := .agg #[.int .i64 0,.int .i64 0]) (by simp [results,Tryz.results63,go_sem,x0,x1]) rfl ?_
     have e:=HE.out
     unfold fl0 at e
     cases e
     exact ⟨rfl,(HK.out.setCell (Nat.le_refl _) _).setCell (Nat.le_refl _) _⟩
   | succ g =>
     have h1:(j:Int)<(m:Int):=by omega
     have h2:j<m:=by omega
     have hjl:j<l.length:=by rw [hm.out]; exact h2
     obtain ⟨bb,o,vs,rfl,hSb,hvl,hrg,hx⟩:=HR.out.at j (Rl.nd l[j]) (by simp [hjl])
     have HD:=Lib.hid (List.drop_eq_getElem_cons hjl)
     have hpl:=HPS.out _ (List.getElem_mem hjl)
     generalize l[j]=x at *
     obtain ⟨s1,ps1,st1,ln1⟩:=x
     obtain ⟨hpl,hol,hop⟩:=hpl
     obtain ⟨y,y',hv,h8,hl8,hy,hy1⟩:=(hd_rd s1 ps1 4 _ ln1 _).1 hx
     obtain ⟨p8,p9⟩:=names_rd hy
     have hy0:=hy
     rw [Rd] at hy0
     obtain ⟨A3,c3,rfl,-,-,hyt⟩:=hy0
     obtain ⟨A4,n4,c4,rfl⟩:=hy1.row_form
     rw [List.length_map] at hv hy
     have hv2:vs=[.string (strOf s1),.slice A3 ps1.length c3,.slice A4 n4 c4,.int .i64 ln1]:=by
       injection hv with hv
       have:=congrArg Array.toList hv
       simpa using this
     subst hv2
     have hcell:∀ i u,([.string (strOf s1),.slice A3 ps1.length c3,.slice A4 n4 c4,.int .i64 ln1]:List Value)[i]?=some u→wr.cell? ⟨bb,o+j*4+i,none⟩=some u:=fun i u hu=>by
       have:=hrg i u hu
       rw [Nat.zero_add] at this
       exact (HK.out.cell (p:=⟨bb,o+j*4+i,none⟩) (HSS.out bb hSb)).trans this
     have y0:wr.cell? ⟨bb,o+j*4,none⟩=some (.string (strOf s1)):=hcell 0 _ rfl
     have y1:=hcell 1 _ rfl
     have y2:=hcell 2 _ rfl
     have y3:=hcell 3 _ rfl
     have hbr:bb<wr.heap.size:=Nat.lt_of_lt_of_le (HSS.out bb hSb) HK.out.size
     have HF2:Hid ((re,rl)=if s1∈aj then (112,ln1) else fstF (rlC c ⟨s1,ps1,st1,ln1⟩) (rlsC c (aj ++ [s1]) (l.drop (j+1)))):=Lib.hid (by rw [← HF.out,HD.out,rlsC_cons])
     have HP8:=Lib.hid p8
     have HP9:=Lib.hid p9
     have H8:=Lib.hid h8
     have HL8:=Lib.hid hl8
     have HTX:Hid (∀ w' (z:Nat),Below w.heap.size w w'→w.heap.size≤z→Txn w' z A3 ps1):=Lib.hid (fun w' z hb hz=>fun i s hs=>by
       obtain ⟨b1,o1,e1,e2,e3⟩:=(Txn.of_rd (q:=z) (c:=c3) hyt (fun b hb=>by have:=HSS.out b hb; omega)) i s hs
       exact ⟨b1,o1,e1,e2,(hb.cell (p:=⟨b1,o1+i,none⟩) (by
         obtain ⟨b2,o2,vs2,g1,g2,-⟩:=hyt.at i (nmNd s) (by simp [hs])
         rw [g1] at e1
         cases e1
         exact HSS.out _ g2)).trans e3⟩)
     have HIB:=Lib.hid (fun (b':Nat) (n':Nms) (w':World) (a1:Below w.heap.size w w') (a2:Ns w' b' n') (a3:n'.length≤1000)=>bodiesC_any (c:=c) st1 hol hop b' n' w' S _ (H0.out.below a1) a2 a3 (fun b hb=>Nat.lt_of_lt_of_le (HSS.out b hb) a1.size) (Rd.keep (fun p hp=>a1.cell (HSS.out _ hp)) (fun _ h=>h) _ _ hy1))
     clear hrg hx hv hy hy1 hyt HF HD hjl hcell p8 p9 h8 hl8 hol hop
     obtain ⟨pn,hpn⟩:∃ pn,Hid (ps1.length=pn):=⟨_,Lib.hid rfl⟩
     rw [hpn.out] at y1 hpl
     have HQ:=Lib.hid (heap_new wr (.cells #[.string (strOf s1),.slice A3 pn c3,.slice A4 n4 c4,.int .i64 ln1] 90))
     have HBA:Hid (Below w.heap.size w (wr.alloc (.cells #[.string (strOf s1),.slice A3 pn c3,.slice A4 n4 c4,.int .i64 ln1] 90))):=Lib.hid (HK.out.alloc HK.out.size _)
     have HRX:=Lib.hid (heap_old HRC.out (.cells #[.string (strOf s1),.slice A3 pn c3,.slice A4 n4 c4,.int .i64 ln1] 90))
     have HNX:=Lib.hid (HN.out.alloc (.cells #[.string (strOf s1),.slice A3 pn c3,.slice A4 n4 c4,.int .i64 ln1] 90))
     have hzx:(wr.alloc (.cells #[.string (strOf s1),.slice A3 pn c3,.slice A4 n4 c4,.int .i64 ln1] 90)).heap.size=wr.heap.size+1:=by simp
     obtain ⟨W0,hW0⟩:∃ W0,W0=(wr.alloc (.cells #[.string (strOf s1),.slice A3 pn c3,.slice A4 n4 c4,.int .i64 ln1] 90)).alloc (.map #[] 0):=⟨_,rfl⟩
     have HS0:Hid (Ns W0 (wr.heap.size+1) []):=Lib.hid (by rw [hW0,← hzx]; exact Ns.made _)
     have HB0:Hid (Below w.heap.size w W0):=Lib.hid (by rw [hW0]; exact HBA.out.alloc HBA.out.size _)
     have HQ0:Hid (W0.heap[wr.heap.size]?=some (.cells #[.string (strOf s1),.slice A3 pn c3,.slice A4 n4 c4,.int .i64 ln1] 90 (0,0))):=Lib.hid (by rw [hW0]; exact heap_old HQ.out _)
     have HR0:Hid (W0.heap[w.heap.size]?=some (.cells #[.int .i64 0,.int .i64 0] 36 (0,0))):=Lib.hid (by rw [hW0]; exact heap_old HRX.out _)
     have HN0':Hid (Ns W0 (w.heap.size+1) aj):=Lib.hid (by rw [hW0]; exact HNX.out.alloc _)
     have h00:=lt_heap HQ0.out
     have h01:=lt_heap HR0.out
     have h02:=HS0.out.lt
     have hws:W0.heap.size=wr.heap.size+1+1:=by rw [hW0]; simp
     have HAD:=Lib.hid (fun w' (hb:Ns w' (w.heap.size+1) aj)=>show Calls Tryz.prog 107 #[.map (some (w.heap.size+1)),.slice (some ⟨w'.heap.size,0,none⟩) 1 1] (w'.alloc (.cells #[.string (strOf s1)] 9)) (OutN (w.heap.size+1) (w'.alloc (.cells #[.string (strOf s1)] 9)) aj [s1]) from add_any (w'.alloc (.cells #[.string (strOf s1)] 9)) (hb.alloc _) (some ⟨w'.heap.size,0,none⟩) 1 [s1] (Txn.one (by have:=hb.lt; omega) s1 _) (by intro u hu; rw [List.mem_singleton.1 hu]; exact H8.out) (by intro u hu; rw [List.mem_singleton.1 hu]; exact HL8.out) (by simp; omega))
     have HAP:=Lib.hid (fun w' (hb:Ns w' (wr.heap.size+1) []) (hb2:Below w.heap.size w w')=>add_any w' hb A3 c3 ps1 (HTX.out _ _ hb2 (by have:=HK.out.size; omega)) HP8.out HP9.out (by have:=hpn.out; rw [List.length_nil]; omega))
     rw [hpn.out] at HAP
     have hszr:w.heap.size≤wr.heap.size:=HK.out.size
     have HAD0:=Lib.hid (HAD.out W0 HN0'.out)
     have HWA:Hid (Below w.heap.size w (W0.alloc (.cells #[.string (strOf s1)] 9))):=Lib.hid (HB0.out.alloc HB0.out.size _)
     have HQA:=Lib.hid (heap_old HQ0.out (.cells #[.string (strOf s1)] 9))
     have HRA:=Lib.hid (heap_old HR0.out (.cells #[.string (strOf s1)] 9))
     have HSA:=Lib.hid (HS0.out.alloc (.cells #[.string (strOf s1)] 9))
     rw [hws] at HAD0
     rw [hW0] at HAD0 HWA HQA HRA HSA
     clear hzx HTX HAD HB0 HQ0 HR0 HS0 HN0' h00 h01 h02 hws hW0
     by_cases hin:s1∈aj
     · have HE:Hid ((re,rl)=(112,ln1)):=Lib.hid (by rw [HF2.out,if_pos hin])
       have HA1:Hid (addN aj [s1]=none):=Lib.hid (by rw [addN_one,if_pos hin])
       unfold OutN at HAD0
       rw [HA1.out] at HAD0
       clear hin HF2
       go_wp2_with (first
         | (go_at_call 107
            (with_reducible refine HAD0.out.mono ?_)
            rintro e w1 ⟨rfl,⟨l1,hl1,hl2⟩,hk1⟩
            have HB1:=Lib.hid (HWA.out.trans (hk1.below (Nat.le_succ _) HWA.out.size))
            have HQ1:=Lib.hid (hk1.heap HQA.out (by omega))
            have HR1:=Lib.hid (hk1.heap HRA.out (by omega))
            have HS1:=Lib.hid (HSA.out.kp hk1 (by omega))
            have HL1:=Lib.hid hl1
            have HL2:=Lib.hid hl2
            obtain ⟨⟨r0,r1,r2,r3⟩,-⟩:=box4f HQ1.out
            obtain ⟨⟨v0,v1⟩,vf0,vf1⟩:=bx2 HR1.out
            have h10:=lt_heap HQ1.out
            have h11:=lt_heap HR1.out
            clear hl1 hl2 hk1)
         | (fail))
       have HX:=Lib.hid (st2 HR1.out (.int .i64 (112)) (.int .i64 ln1))
       obtain ⟨⟨z0,z1⟩,-⟩:=bx2 HX.out
       refine bodyPost_ret (v := .agg #[.int .i64 (112),.int .i64 ln1]) (by simp [results,Tryz.results63,go_sem,z0,z1]) rfl ?_
       have e:=HE.out
       cases e
       exact ⟨rfl,(HB1.out.setCell (Nat.le_refl _) _).setCell (Nat.le_refl _) _⟩
     · have HF3 : Hid ((re,rl)=fstF (rlC c ⟨s1,ps1,st1,ln1⟩) (rlsC c (aj ++ [s1]) (l.drop (j+1)))):=Lib.hid (by rw [HF2.out,if_neg hin])
       have HA1:Hid (addN aj [s1]=some (aj ++ [s1])):=Lib.hid (by rw [addN_one,if_neg hin])
       unfold OutN at HAD0 HAP
       rw [HA1.out] at HAD0
       clear hin HF2
       unfold rlC at HF3
       dsimp only at HF3
       cases hsc:addN [] ps1 with
       | none =>
         rw [hsc] at HAP HF3
         have HE:Hid ((re,rl)=(112,ln1)):=Lib.hid (by rw [HF3.out]; rfl)
         clear hsc HF3
         go_wp2_with (first
           | (go_at_call 107
              (with_reducible refine HAD0.out.mono ?_)
              rintro e w1 ⟨rfl,⟨l1,hl1,hl2⟩,hk1⟩
              have HB1:=Lib.hid (HWA.out.trans (hk1.below (Nat.le_succ _) HWA.out.size))
              have HQ1:=Lib.hid (hk1.heap HQA.out (by omega))
              have HR1:=Lib.hid (hk1.heap HRA.out (by omega))
              have HS1:=Lib.hid (HSA.out.kp hk1 (by omega))
              have HL1:=Lib.hid hl1
              have HL2:=Lib.hid hl2
              obtain ⟨⟨r0,r1,r2,r3⟩,-⟩:=box4f HQ1.out
              obtain ⟨⟨v0,v1⟩,vf0,vf1⟩:=bx2 HR1.out
              have h10:=lt_heap HQ1.out
              have h11:=lt_heap HR1.out
              clear hl1 hl2 hk1)
           | (go_at_call 107
              (with_reducible refine (HAP.out _ HS1.out HB1.out).mono ?_)
              rintro e w2 ⟨rfl,⟨m1,hm1,hm2⟩,hk2⟩
              have HB2:=Lib.hid (HB1.out.trans (hk2.below (by omega) HB1.out.size))
              have HQ2:=Lib.hid (hk2.heap HQ1.out (by omega))
              have HR2:=Lib.hid (hk2.heap HR1.out (by omega))
              have HN2:=Lib.hid (HL1.out.kp hk2 (by omega))
              have HM1:=Lib.hid hm1
              have HM2:=Lib.hid hm2
              obtain ⟨⟨s0,s10,s2,s3⟩,-⟩:=box4f HQ2.out
              obtain ⟨⟨t0,t1⟩,tf0,tf1⟩:=bx2 HR2.out
              have h20:=lt_heap HQ2.out
              have h21:=lt_heap HR2.out
              clear hm1 hm2 hk2)
           | (fail))
         have HX:=Lib.hid (st2 HR2.out (.int .i64 (112)) (.int .i64 ln1))
         obtain ⟨⟨z0,z1⟩,-⟩:=bx2 HX.out
         refine bodyPost_ret (v := .agg #[.int .i64 (112),.int .i64 ln1]) (by simp [results,Tryz.results63,go_sem,z0,z1]) rfl ?_
         have e:=HE.out
         cases e
         exact ⟨rfl,(HB2.out.setCell (Nat.le_refl _) _).setCell (Nat.le_refl _) _⟩
       | some sc =>
         have HSL:Hid (sc.length≤1000):=Lib.hid (by rw [addN_eq List.nodup_nil hsc,List.nil_append,hpn.out]; exact hpl)
         rw [hsc] at HAP HF3
         dsimp only at HF3
         clear hsc
         obtain ⟨be,bl,hb⟩:∃ be bl,Hid (bdsC c sc [] st1=(be,bl)):=⟨_, _,Lib.hid rfl⟩
         have HIB:=Lib.hid (fun b' w' a1 a2=>show Calls Tryz.prog 62 #[.pointer (some ⟨q,0,none⟩),.slice A4 n4 c4,.map (some b')] w' (fun e w''=>e = .returned (.agg #[.int .i64 (be:Int),.int .i64 bl])∧Below w'.heap.size w' w'') from by
           have:=HIB.out b' sc w' a1 a2 HSL.out
           rw [hb.out] at this
           exact this)
         rw [hb.out] at HF3
         by_cases hbe:be=0
         · have e2:((be:Int) != 0)=false:=by rw [hbe]; rfl
           have HF4:Hid (rlsC c (aj ++ [s1]) (l.drop (j+1))=(re,rl)):=Lib.hid (by
             rw [HF3.out]
             show _ = (if be=0 then _ else _)
             rw [if_pos hbe])
           clear hbe HF3
           go_wp2_with (first
             | (go_at_call 107
                (with_reducible refine HAD0.out.mono ?_)
                rintro e w1 ⟨rfl,⟨l1,hl1,hl2⟩,hk1⟩
                have HB1:=Lib.hid (HWA.out.trans (hk1.below (Nat.le_succ _) HWA.out.size))
                have HQ1:=Lib.hid (hk1.heap HQA.out (by omega))
                have HR1:=Lib.hid (hk1.heap HRA.out (by omega))
                have HS1:=Lib.hid (HSA.out.kp hk1 (by omega))
                have HL1:=Lib.hid hl1
                have HL2:=Lib.hid hl2
                obtain ⟨⟨r0,r1,r2,r3⟩,-⟩:=box4f HQ1.out
                obtain ⟨⟨v0,v1⟩,vf0,vf1⟩:=bx2 HR1.out
                have h10:=lt_heap HQ1.out
                have h11:=lt_heap HR1.out
                clear hl1 hl2 hk1)
             | (go_at_call 107
                (with_reducible refine (HAP.out _ HS1.out HB1.out).mono ?_)
                rintro e w2 ⟨rfl,⟨m1,hm1,hm2⟩,hk2⟩
                have HB2:=Lib.hid (HB1.out.trans (hk2.below (by omega) HB1.out.size))
                have HQ2:=Lib.hid (hk2.heap HQ1.out (by omega))
                have HR2:=Lib.hid (hk2.heap HR1.out (by omega))
                have HN2:=Lib.hid (HL1.out.kp hk2 (by omega))
                have HM1:=Lib.hid hm1
                have HM2:=Lib.hid hm2
                obtain ⟨⟨s0,s10,s2,s3⟩,-⟩:=box4f HQ2.out
                obtain ⟨⟨t0,t1⟩,tf0,tf1⟩:=bx2 HR2.out
                have h20:=lt_heap HQ2.out
                have h21:=lt_heap HR2.out
                have hsc:m1=sc:=hm2 sc rfl
                rw [hsc] at HM1 hm1
                have HSCN:Hid (Ns w2 (wr.heap.size+1) sc):=Lib.hid hm1
                clear hsc
                clear hm1 hm2 hk2)
             | (go_at_call 62
                (with_reducible refine (HIB.out _ _ HB2.out HSCN.out).mono ?_)
                rintro e w3 ⟨rfl,hb3⟩
                have HB3:=Lib.hid (HB2.out.trans (hb3.mono HB2.out.size))
                have HR3:=Lib.hid (heap_below HR2.out hb3)
                have HN3:=Lib.hid (HN2.out.below hb3)
                obtain ⟨⟨x0,x1⟩,xf0,xf1⟩:=bx2 HR3.out
                have h31:=lt_heap HR3.out
                clear hb3)
             | (fail))
           go_roundg g
           case measure=>omega
           case rel=>exact ⟨j+1,aj ++ [s1],by omega,by go_num,by rw [List.length_append,HAL.out]; rfl,HF4,Lib.hid (by rw [← HL2.out _ rfl]; exact HN3.out.alloc _),Lib.hid (heap_old HR3.out _),Lib.hid (HB3.out.alloc HB3.out.size _)⟩
         · have e2:((be:Int) != 0)=true:=bne_iff_ne.2 (by omega)
           have HE:Hid ((re,rl)=(be,bl)):=Lib.hid (by
             rw [HF3.out]
             show (if be=0 then _ else (be,bl)) = _
             rw [if_neg hbe])
           clear hbe HF3
           go_wp2_with (first
             | (go_at_call 107
                (with_reducible refine HAD0.out.mono ?_)
                rintro e w1 ⟨rfl,⟨l1,hl1,hl2⟩,hk1⟩
                have HB1:=Lib.hid (HWA.out.trans (hk1.below (Nat.le_succ _) HWA.out.size))
                have HQ1:=Lib.hid (hk1.heap HQA.out (by omega))
                have HR1:=Lib.hid (hk1.heap HRA.out (by omega))
                have HS1:=Lib.hid (HSA.out.kp hk1 (by omega))
                have HL1:=Lib.hid hl1
                have HL2:=Lib.hid hl2
                obtain ⟨⟨r0,r1,r2,r3⟩,-⟩:=box4f HQ1.out
                obtain ⟨⟨v0,v1⟩,vf0,vf1⟩:=bx2 HR1.out
                have h10:=lt_heap HQ1.out
                have h11:=lt_heap HR1.out
                clear hl1 hl2 hk1)
             | (go_at_call 107
                (with_reducible refine (HAP.out _ HS1.out HB1.out).mono ?_)
                rintro e w2 ⟨rfl,⟨m1,hm1,hm2⟩,hk2⟩
                have HB2:=Lib.hid (HB1.out.trans (hk2.below (by omega) HB1.out.size))
                have HQ2:=Lib.hid (hk2.heap HQ1.out (by omega))
                have HR2:=Lib.hid (hk2.heap HR1.out (by omega))
                have HN2:=Lib.hid (HL1.out.kp hk2 (by omega))
                have HM1:=Lib.hid hm1
                have HM2:=Lib.hid hm2
                obtain ⟨⟨s0,s10,s2,s3⟩,-⟩:=box4f HQ2.out
                obtain ⟨⟨t0,t1⟩,tf0,tf1⟩:=bx2 HR2.out
                have h20:=lt_heap HQ2.out
                have h21:=lt_heap HR2.out
                have hsc:m1=sc:=hm2 sc rfl
                rw [hsc] at HM1 hm1
                have HSCN:Hid (Ns w2 (wr.heap.size+1) sc):=Lib.hid hm1
                clear hsc
                clear hm1 hm2 hk2)
             | (go_at_call 62
                (with_reducible refine (HIB.out _ _ HB2.out HSCN.out).mono ?_)
                rintro e w3 ⟨rfl,hb3⟩
                have HB3:=Lib.hid (HB2.out.trans (hb3.mono HB2.out.size))
                have HR3:=Lib.hid (heap_below HR2.out hb3)
                have HN3:=Lib.hid (HN2.out.below hb3)
                obtain ⟨⟨x0,x1⟩,xf0,xf1⟩:=bx2 HR3.out
                have h31:=lt_heap HR3.out
                clear hb3)
             | (fail))
           have HX:=Lib.hid (heap_old (st2 HR3.out (.int .i64 (be:Int)) (.int .i64 bl)) (.cells #[.int .i64 (be:Int),.int .i64 bl] 36))
           obtain ⟨⟨z0,z1⟩,-⟩:=bx2 HX.out
           refine bodyPost_ret (v := .agg #[.int .i64 (be:Int),.int .i64 bl]) (by simp [results,Tryz.results63,go_sem,z0,z1]) rfl ?_
           have e:=HE.out
           cases e
           exact ⟨rfl,((HB3.out.setCell (Nat.le_refl _) _).setCell (Nat.le_refl _) _).alloc (by have:=HB3.out.size; simpa using this) _⟩
end Go.Proofs.YtcmopnkldplngabGreatDoor
namespace Go.Proofs.YtcmopnkldplngabGreatDoor
open Go.RowKit
set_option linter.unusedVariables false
def stA (a:Ars) (b:Bd):Ars:=addA a b.name b.ps.length
def stR (a:Ars) (b:Rl):Ars:=addA a b.name b.ps.length
theorem addA_len (a:Ars) (s:List Nat) (k:Nat):(addA a s k).length≤a.length+1:=by
 unfold addA
 split
 · simp
 · omega
theorem Ar.alloc {w:World} {b:Nat} {a:Ars} (h:Ar w b a) (o:Obj):Ar (w.alloc o) b a:=h.below ((Below.refl _ _).alloc (Nat.le_refl _) o)
theorem Ar.drew {w:World} {b:Nat} {a:Ars} (h:Ar w b a):Ar w.drew b a:=h.below ((Below.refl _ _).drew)
def OutK (w:World) (c:Ck) (e:Ending) (w':World):Prop:=e = .returned (at0 (w.heap.size+3))∧ChAt w' (w.heap.size+3) c (w.heap.size+1) (w.heap.size+2)∧Below w.heap.size w w'
set_option maxRecDepth 100000 in
set_option maxHeartbeats 8000000 in
theorem newCheck_any (g:Pg) (w:World) (S:Nat→Prop) (v:Value) (hS:∀ b,S b→b<w.heap.size) (hr:Rd w S g.nd v) (hf:g.fns.length≤1000) (hro:g.roles.length≤1000) (hfp:∀ b∈g.fns,b.ps.length≤1000) (hrp:∀ b∈g.roles,b.ps.length≤1000) :
   Calls Tryz.prog 61 #[v] w (OutK w ⟨fnsA g.fns,rolesA g.roles,false⟩):=by
 obtain ⟨y,z,rfl,hy,hz⟩:=(Pg.rd g v).1 hr
 rw [Rd] at hy hz
 obtain ⟨A1,c1,rfl,hc1,hcm1,hr1⟩:=hy
 obtain ⟨A2,c2,rfl,hc2,hcm2,hr2⟩:=hz
 rw [List.length_map] at hc1 hc2 ⊢
 rw [List.length_map]
 obtain ⟨l1,hl1⟩:∃ l,Hid (g.fns=l):=⟨_,Lib.hid rfl⟩
 obtain ⟨l2,hl2⟩:∃ l,Hid (g.roles=l):=⟨_,Lib.hid rfl⟩
 rw [hl1.out] at hr1 hc1 hf hfp ⊢
 rw [hl2.out] at hr2 hc2 hro hrp ⊢
 have HR1:=Lib.hid hr1
 have HR2:=Lib.hid hr2
 have HSS:=Lib.hid hS
 have HFP:=Lib.hid hfp
 have HRP:=Lib.hid hrp
 obtain ⟨n1,hn1⟩:∃ n,Hid (l1.length=n):=⟨_,Lib.hid rfl⟩
 obtain ⟨n2,hn2⟩:∃ n,Hid (l2.length=n):=⟨_,Lib.hid rfl⟩
 rw [hn1.out] at hc1 hf ⊢
 rw [hn2.out] at hc2 hro ⊢
 obtain ⟨R1,hR1⟩:∃ R,Hid (fnsA l1=R):=⟨_,Lib.hid rfl⟩
 obtain ⟨R2,hR2⟩:∃ R,Hid (rolesA l2=R):=⟨_,Lib.hid rfl⟩
 rw [hR1.out,hR2.out]
 have HB0:Hid (Below w.heap.size w ((((w.alloc (.cells #[.slice A1 n1 c1,.slice A2 n2 c2] 25)).alloc (.map #[] 0)).alloc (.map #[] 0)).alloc (.cells #[.map (some (w.heap.size+1)),.map (some (w.heap.size+2)),.bool false] 161))) :=
   Lib.hid (((((Below.refl _ _).alloc (Nat.le_refl _) _).alloc (by simp) _).alloc (by simp; omega) _).alloc (by simp; omega) _)
 have a1:=Ar.made (w.alloc (.cells #[.slice A1 n1 c1,.slice A2 n2 c2] 25))
 rw [show (w.alloc (.cells #[.slice A1 n1 c1,.slice A2 n2 c2] 25)).heap.size=w.heap.size+1 by simp] at a1
 have a2:=Ar.made ((w.alloc (.cells #[.slice A1 n1 c1,.slice A2 n2 c2] 25)).alloc (.map #[] 0))
 rw [show ((w.alloc (.cells #[.slice A1 n1 c1,.slice A2 n2 c2] 25)).alloc (.map #[] 0)).heap.size=w.heap.size+2 by simp] at a2
 have HA1:=Lib.hid ((a1.alloc (.map #[] 0)).alloc (.cells #[.map (some (w.heap.size+1)),.map (some (w.heap.size+2)),.bool false] 161))
 have HA2:=Lib.hid (a2.alloc (.cells #[.map (some (w.heap.size+1)),.map (some (w.heap.size+2)),.bool false] 161))
 have HC0:=Lib.hid (heap_new' (((w.alloc (.cells #[.slice A1 n1 c1,.slice A2 n2 c2] 25)).alloc (.map #[] 0)).alloc (.map #[] 0)) (.cells #[.map (some (w.heap.size+1)),.map (some (w.heap.size+2)),.bool false] 161) (w.heap.size+3) (by simp))
 have HP0:=Lib.hid (heap_old (heap_old (heap_old (heap_new w (.cells #[.slice A1 n1 c1,.slice A2 n2 c2] 25)) (.map #[] 0)) (.map #[] 0)) (.cells #[.map (some (w.heap.size+1)),.map (some (w.heap.size+2)),.bool false] 161))
 have hmm:=@run_makeMap Tryz.prog
 unfold maxLen at hcm1 hcm2
 unfold OutK
 clear hr hr1 hr2 hS hfp hrp a1 a2
 go_enter Tryz.func61,Tryz.ntmps61
 go_wp2_with fail
 go_loopg [15] n1 (fun g i wr=>∃ (j:Nat) (aj:Ars),j+g=n1∧i = .int .i64 (j:Int)∧aj.length≤j∧Hid ((l1.drop j).foldl stA aj=R1)∧Hid (Ar wr (w.heap.size+1) aj)∧Hid (Ar wr (w.heap.size+2) [])∧Hid (wr.heap[w.heap.size+3]?=some (.cells #[.map (some (w.heap.size+1)),.map (some (w.heap.size+2)),.bool false] 161 (0,0)))∧Hid (wr.heap[w.heap.size]?=some (.cells #[.slice A1 n1 c1,.slice A2 n2 c2] 25 (0,0)))∧Hid (Below w.heap.size w wr))
 case atStart=>exact ⟨0,[],by omega,rfl,Nat.le_refl _,Lib.hid (by rw [List.drop_zero]; exact hR1.out),HA1,HA2,HC0,HP0,HB0⟩
 case round =>
   obtain ⟨j,aj,hj,rfl,haj,HF,HAJ,HBJ,HC,HP,HK⟩:=hrel
   obtain ⟨⟨k0,k1,k2⟩,kf0,kf1,kf2⟩:=bx3c HC.out
   obtain ⟨⟨p0,p1⟩,-⟩:=bx2 HP.out
   have hcl:=lt_heap HC.out
   have hszr:w.heap.size≤wr.heap.size:=HK.out.size
   cases gk with
   | zero =>
     have h1:¬ (j:Int)<(n1:Int):=by omega
     have HE:Hid (aj=R1):=Lib.hid (by rw [← HF.out,List.drop_eq_nil_of_le (by rw [hn1.out]; omega)]; rfl)
     rw [HE.out] at HAJ
     clear HF HE haj
     go_wp2_with fail
     go_loopg [32] n2 (fun g i wr=>∃ (j:Nat) (aj:Ars),j+g=n2∧i = .int .i64 (j:Int)∧aj.length≤j∧Hid ((l2.drop j).foldl stR aj=R2)∧Hid (Ar wr (w.heap.size+1) R1)∧Hid (Ar wr (w.heap.size+2) aj)∧Hid (wr.heap[w.heap.size+3]?=some (.cells #[.map (some (w.heap.size+1)),.map (some (w.heap.size+2)),.bool false] 161 (0,0)))∧Hid (Below w.heap.size w wr))
     case atStart=>exact ⟨0,[],by omega,rfl,Nat.le_refl _,Lib.hid (by rw [List.drop_zero]; exact hR2.out),HAJ,HBJ,HC,HK⟩
     case round =>
       clear HC HP HK HAJ HBJ k0 k1 k2 kf0 kf1 kf2 p0 p1 hcl hszr
       obtain ⟨j,aj,hj,rfl,haj,HF,HAJ,HBJ,HC,HK⟩:=hrel
       obtain ⟨⟨k0,k1,k2⟩,kf0,kf1,kf2⟩:=bx3c HC.out
       have hcl:=lt_heap HC.out
       have hszr:w.heap.size≤wr.heap.size:=HK.out.size
       cases gk with
       | zero =>
         have h1:¬ (j:Int)<(n2:Int):=by omega
         have HE:Hid (aj=R2):=Lib.hid (by rw [← HF.out,List.drop_eq_nil_of_le (by rw [hn2.out]; omega)]; rfl)
         rw [HE.out] at HBJ
         clear HF HE haj
         go_wp2_with fail
         go_ret
         exact ⟨rfl,⟨HC.out,HAJ.out,HBJ.out⟩,HK.out⟩
       | succ g =>
         have h1:(j:Int)<(n2:Int):=by omega
         have h2:j<n2:=by omega
         have hjl:j<l2.length:=by rw [hn2.out]; exact h2
         obtain ⟨bb,o,vs,rfl,hSb,hvl,hrg,hx⟩:=HR2.out.at j (Rl.nd l2[j]) (by simp [hjl])
         have HD:=Lib.hid (List.drop_eq_getElem_cons hjl)
         have hpl:=HRP.out _ (List.getElem_mem hjl)
         generalize l2[j]=x at *
         obtain ⟨s1,ps1,st1,ln1⟩:=x
         obtain ⟨y,y',hv,h8,hl8,hy,hy1⟩:=(hd_rd s1 ps1 4 _ ln1 _).1 hx
         have hy0:=hy
         rw [Rd] at hy0
         obtain ⟨A3,c3,rfl,-,-,-⟩:=hy0
         obtain ⟨A4,n4,c4,rfl⟩:=hy1.row_form
         rw [List.length_map] at hv
         have hv2:vs=[.string (strOf s1),.slice A3 ps1.length c3,.slice A4 n4 c4,.int .i64 ln1]:=by
           injection hv with hv
           have:=congrArg Array.toList hv
           simpa using this
         subst hv2
         have hcell:∀ i u,([.string (strOf s1),.slice A3 ps1.length c3,.slice A4 n4 c4,.int .i64 ln1]:List Value)[i]?=some u→wr.cell? ⟨bb,o+j*4+i,none⟩=some u:=fun i u hu=>by
           have:=hrg i u hu
           rw [Nat.zero_add] at this
           exact (HK.out.cell (p:=⟨bb,o+j*4+i,none⟩) (HSS.out bb hSb)).trans this
         have y0:wr.cell? ⟨bb,o+j*4,none⟩=some (.string (strOf s1)):=hcell 0 _ rfl
         have y1:=hcell 1 _ rfl
         have y2:=hcell 2 _ rfl
         have y3:=hcell 3 _ rfl
         have hbr:bb<wr.heap.size:=Nat.lt_of_lt_of_le (HSS.out bb hSb) HK.out.size
         have hpl2:ps1.length≤140737488355328:=by dsimp only at hpl; omega
         have HF2:Hid ((l2.drop (j+1)).foldl stR (addA aj s1 ps1.length)=R2):=Lib.hid (by rw [← HF.out,HD.out]; rfl)
         have HAD:=Lib.hid (fun w' (h':Ar w' (w.heap.size+2) aj)=>adda_any w' h' s1 h8 hl8 A3 ps1.length c3 hpl2 (by omega))
         have hal:=addA_len aj s1 ps1.length
         clear hrg hx hv hy hy1 HF HD hjl hcell h8 hl8 hpl hpl2
         obtain ⟨pn,hpn⟩:∃ pn,Hid (ps1.length=pn):=⟨_,Lib.hid rfl⟩
         rw [hpn.out] at y1 HF2 HAD hal
         obtain ⟨a2,ha2⟩:∃ a,Hid (addA aj s1 pn=a):=⟨_,Lib.hid rfl⟩
         unfold OutA at HAD
         rw [ha2.out] at HF2 HAD hal
         go_wp2_with fail
         have HQX:=Lib.hid (heap_new wr (.cells #[.string (strOf s1),.slice A3 pn c3,.slice A4 n4 c4,.int .i64 ln1] 90))
         obtain ⟨⟨b0,b1,b2,b3⟩,-⟩:=box4f HQX.out
         go_region_held3 (fun w'=>w'.cell? ⟨w.heap.size+3,1,none⟩=some (.map (some (w.heap.size+2)))∧w'.cell? ⟨wr.heap.size,0,none⟩=some (.string (strOf s1))∧w'.cell? ⟨wr.heap.size,1,none⟩=some (.slice A3 pn c3)) (go_keep)
           (first
             | (go_at_call 105
                refine (HAD.out _ (HBJ.out.alloc _).drew).mono ?_
                rintro e w1 ⟨rfl,ha1,hk1⟩
                have hk2:Kp (w.heap.size+2) wr w1:=(((Kp.refl _ wr).alloc _).drew).trans hk1
                have HA2:=Lib.hid ha1
                have HA1:=Lib.hid (HAJ.out.kp hk2 (by omega))
                have HC1:=Lib.hid (hk2.heap HC.out (by omega))
                have HK1:=Lib.hid (HK.out.trans (hk2.below (by omega) HK.out.size))
                obtain ⟨⟨d0,d1,d2⟩,-⟩:=bx3c HC1.out
                obtain ⟨⟨g0,g1,g2,g3⟩,-⟩:=box4f (hk1.heap HQX.out (by omega))
                clear ha1 hk1 hk2)
             | (fail))
         go_wp2_with fail
         go_roundg g
         case measure=>omega
         case rel=>exact ⟨j+1,a2,by omega,by go_num,by omega,HF2,HA1,HA2,HC1,HK1⟩
   | succ g =>
     have h1:(j:Int)<(n1:Int):=by omega
     have h2:j<n1:=by omega
     have hjl:j<l1.length:=by rw [hn1.out]; exact h2
     obtain ⟨bb,o,vs,rfl,hSb,hvl,hrg,hx⟩:=HR1.out.at j (Bd.nd l1[j]) (by simp [hjl])
     have HD:=Lib.hid (List.drop_eq_getElem_cons hjl)
     have hpl:=HFP.out _ (List.getElem_mem hjl)
     generalize l1[j]=x at *
     obtain ⟨s1,ps1,st1,ln1⟩:=x
     obtain ⟨y,y',hv,h8,hl8,hy,hy1⟩:=(hd_rd s1 ps1 6 _ ln1 _).1 hx
     have hy0:=hy
     rw [Rd] at hy0
     obtain ⟨A3,c3,rfl,-,-,-⟩:=hy0
     obtain ⟨A4,n4,c4,rfl⟩:=hy1.row_form
     rw [List.length_map] at hv
     have hv2:vs=[.string (strOf s1),.slice A3 ps1.length c3,.slice A4 n4 c4,.int .i64 ln1]:=by
       injection hv with hv
       have:=congrArg Array.toList hv
       simpa using this
     subst hv2
     have hcell:∀ i u,([.string (strOf s1),.slice A3 ps1.length c3,.slice A4 n4 c4,.int .i64 ln1]:List Value)[i]?=some u→wr.cell? ⟨bb,o+j*4+i,none⟩=some u:=fun i u hu=>by
       have:=hrg i u hu
       rw [Nat.zero_add] at this
       exact (HK.out.cell (p:=⟨bb,o+j*4+i,none⟩) (HSS.out bb hSb)).trans this
     have y0:wr.cell? ⟨bb,o+j*4,none⟩=some (.string (strOf s1)):=hcell 0 _ rfl
     have y1:=hcell 1 _ rfl
     have y2:=hcell 2 _ rfl
     have y3:=hcell 3 _ rfl
     have hbr:bb<wr.heap.size:=Nat.lt_of_lt_of_le (HSS.out bb hSb) HK.out.size
     have hpl2:ps1.length≤140737488355328:=by dsimp only at hpl; omega
     have HF2:Hid ((l1.drop (j+1)).foldl stA (addA aj s1 ps1.length)=R1):=Lib.hid (by rw [← HF.out,HD.out]; rfl)
     have HAD:=Lib.hid (fun w' (h':Ar w' (w.heap.size+1) aj)=>adda_any w' h' s1 h8 hl8 A3 ps1.length c3 hpl2 (by omega))
     have hal:=addA_len aj s1 ps1.length
     clear hrg hx hv hy hy1 HF HD hjl hcell h8 hl8 hpl hpl2
     obtain ⟨pn,hpn⟩:∃ pn,Hid (ps1.length=pn):=⟨_,Lib.hid rfl⟩
     rw [hpn.out] at y1 HF2 HAD hal
     obtain ⟨a2,ha2⟩:∃ a,Hid (addA aj s1 pn=a):=⟨_,Lib.hid rfl⟩
     unfold OutA at HAD
     rw [ha2.out] at HF2 HAD hal
     go_wp2_with fail
     have HQX:=Lib.hid (heap_new wr (.cells #[.string (strOf s1),.slice A3 pn c3,.slice A4 n4 c4,.int .i64 ln1] 87))
     obtain ⟨⟨b0,b1,b2,b3⟩,-⟩:=box4f HQX.out
     go_region_held3 (fun w'=>w'.cell? ⟨w.heap.size+3,0,none⟩=some (.map (some (w.heap.size+1)))∧w'.cell? ⟨wr.heap.size,0,none⟩=some (.string (strOf s1))∧w'.cell? ⟨wr.heap.size,1,none⟩=some (.slice A3 pn c3)) (go_keep)
       (first
         | (go_at_call 105
            refine (HAD.out _ (HAJ.out.alloc _).drew).mono ?_
            rintro e w1 ⟨rfl,ha1,hk1⟩
            have hk2:Kp (w.heap.size+1) wr w1:=(((Kp.refl _ wr).alloc _).drew).trans hk1
            have HA1:=Lib.hid ha1
            have HA2:=Lib.hid (HBJ.out.kp hk2 (by omega))
            have HC1:=Lib.hid (hk2.heap HC.out (by omega))
            have HP1:=Lib.hid (hk2.heap HP.out (by omega))
            have HK1:=Lib.hid (HK.out.trans (hk2.below (by omega) HK.out.size))
            obtain ⟨⟨d0,d1,d2⟩,-⟩:=bx3c HC1.out
            obtain ⟨⟨g0,g1,g2,g3⟩,-⟩:=box4f (hk1.heap HQX.out (by omega))
            clear ha1 hk1 hk2)
         | (fail))
     go_wp2_with fail
     go_roundg g
     case measure=>omega
     case rel=>exact ⟨j+1,a2,by omega,by go_num,by omega,HF2,HA1,HA2,HC1,HP1,HK1⟩
end Go.Proofs.YtcmopnkldplngabGreatDoor
namespace Go.Proofs.YtcmopnkldplngabGreatDoor
open Go.RowKit
set_option linter.unusedVariables false
theorem ChAt.setFn {w:World} {q bf br:Nat} {c:Ck} (x:Bool) (h:ChAt w q c bf br) (h1:bf≠q) (h2:br≠q):ChAt (w.setCell ⟨q,2,none⟩ (.bool x)) q ⟨c.fns,c.roles,x⟩ bf br :=
 ⟨by simpa using heap_set h.h 2 (.bool x),h.f.kp ((Kp.refl q w).set rfl _) h1,h.r.kp ((Kp.refl q w).set rfl _) h2⟩
theorem bodyR_ps {b:Bd} {c c':Nat} (h:bodyR b c=some c'):b.ps.length≤30:=by
 unfold bodyR headR at h
 split at h
 · rename_i h1
   simp only [Bool.and_eq_true,decide_eq_true_eq] at h1
   exact h1.1.2
 · cases h
theorem bodiesR_ps:∀ {l:List Bd} {c c':Nat},bodiesR l c=some c'→∀ b∈l,b.ps.length≤30
 | [],c,c',h,b,hb=>by simp at hb
 | x :: r,c,c',h,b,hb=>by
   rw [bodiesR] at h
   split at h
   · cases h
   · rename_i c1 h1
     rcases List.mem_cons.1 hb with rfl | hb
     · exact bodyR_ps h1
     · exact bodiesR_ps h b hb
theorem rolesR_ps:∀ {l:List Rl} {c c':Nat},rolesR l c=some c'→∀ b∈l,b.ps.length≤30∧b.on.length≤60∧∀ x∈b.on,x.ps.length≤30
 | [],c,c',h,b,hb=>by simp at hb
 | x :: r,c,c',h,b,hb=>by
   rw [rolesR] at h
   split at h
   · cases h
   · rename_i c1 h1
     rcases List.mem_cons.1 hb with rfl | hb
     · unfold roleR headR at h1
       split at h1
       · rename_i h2
         simp only [Bool.and_eq_true,decide_eq_true_eq] at h2
         exact ⟨h2.1.1.2,h2.2,bodiesR_ps h1⟩
       · cases h1
     · exact rolesR_ps h b hb
theorem right_bounds {g:Pg} (h:rightP g=true):g.fns.length+g.roles.length≤60∧(∀ b∈g.fns,b.ps.length≤30)∧(∀ b∈g.roles,b.ps.length≤30∧b.on.length≤60∧∀ x∈b.on,x.ps.length≤30):=by
 unfold rightP at h
 split at h
 · cases h
 · rename_i h0
   split at h
   · cases h
   · rename_i c h1
     refine ⟨by omega,bodiesR_ps h1,?_⟩
     cases h2:rolesR g.roles c with
     | none=>rw [h2] at h; cases h
     | some c'=>exact rolesR_ps h2
set_option maxRecDepth 100000 in
set_option maxHeartbeats 8000000 in
theorem check_any (g:Pg) (hlen:g.fns.length+g.roles.length≤1000000) (w:World) (hw:Wt w) (S:Nat→Prop) (v:Value) (hS:∀ b,S b→b<w.heap.size) (hr:Rd w S g.nd v) :
   Calls Tryz.prog 27 #[v] w (OutF w (checkF g)):=by
 obtain ⟨y,z,rfl,hy,hz⟩:=(Pg.rd g v).1 hr
 obtain ⟨A1,n1,c1,rfl⟩:=hy.row_form
 obtain ⟨A2,n2,c2,rfl⟩:=hz.row_form
 have HY:=Lib.hid hy
 have HZ:=Lib.hid hz
 have HRD:=Lib.hid hr
 have HSS:=Lib.hid hS
 have HBB:=Lib.hid (two w (.cells #[.slice A1 n1 c1,.slice A2 n2 c2] 25) (.cells #[.int .i64 0,.int .i64 0] 36))
 have HQ:=Lib.hid (heap_old (heap_new w (.cells #[.slice A1 n1 c1,.slice A2 n2 c2] 25)) (.cells #[.int .i64 0,.int .i64 0] 36))
 have HRC:=Lib.hid (heap_new' (w.alloc (.cells #[.slice A1 n1 c1,.slice A2 n2 c2] 25)) (.cells #[.int .i64 0,.int .i64 0] 36) (w.heap.size+1) (by simp))
 have HRI:=Lib.hid (right_any w hw g _ S _ hlen HBB.out (fun b hb=>Nat.lt_of_lt_of_le (hS b hb) HBB.out.size) (Rd.keep (fun p hp=>HBB.out.cell (hS _ hp)) (fun _ h=>h) _ _ hr))
 have hmm:=@run_makeMap Tryz.prog
 unfold OutF checkF
 clear hy hz hr hS hlen hw
 cases hright:rightP g with
 | false =>
   rw [hright] at HRI
   clear hright
   rw [if_neg (by simp)]
   go_enter Tryz.func27,Tryz.ntmps27
   go_wp2_with (first
     | (go_at_call 60
        refine HRI.out.mono ?_
        rintro e w2 ⟨rfl,hb2⟩
        have HB2:=Lib.hid (HBB.out.trans (hb2.mono HBB.out.size))
        have HR2:=Lib.hid (heap_below HRC.out hb2)
        obtain ⟨⟨v0,v1⟩,vf0,vf1⟩:=bx2 HR2.out
        have h2:=lt_heap HR2.out
        clear hb2)
     | (fail))
   have HX:=Lib.hid (st2 HR2.out (.int .i64 103) (.int .i64 0))
   obtain ⟨⟨x0,x1⟩,-⟩:=bx2 HX.out
   refine bodyPost_ret (v := .agg #[.int .i64 103,.int .i64 0]) (by simp [results,Tryz.results27,go_sem,x0,x1]) rfl ?_
   exact ⟨rfl,(HB2.out.setCell (Nat.le_succ _) _).setCell (Nat.le_succ _) _⟩
 | true =>
   rw [hright] at HRI
   rw [if_pos rfl]
   obtain ⟨q1,q2,q3⟩:=right_bounds hright
   have HNC:=Lib.hid (fun (w':World) (hb:Below w.heap.size w w')=>newCheck_any g w' S _ (fun b hb'=>Nat.lt_of_lt_of_le (HSS.out b hb') hb.size) (Rd.keep (fun p hp=>hb.cell (HSS.out _ hp)) (fun _ h=>h) _ _ HRD.out) (by omega) (by omega) (fun b hb=>Nat.le_trans (q2 b hb) (by omega)) (fun b hb=>Nat.le_trans (q3 b hb).1 (by omega)))
   have HBC:=Lib.hid (fun (c:Ck) (q bf br:Nat) (w':World) (b':Nat) (hb:Below w.heap.size w w') (hc:ChAt w' q c bf br) (hn:Ns w' b' [])=>bodiesC_any g.fns (by omega) (fun b hb=>Nat.le_trans (q2 b hb) (by omega)) b' [] w' S _ hc hn (by simp) (fun b hb'=>Nat.lt_of_lt_of_le (HSS.out b hb') hb.size) (Rd.keep (fun p hp=>hb.cell (HSS.out _ hp)) (fun _ h=>h) _ _ HY.out))
   have HRO:=Lib.hid (fun (c:Ck) (q bf br:Nat) (w':World) (hb:Below w.heap.size w w') (hc:ChAt w' q c bf br)=>rolesC_any g.roles (by omega) (fun b hb=>⟨Nat.le_trans (q3 b hb).1 (by omega),Nat.le_trans (q3 b hb).2.1 (by omega),fun x hx=>Nat.le_trans ((q3 b hb).2.2 x hx) (by omega)⟩) w' S _ hc (fun b hb'=>Nat.lt_of_lt_of_le (HSS.out b hb') hb.size) (Rd.keep (fun p hp=>hb.cell (HSS.out _ hp)) (fun _ h=>h) _ _ HZ.out))
   unfold checkG
   obtain ⟨F1,hF1⟩:∃ F,Hid (fnsA g.fns=F):=⟨_,Lib.hid rfl⟩
   obtain ⟨F2,hF2⟩:∃ F,Hid (rolesA g.roles=F):=⟨_,Lib.hid rfl⟩
   rw [hF1.out,hF2.out] at HNC ⊢
   obtain ⟨be,bl,hb⟩:∃ be bl,Hid (bdsC ⟨F1,F2,true⟩ [] [] g.fns=(be,bl)):=⟨_, _,Lib.hid rfl⟩
   obtain ⟨ce,cl,hc⟩:∃ be bl,Hid (rlsC ⟨F1,F2,false⟩ [] g.roles=(be,bl)):=⟨_, _,Lib.hid rfl⟩
   rw [hb.out,hc.out]
   have HBC2:=Lib.hid (fun q bf br w' b' a1 a2 a3=>show Calls Tryz.prog 62 #[.pointer (some ⟨q,0,none⟩),.slice A1 n1 c1,.map (some b')] w' (fun e w''=>e = .returned (.agg #[.int .i64 (be:Int),.int .i64 bl])∧Below w'.heap.size w' w'') from by
     have:=HBC.out ⟨F1,F2,true⟩ q bf br w' b' a1 a2 a3
     rw [hb.out] at this
     exact this)
   have HRO2:=Lib.hid (fun q bf br w' a1 a2=>show Calls Tryz.prog 63 #[.pointer (some ⟨q,0,none⟩),.slice A2 n2 c2] w' (fun e w''=>e = .returned (.agg #[.int .i64 (ce:Int),.int .i64 cl])∧Below w'.heap.size w' w'') from by
     have:=HRO.out ⟨F1,F2,false⟩ q bf br w' a1 a2
     rw [hc.out] at this
     exact this)
   unfold OutK at0 at HNC
   clear HBC HRO q1 q2 q3 hright hb hc HY HZ HRD HSS hF1 hF2
   by_cases hbe:be=0
   · have e2:((be:Int) != 0)=false:=by rw [hbe]; rfl
     have HE:Hid (fstF (be,bl) (ce,cl)=(ce,cl)):=Lib.hid (by
       show (if be=0 then _ else _) = _
       rw [if_pos hbe])
     rw [HE.out]
     clear hbe HE
     go_enter Tryz.func27,Tryz.ntmps27
     go_wp2_with (first
       | (go_at_call 60
          refine HRI.out.mono ?_
          rintro e w2 ⟨rfl,hb2⟩
          have HB2:=Lib.hid (HBB.out.trans (hb2.mono HBB.out.size))
          have HQ2:=Lib.hid (heap_below HQ.out hb2)
          have HR2:=Lib.hid (heap_below HRC.out hb2)
          obtain ⟨⟨p0,p1⟩,-⟩:=bx2 HQ2.out
          have h2:=lt_heap HR2.out
          clear hb2)
       | (go_at_call 61
          refine (HNC.out _ HB2.out).mono ?_
          rintro e w3 ⟨rfl,hc3,hb3⟩
          have HB3:=Lib.hid (HB2.out.trans (hb3.mono HB2.out.size))
          have HQ3:=Lib.hid (heap_below HQ2.out hb3)
          have HR3:=Lib.hid (heap_below HR2.out hb3)
          have HC3:=Lib.hid hc3
          obtain ⟨⟨k0,k1,k2⟩,kf0,kf1,kf2⟩:=bx3c hc3.h
          obtain ⟨⟨r0,r1⟩,-⟩:=bx2 HQ3.out
          have h3:=lt_heap hc3.h
          have h3r:=lt_heap HR3.out
          have HW4:Hid (Below w.heap.size w ((w3.setCell ⟨w2.heap.size+3,2,none⟩ (.bool true)).alloc (.map #[] 0))):=Lib.hid ((HB3.out.setCell (by have:=HB2.out.size; show w.heap.size≤w2.heap.size+3; omega) _).alloc (by have:=HB3.out.size; simpa using this) _)
          have HC4:=Lib.hid ((hc3.setFn true (by omega) (by omega)).alloc (.map #[] 0))
          have HN4:=Lib.hid (Ns.made (w3.setCell ⟨w2.heap.size+3,2,none⟩ (.bool true)))
          have hz4:(w3.setCell ⟨w2.heap.size+3,2,none⟩ (.bool true)).heap.size=w3.heap.size:=by simp
          rw [hz4] at HN4
          have HQ4:=Lib.hid (heap_old (heap_set_ne HQ3.out (show w.heap.size≠w2.heap.size+3 by omega) 2 (.bool true)) (.map #[] 0))
          have HR4:=Lib.hid (heap_old (heap_set_ne HR3.out (show w.heap.size+1≠w2.heap.size+3 by omega) 2 (.bool true)) (.map #[] 0))
          clear hc3 hb3 hz4)
       | (go_at_call 62
          refine (HBC2.out _ _ _ _ _ HW4.out HC4.out HN4.out).mono ?_
          rintro e w5 ⟨rfl,hb5⟩
          have HB5:=Lib.hid (HW4.out.trans (hb5.mono HW4.out.size))
          have HQ5:=Lib.hid (heap_below HQ4.out hb5)
          have HR5:=Lib.hid (heap_below HR4.out hb5)
          have HC5:=Lib.hid (HC4.out.below hb5)
          obtain ⟨⟨m0,m1,m2⟩,mf0,mf1,mf2⟩:=bx3c HC5.out.h
          obtain ⟨⟨s0,s1⟩,-⟩:=bx2 HQ5.out
          have h5:=lt_heap HC5.out.h
          have h5q:=lt_heap HQ5.out
          have h5r:=lt_heap HR5.out
          have HW6:Hid (Below w.heap.size w ((w5.setCell ⟨w2.heap.size+3,2,none⟩ (.bool false)).alloc (.cells #[.int .i64 (be:Int),.int .i64 bl] 36))):=Lib.hid ((HB5.out.setCell (by have:=HB2.out.size; show w.heap.size≤w2.heap.size+3; omega) _).alloc (by have:=HB5.out.size; simpa using this) _)
          have HC6:=Lib.hid ((HC5.out.setFn false (by omega) (by omega)).alloc (.cells #[.int .i64 (be:Int),.int .i64 bl] 36))
          have HR6:=Lib.hid (heap_old (heap_set_ne HR5.out (show w.heap.size+1≠w2.heap.size+3 by omega) 2 (.bool false)) (.cells #[.int .i64 (be:Int),.int .i64 bl] 36))
          clear hb5)
       | (go_at_call 63
          refine (HRO2.out _ _ _ _ HW6.out HC6.out).mono ?_
          rintro e w7 ⟨rfl,hb7⟩
          have HB7:=Lib.hid (HW6.out.trans (hb7.mono HW6.out.size))
          have HR7:=Lib.hid (heap_below HR6.out hb7)
          obtain ⟨⟨t0,t1⟩,tf0,tf1⟩:=bx2 HR7.out
          have h7:=lt_heap HR7.out
          clear hb7)
       | (fail))
     have HX:=Lib.hid (st2 HR7.out (.int .i64 (ce:Int)) (.int .i64 cl))
     obtain ⟨⟨x0,x1⟩,-⟩:=bx2 HX.out
     refine bodyPost_ret (v := .agg #[.int .i64 (ce:Int),.int .i64 cl]) (by simp [results,Tryz.results27,go_sem,x0,x1]) rfl ?_
     exact ⟨rfl,(HB7.out.setCell (Nat.le_succ _) _).setCell (Nat.le_succ _) _⟩
   · have e2:((be:Int) != 0)=true:=bne_iff_ne.2 (by omega)
     have HE:Hid (fstF (be,bl) (ce,cl)=(be,bl)):=Lib.hid (by
       show (if be=0 then _ else _) = _
       rw [if_neg hbe])
     rw [HE.out]
     clear hbe HE
     go_enter Tryz.func27,Tryz.ntmps27
     go_wp2_with (first
       | (go_at_call 60
          refine HRI.out.mono ?_
          rintro e w2 ⟨rfl,hb2⟩
          have HB2:=Lib.hid (HBB.out.trans (hb2.mono HBB.out.size))
          have HQ2:=Lib.hid (heap_below HQ.out hb2)
          have HR2:=Lib.hid (heap_below HRC.out hb2)
          obtain ⟨⟨p0,p1⟩,-⟩:=bx2 HQ2.out
          have h2:=lt_heap HR2.out
          clear hb2)
       | (go_at_call 61
          refine (HNC.out _ HB2.out).mono ?_
          rintro e w3 ⟨rfl,hc3,hb3⟩
          have HB3:=Lib.hid (HB2.out.trans (hb3.mono HB2.out.size))
          have HQ3:=Lib.hid (heap_below HQ2.out hb3)
          have HR3:=Lib.hid (heap_below HR2.out hb3)
          obtain ⟨⟨k0,k1,k2⟩,kf0,kf1,kf2⟩:=bx3c hc3.h
          obtain ⟨⟨r0,r1⟩,-⟩:=bx2 HQ3.out
          have h3:=lt_heap hc3.h
          have h3r:=lt_heap HR3.out
          have HW4:Hid (Below w.heap.size w ((w3.setCell ⟨w2.heap.size+3,2,none⟩ (.bool true)).alloc (.map #[] 0))):=Lib.hid ((HB3.out.setCell (by have:=HB2.out.size; show w.heap.size≤w2.heap.size+3; omega) _).alloc (by have:=HB3.out.size; simpa using this) _)
          have HC4:=Lib.hid ((hc3.setFn true (by omega) (by omega)).alloc (.map #[] 0))
          have HN4:=Lib.hid (Ns.made (w3.setCell ⟨w2.heap.size+3,2,none⟩ (.bool true)))
          have hz4:(w3.setCell ⟨w2.heap.size+3,2,none⟩ (.bool true)).heap.size=w3.heap.size:=by simp
          rw [hz4] at HN4
          have HR4:=Lib.hid (heap_old (heap_set_ne HR3.out (show w.heap.size+1≠w2.heap.size+3 by omega) 2 (.bool true)) (.map #[] 0))
          clear hc3 hb3 hz4)
       | (go_at_call 62
          refine (HBC2.out _ _ _ _ _ HW4.out HC4.out HN4.out).mono ?_
          rintro e w5 ⟨rfl,hb5⟩
          have HB5:=Lib.hid (HW4.out.trans (hb5.mono HW4.out.size))
          have HR5:=Lib.hid (heap_below HR4.out hb5)
          obtain ⟨⟨t0,t1⟩,tf0,tf1⟩:=bx2 HR5.out
          have h5r:=lt_heap HR5.out
          clear hb5)
       | (fail))
     have HX:=Lib.hid (heap_old (st2 HR5.out (.int .i64 (be:Int)) (.int .i64 bl)) (.cells #[.int .i64 (be:Int),.int .i64 bl] 36))
     obtain ⟨⟨x0,x1⟩,-⟩:=bx2 HX.out
     refine bodyPost_ret (v := .agg #[.int .i64 (be:Int),.int .i64 bl]) (by simp [results,Tryz.results27,go_sem,x0,x1]) rfl ?_
     exact ⟨rfl,((HB5.out.setCell (Nat.le_succ _) _).setCell (Nat.le_succ _) _).alloc (by have:=HB5.out.size; simpa using this) _⟩
end Go.Proofs.YtcmopnkldplngabGreatDoor
