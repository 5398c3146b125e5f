/- Texts Zr,Kw of this seat in one: see each part. -/
import Derived.Test.YtcmopnkldplngabGreatDoorUeg
import Derived.Test.YtcmopnkldplngabGreatDoorZgq
import Derived.Test.YtcmopnkldplngabGreatDoorKgk
namespace Go.Proofs.YtcmopnkldplngabGreatDoor
open Go.RowKit
set_option linter.unusedVariables false
def rightB (g:Pg):Bool:=if 60<wi ((g.fns.length:Int)+(g.roles.length:Int)) then false else nxP g.roles (bodiesR g.fns 2000)
theorem rightB_eq {g:Pg} (h:g.fns.length+g.roles.length≤1000000):rightB g=rightP g:=by
 obtain ⟨a,b⟩:=g
 have e:wi ((a.length:Int)+(b.length:Int))=(a.length:Int)+(b.length:Int):=by
   dsimp only at h
   rw [wi_eq,IntKind.wrap_i64]
   omega
 unfold rightB
 dsimp only
 rw [e]
 by_cases hh:60<a.length+b.length
 · rw [if_pos (by omega)]
   unfold rightP
   rw [if_pos hh]
 · rw [if_neg (by omega),rightP_eq a b hh]
set_option maxRecDepth 100000 in
set_option maxHeartbeats 8000000 in
theorem right_w (w0:World) (hw0:Wt w0) (x:Pg) (w:World) (S:Nat→Prop) (v:Value) (hb0:Below w0.heap.size w0 w) (hS0:∀ b,S b→b<w.heap.size) (hr:Rd w S x.nd v) :
   Calls Tryz.prog 60 #[v] w fun e w'=>e = .returned (.bool (rightB x))∧Below w.heap.size w w':=by
 obtain ⟨l,l2⟩:=x
 obtain ⟨ys,yt,rfl,hs,ht⟩:=(Pg.rd ⟨l,l2⟩ v).1 hr
 have hs':Rd w S (.row 4 (l.map Bd.nd)) ys:=hs
 have ht':Rd w S (.row 4 (l2.map Rl.nd)) yt:=ht
 rw [Rd] at hs' ht'
 obtain ⟨A,cp,rfl,hcp,hcpm,hs'⟩:=hs'
 obtain ⟨A2,cp2,rfl,hcp2,hcpm2,ht'⟩:=ht'
 rw [List.length_map] at hcp hcp2 ⊢
 rw [List.length_map]
 obtain ⟨n,hnn⟩:∃ n,Hid (l.length=n):=⟨_,Lib.hid rfl⟩
 obtain ⟨m,hnm⟩:∃ m,Hid (l2.length=m):=⟨_,Lib.hid rfl⟩
 rw [hnn.out] at hcp ⊢
 rw [hnm.out] at hcp2 ⊢
 have HR:=Lib.hid hs'
 have HR2:=Lib.hid ht'
 have HWB:=Lib.hid (hw0.below hb0)
 have HBB:=Lib.hid (Below.refl w.heap.size w)
 have HSS:=Lib.hid (show ∀ b,S b→b<w.heap.size∧b≠w.heap.size+1 from fun b h=>⟨hS0 b h,by have:=hS0 b h; omega⟩)
 have HCL0:Hid (2000≤2000):=Lib.hid (Nat.le_refl _)
 have hqb:w.heap.size≤w.heap.size+1:=Nat.le_succ _
 obtain ⟨rp,HRP0⟩:∃ r,Hid (rightB ⟨l,l2⟩=r):=⟨_,Lib.hid rfl⟩
 rw [HRP0.out]
 unfold maxLen at hcpm hcpm2
 obtain ⟨sm,hsm⟩:∃ z,wi ((n:Int)+(m:Int))=z:=⟨_,rfl⟩
 have wsm:IntKind.i64.wrap ((n:Int)+(m:Int))=sm:=hsm
 have HSM:=Lib.hid hsm
 have hnm2:n≤9223372036854775807∧m≤9223372036854775807:=by omega
 obtain ⟨hnm3,hnm4⟩:=hnm2
 clear hsm hr hs ht hs' ht' hb0 hS0 hw0
 by_cases hg:60<sm
 · have hg3:=hg
   have t1:decide ((60:Int)<sm)=true:=decide_eq_true hg3
   have HE:Hid (false=rp):=Lib.hid (by rw [← HRP0.out]; unfold rightB; rw [if_pos (by rw [hnn.out,hnm.out,HSM.out]; exact hg)])
   clear HRP0 hg
   go_enter Tryz.func60,Tryz.ntmps60
   go_wp2_with fail
   go_ret
   exact ⟨by rw [← HE.out]; rfl,(Below.refl _ w).alloc (Nat.le_refl _) _⟩
 · have hg3 := hg
   have t1:decide ((60:Int)<sm)=false:=decide_eq_false hg3
   obtain ⟨r,HRR⟩:∃ r,Hid (bodiesR l 2000=r):=⟨_,Lib.hid rfl⟩
   have HRP:Hid (nxP l2 r=rp):=Lib.hid (by rw [← HRP0.out,show rightB ⟨l,l2⟩=nxP l2 (bodiesR l 2000) from if_neg (by rw [hnn.out,hnm.out,HSM.out]; exact hg),HRR.out])
   clear HRP0 hg
   have HC1:Hid (Ct ((w.alloc (.cells #[.slice A n cp,.slice A2 m cp2] 25)).alloc (.cells #[.int .i64 2000] 234)) (w.heap.size+1) ((2000:Nat):Int)):=Lib.hid (by
     unfold Ct
     have:=heap_new (w.alloc (.cells #[.slice A n cp,.slice A2 m cp2] 25)) (.cells #[.int .i64 2000] 234)
     simpa using this)
   have HK0:Hid (Kp (w.heap.size+1) w ((w.alloc (.cells #[.slice A n cp,.slice A2 m cp2] 25)).alloc (.cells #[.int .i64 2000] 234))):=Lib.hid (((Kp.refl _ w).alloc _).alloc _)
   have HQP:=Lib.hid (heap_old (heap_new w (.cells #[.slice A n cp,.slice A2 m cp2] 25)) (.cells #[.int .i64 2000] 234))
   go_enter Tryz.func60,Tryz.ntmps60
   go_wp2_with fail
   go_loopg [21] n (fun g i wr=>∃ (j cj:Nat),j+g=n∧i = .int .i64 (j:Int)∧Hid (bodiesR (l.drop j) cj=r)∧Hid (cj≤2000)∧Hid (Ct wr (w.heap.size+1) (cj:Int))∧Hid (Kp (w.heap.size+1) ((w.alloc (.cells #[.slice A n cp,.slice A2 m cp2] 25)).alloc (.cells #[.int .i64 2000] 234)) wr))
   case atStart=>exact ⟨0,2000,by omega,rfl,Lib.hid (by rw [List.drop_zero]; exact HRR.out),HCL0,HC1,(Lib.hid (Kp.refl _ _))⟩
   case round =>
     obtain ⟨j,cj,hj,rfl,HF,HCL,HCJ,HKJ⟩:=hrel
     cases gk with
     | zero =>
       have h1:¬ (j:Int)<(n:Int):=by omega
       have HE:Hid (some cj=r):=Lib.hid (by rw [← HF.out,List.drop_eq_nil_of_le (by rw [hnn.out]; omega),bodiesR])
       clear HF
       have hQJ:=HKJ.out.heap HQP.out (Nat.ne_of_lt (Nat.lt_succ_self _))
       obtain ⟨⟨p0,p1⟩,-⟩:=bx2 hQJ
       have HKJ2:=Lib.hid (HK0.out.trans HKJ.out)
       have HCL0:=HCL
       obtain ⟨r2,HRR2⟩:∃ r,Hid (rolesR l2 cj=r):=⟨_,Lib.hid rfl⟩
       have HRP2:Hid (r2.isSome=rp):=Lib.hid (by rw [← HRP.out,← HE.out,← HRR2.out]; rfl)
       clear HRR HRP HE hQJ HKJ
       go_wp2_with fail
       go_loopg [33] m (fun g i wr=>∃ (j cj:Nat),j+g=m∧i = .int .i64 (j:Int)∧Hid (rolesR (l2.drop j) cj=r2)∧Hid (cj≤2000)∧Hid (Ct wr (w.heap.size+1) (cj:Int))∧Hid (Kp (w.heap.size+1) w wr))
       case atStart=>exact ⟨0,cj,by omega,rfl,Lib.hid (by rw [List.drop_zero]; exact HRR2.out),HCL0,HCJ,HKJ2⟩
       case round =>
         obtain ⟨j,cj,hj,rfl,HF,HCL,HCJ,HKJ⟩:=hrel
         cases gk with
         | zero =>
           have h1:¬ (j:Int)<(m:Int):=by omega
           have HE:Hid (some cj=r2):=Lib.hid (by rw [← HF.out,List.drop_eq_nil_of_le (by rw [hnm.out]; omega),rolesR])
           clear HF
           go_wp2_with fail
           go_ret
           exact ⟨by rw [← HRP2.out,← HE.out]; rfl,HKJ.out.below (Nat.le_succ _) (Nat.le_refl _)⟩
         | succ g =>
           have h1:(j:Int)<(m:Int):=by omega
           have h2:j<m:=by omega
           have hjl:j<l2.length:=by rw [hnm.out]; exact h2
           obtain ⟨b,o,vs,rfl,hSb,hvl,hrg,hx⟩:=HR2.out.at j (Rl.nd l2[j]) (by simp [hjl])
           have HD:=Lib.hid (List.drop_eq_getElem_cons hjl)
           generalize hxg:l2[j]=x at *
           have hx0:=hx
           obtain ⟨s1,ps1,st1,ln1⟩:=x
           obtain ⟨y,y',hv,-,-,hy,hy1⟩:=(hd_rd s1 ps1 4 _ ln1 _).1 hx
           obtain ⟨A3,n3,c3,rfl⟩:=hy.row_form
           obtain ⟨A4,n4,c4,rfl⟩:=hy1.row_form
           have hv2:vs=[.string (strOf s1),.slice A3 n3 c3,.slice A4 n4 c4,.int .i64 ln1]:=by
             injection hv with hv
             have:=congrArg Array.toList hv
             simpa using this
           subst hv2
           have hcell:∀ i u,([.string (strOf s1),.slice A3 n3 c3,.slice A4 n4 c4,.int .i64 ln1]:List Value)[i]?=some u→wr.cell? ⟨b,o+j*4+i,none⟩=some u:=fun i u hu=>by
             have:=hrg i u hu
             rw [Nat.zero_add] at this
             exact ((Kp.trans (Kp.refl (w.heap.size+1) w) HKJ.out).cellq (p:=⟨b,o+j*4+i,none⟩) (HSS.out b hSb).1 (HSS.out b hSb).2).trans this
           have y0:wr.cell? ⟨b,o+j*4,none⟩=some (.string (strOf s1)):=hcell 0 _ rfl
           have y1:=hcell 1 _ rfl
           have y2:=hcell 2 _ rfl
           have y3:=hcell 3 _ rfl
           have HY:=Lib.hid hx0
           have HF2:=Lib.hid (HF.out.symm.trans (by rw [HD.out,rolesR_cons]))
           have hqr:(w.heap.size+1)<wr.heap.size:=lt_heap HCJ.out
           have hqn:¬ wr.heap.size=(w.heap.size+1):=by omega
           have hbr:b<wr.heap.size:=Nat.lt_of_lt_of_le (HSS.out b hSb).1 (Kp.trans (Kp.refl (w.heap.size+1) w) HKJ.out).size
           have HBD:=Lib.hid (roleC_any w HWB.out (w.heap.size+1) hqb ⟨s1,ps1,st1,ln1⟩ cj (wr.alloc (.cells #[.string (strOf s1),.slice A3 n3 c3,.slice A4 n4 c4,.int .i64 ln1] 90)) S (.agg #[.string (strOf s1),.slice A3 n3 c3,.slice A4 n4 c4,.int .i64 ln1]) (HBB.out.trans (((Kp.trans (Kp.refl (w.heap.size+1) w) HKJ.out).alloc _).below hqb HBB.out.size)) (fun b hb=>⟨Nat.lt_of_lt_of_le (HSS.out b hb).1 ((Kp.trans (Kp.refl (w.heap.size+1) w) HKJ.out).alloc _).size,(HSS.out b hb).2⟩) (Rd.keep (fun p hp=>((Kp.trans (Kp.refl (w.heap.size+1) w) HKJ.out).alloc _).cellq (HSS.out _ hp).1 (HSS.out _ hp).2) (fun _ h=>h) _ _ HY.out) (heap_old HCJ.out _) HCL.out)
           have HL:=Lib.hid (roleR_le ⟨s1,ps1,st1,ln1⟩ cj)
           clear hrg hx hx0 hv hy hy1 HF HD hjl hcell hxg
           generalize roleR ⟨s1,ps1,st1,ln1⟩ cj=r1 at *
           cases r1 with
           | none =>
             have HE:Hid (none=r2):=Lib.hid HF2.out.symm
             clear HF2 HL
             go_wp2_with (first
               | (go_at_call 104
                  refine HBD.out.mono ?_
                  rintro e w1 ⟨rfl,⟨z,hz,hz2⟩,hk1⟩
                  have HZ:=Lib.hid hz
                  have HK1:=Lib.hid (HKJ.out.trans (((Kp.refl (w.heap.size+1) wr).alloc _).trans hk1))
                  clear hz hz2 hk1)
               | (fail))
             go_ret
             exact ⟨by rw [← HRP2.out,← HE.out]; rfl,HK1.out.below (Nat.le_succ _) (Nat.le_refl _)⟩
           | some c8 =>
             have HL8:Hid (c8≤2000):=Lib.hid (by have:=HL.out c8 rfl; have:=HCL.out; omega)
             have HF6:Hid (rolesR (l2.drop (j+1)) c8=r2):=Lib.hid HF2.out.symm
             clear HF2 HL
             go_wp2_with (first
               | (go_at_call 104
                  refine HBD.out.mono ?_
                  rintro e w1 ⟨rfl,⟨z,hz,hz2⟩,hk1⟩
                  have HZ:=Lib.hid hz
                  have HZ2:=Lib.hid hz2
                  have HK1:=Lib.hid (HKJ.out.trans (((Kp.refl (w.heap.size+1) wr).alloc _).trans hk1))
                  clear hz hz2 hk1)
               | (fail))
             go_roundg g
             case measure=>omega
             case rel=>exact ⟨j+1,c8,by omega,by go_num,HF6,HL8,Lib.hid (by rw [← HZ2.out c8 rfl]; exact HZ.out),HK1⟩
     | succ g =>
       have h1:(j:Int)<(n:Int):=by omega
       have h2:j<n:=by omega
       have hjl:j<l.length:=by rw [hnn.out]; exact h2
       obtain ⟨b,o,vs,rfl,hSb,hvl,hrg,hx⟩:=HR.out.at j (Bd.nd l[j]) (by simp [hjl])
       have HD:=Lib.hid (List.drop_eq_getElem_cons hjl)
       generalize hxg:l[j]=x at *
       have hx0:=hx
       obtain ⟨s1,ps1,st1,ln1⟩:=x
       obtain ⟨y,y',hv,-,-,hy,hy1⟩:=(hd_rd s1 ps1 6 _ ln1 _).1 hx
       obtain ⟨A3,n3,c3,rfl⟩:=hy.row_form
       obtain ⟨A4,n4,c4,rfl⟩:=hy1.row_form
       have hv2:vs=[.string (strOf s1),.slice A3 n3 c3,.slice A4 n4 c4,.int .i64 ln1]:=by
         injection hv with hv
         have:=congrArg Array.toList hv
         simpa using this
       subst hv2
       have hcell:∀ i u,([.string (strOf s1),.slice A3 n3 c3,.slice A4 n4 c4,.int .i64 ln1]:List Value)[i]?=some u→wr.cell? ⟨b,o+j*4+i,none⟩=some u:=fun i u hu=>by
         have:=hrg i u hu
         rw [Nat.zero_add] at this
         exact ((Kp.trans HK0.out HKJ.out).cellq (p:=⟨b,o+j*4+i,none⟩) (HSS.out b hSb).1 (HSS.out b hSb).2).trans this
       have y0:wr.cell? ⟨b,o+j*4,none⟩=some (.string (strOf s1)):=hcell 0 _ rfl
       have y1:=hcell 1 _ rfl
       have y2:=hcell 2 _ rfl
       have y3:=hcell 3 _ rfl
       have HY:=Lib.hid hx0
       have HF2:=Lib.hid (HF.out.symm.trans (by rw [HD.out,bodiesR_cons]))
       have hqr:(w.heap.size+1)<wr.heap.size:=lt_heap HCJ.out
       have hqn:¬ wr.heap.size=(w.heap.size+1):=by omega
       have hbr:b<wr.heap.size:=Nat.lt_of_lt_of_le (HSS.out b hSb).1 (Kp.trans HK0.out HKJ.out).size
       have HBD:=Lib.hid (bodyC_any w HWB.out (w.heap.size+1) hqb ⟨s1,ps1,st1,ln1⟩ cj (wr.alloc (.cells #[.string (strOf s1),.slice A3 n3 c3,.slice A4 n4 c4,.int .i64 ln1] 87)) S (.agg #[.string (strOf s1),.slice A3 n3 c3,.slice A4 n4 c4,.int .i64 ln1]) (HBB.out.trans (((Kp.trans HK0.out HKJ.out).alloc _).below hqb HBB.out.size)) (fun b hb=>⟨Nat.lt_of_lt_of_le (HSS.out b hb).1 ((Kp.trans HK0.out HKJ.out).alloc _).size,(HSS.out b hb).2⟩) (Rd.keep (fun p hp=>((Kp.trans HK0.out HKJ.out).alloc _).cellq (HSS.out _ hp).1 (HSS.out _ hp).2) (fun _ h=>h) _ _ HY.out) (heap_old HCJ.out _) HCL.out)
       have HL:=Lib.hid (bodyR_le ⟨s1,ps1,st1,ln1⟩ cj)
       clear hrg hx hx0 hv hy hy1 HF HD hjl hcell hxg
       generalize bodyR ⟨s1,ps1,st1,ln1⟩ cj=r1 at *
       cases r1 with
       | none =>
         have HE:Hid (none=r):=Lib.hid HF2.out.symm
         clear HF2 HL
         go_wp2_with (first
           | (go_at_call 103
              refine HBD.out.mono ?_
              rintro e w1 ⟨rfl,⟨z,hz,hz2⟩,hk1⟩
              have HZ:=Lib.hid hz
              have HK1:=Lib.hid (HKJ.out.trans (((Kp.refl (w.heap.size+1) wr).alloc _).trans hk1))
              clear hz hz2 hk1)
           | (fail))
         go_ret
         exact ⟨by rw [← HRP.out,← HE.out]; rfl,(HK0.out.trans HK1.out).below (Nat.le_succ _) (Nat.le_refl _)⟩
       | some c8 =>
         have HL8:Hid (c8≤2000):=Lib.hid (by have:=HL.out c8 rfl; have:=HCL.out; omega)
         have HF6:Hid (bodiesR (l.drop (j+1)) c8=r):=Lib.hid HF2.out.symm
         clear HF2 HL
         go_wp2_with (first
           | (go_at_call 103
              refine HBD.out.mono ?_
              rintro e w1 ⟨rfl,⟨z,hz,hz2⟩,hk1⟩
              have HZ:=Lib.hid hz
              have HZ2:=Lib.hid hz2
              have HK1:=Lib.hid (HKJ.out.trans (((Kp.refl (w.heap.size+1) wr).alloc _).trans hk1))
              clear hz hz2 hk1)
           | (fail))
         go_roundg g
         case measure=>omega
         case rel=>exact ⟨j+1,c8,by omega,by go_num,HF6,HL8,Lib.hid (by rw [← HZ2.out c8 rfl]; exact HZ.out),HK1⟩
end Go.Proofs.YtcmopnkldplngabGreatDoor
namespace Go.Proofs.YtcmopnkldplngabGreatDoor
open Go.RowKit
set_option linter.unusedVariables false
theorem rightB_eq2 {g:Pg} (h:g.fns.length+g.roles.length≤1125899906842624):rightB g=rightP g:=by
 by_cases hh:g.fns.length+g.roles.length≤1000000
 · exact rightB_eq hh
 · have e:wi ((g.fns.length:Int)+(g.roles.length:Int))=(g.fns.length:Int)+(g.roles.length:Int):=by
     unfold wi
     exact IntWalk.i64_in _ (by omega)
   unfold rightB rightP
   rw [e,if_pos (by omega),if_pos (by omega)]
set_option maxRecDepth 100000 in
set_option maxHeartbeats 8000000 in
theorem check_w (g:Pg) (hlen:g.fns.length+g.roles.length≤1125899906842624) (w:World) (hw:Wt w) (S:Nat→Prop) (v:Value) (hS:∀ b,S b→b<w.heap.size) (hr:Rd w S g.nd v) :
   Calls Tryz.prog 27 #[v] w (OutF w (checkF g)):=by
 cases hright:rightP g with
 | true=>exact check_any g (by have:=(right_bounds hright).1; omega) w hw S v hS hr
 | false =>
   obtain ⟨y,z,rfl,hy,hz⟩:=(Pg.rd g v).1 hr
   obtain ⟨A1,n1,c1,rfl⟩:=hy.row_form
   obtain ⟨A2,n2,c2,rfl⟩:=hz.row_form
   have HBB:=Lib.hid (two w (.cells #[.slice A1 n1 c1,.slice A2 n2 c2] 25) (.cells #[.int .i64 0,.int .i64 0] 36))
   have HQ:=Lib.hid (heap_old (heap_new w (.cells #[.slice A1 n1 c1,.slice A2 n2 c2] 25)) (.cells #[.int .i64 0,.int .i64 0] 36))
   have HRC:=Lib.hid (heap_new' (w.alloc (.cells #[.slice A1 n1 c1,.slice A2 n2 c2] 25)) (.cells #[.int .i64 0,.int .i64 0] 36) (w.heap.size+1) (by simp))
   have HRI:=Lib.hid (right_w w hw g _ S _ HBB.out (fun b hb=>Nat.lt_of_lt_of_le (hS b hb) HBB.out.size) (Rd.keep (fun p hp=>HBB.out.cell (hS _ hp)) (fun _ h=>h) _ _ hr))
   unfold OutF checkF
   rw [rightB_eq2 hlen,hright] at HRI
   clear hy hz hr hS hlen hw
   · rw [hright]
     clear hright
     rw [if_neg (by simp)]
     go_enter Tryz.func27,Tryz.ntmps27
     go_wp2_with (first
       | (go_at_call 60
          refine HRI.out.mono ?_
          rintro e w2 ⟨rfl,hb2⟩
          have HB2:=Lib.hid (HBB.out.trans (hb2.mono HBB.out.size))
          have HR2:=Lib.hid (heap_below HRC.out hb2)
          obtain ⟨⟨v0,v1⟩,vf0,vf1⟩:=bx2 HR2.out
          have h2:=lt_heap HR2.out
          clear hb2)
       | (fail))
     have HX:=Lib.hid (st2 HR2.out (.int .i64 103) (.int .i64 0))
     obtain ⟨⟨x0,x1⟩,-⟩:=bx2 HX.out
     refine bodyPost_ret (v := .agg #[.int .i64 103,.int .i64 0]) (by simp [results,Tryz.results27,go_sem,x0,x1]) rfl ?_
     exact ⟨rfl,(HB2.out.setCell (Nat.le_succ _) _).setCell (Nat.le_succ _) _⟩
end Go.Proofs.YtcmopnkldplngabGreatDoor
