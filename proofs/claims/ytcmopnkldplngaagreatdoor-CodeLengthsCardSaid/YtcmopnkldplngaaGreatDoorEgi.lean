/- Texts Eg,Ei of this seat in one: see each part. -/
import Derived.Deep.LoopGhost
import Derived.BigQuiet
import Derived.Deep.Cut
import Derived.Deep.RegionHeld3
import Derived.Deep.CutBlock
import Derived.Deep.CutRange
import Derived.SizedLaws
import Derived.Test.YtcmopnkldplngaaGreatDoorCae
import Derived.Test.YtcmopnkldplngaaGreatDoorZac
import Derived.Test.YtcmopnkldplngaaGreatDoorTbe
import Derived.Test.YtcmopnkldplngaaGreatDoorZgq
namespace Go.Proofs.YtcmopnkldplngaaGreatDoor
open Go.RowKit
set_option linter.unusedVariables false
theorem exsN_drop {l:List Ex} {j:Nat} {x:Ex} (h:l.drop j=x :: l.drop (j+1)):exsN (l.drop j)=exN x+exsN (l.drop (j+1)):=by
 rw [h,exsN]
theorem smsN_drop {l:List Sm} {j:Nat} {x:Sm} (h:l.drop j=x :: l.drop (j+1)):smsN (l.drop j)=smN x+smsN (l.drop (j+1)):=by
 rw [h,smsN]
theorem skip_iff (s:List Nat):(opSkip s≠0) ↔ (s=[38,38]∨s=[124,124]):=by
 rcases opSkip_cases s with ⟨h,e⟩ | ⟨h,e⟩ | ⟨h,h',e⟩
 · rw [e]; simp [h]
 · rw [e]; simp [h]
 · rw [e]; simp [h,h']
set_option maxRecDepth 100000 in
set_option maxHeartbeats 8000000 in
theorem exprsize_any:∀ (N:Nat) (l:List Ex),SizeOf.sizeOf l<N→exsN l≤1000000→∀ (w:World) (S:Nat→Prop) (v:Value),(∀ b,S b→b<w.heap.size)→Rd w S (.row 4 (l.map Ex.nd)) v →
   Calls Tryz.prog 19 #[v] w fun e w'=>e = .returned (.int .i64 (exsN l:Int))∧Below w.heap.size w w':=by
 intro N
 induction N with
 | zero=>exact fun l h=>absurd h (by omega)
 | succ N ih =>
   intro l hN hR w S v hS h
   have IH:=Lib.hid (fun (x:Ex) (hx:x∈l)=>fun (ks:List Ex) (hk:SizeOf.sizeOf ks<SizeOf.sizeOf x)=>ih ks (by
     have:=List.sizeOf_lt_of_mem hx
     omega))
   rw [Rd] at h
   obtain ⟨A,c,rfl,hc,hcm,hr⟩:=h
   rw [List.length_map] at hc ⊢
   have HR:=Lib.hid hr
   have HS:=Lib.hid hS
   obtain ⟨n,hn⟩:∃ n,Hid (l.length=n):=⟨_,Lib.hid rfl⟩
   rw [hn.out] at hc ⊢
   unfold maxLen at hcm
   obtain ⟨R,hRR⟩:∃ R,Hid (exsN l=R):=⟨_,Lib.hid rfl⟩
   rw [hRR.out] at hR ⊢
   clear hr hS ih hN
   go_enter Tryz.func19,Tryz.ntmps19
   go_wp2_with fail
   go_loopg [3,8] n (fun g a i wr=>∃ (j m:Nat),j+g=n∧a = .int .i64 (m:Int)∧i = .int .i64 (j:Int)∧Hid (m+exsN (l.drop j)=R)∧Hid (Below w.heap.size w wr))
   case atStart=>exact ⟨0,0,by omega,rfl,rfl,Lib.hid (by rw [List.drop_zero,Nat.zero_add]; exact hRR.out),Lib.hid (Below.refl _ _)⟩
   case round =>
     obtain ⟨j,m,hj,rfl,rfl,HM,HB⟩:=hrel
     cases gk with
     | zero =>
       have h1:¬ (j:Int)<(n:Int):=by omega
       have HE:Hid (m=R):=Lib.hid (by
         have:=HM.out
         rw [List.drop_eq_nil_of_le (by rw [hn.out]; omega),exsN] at this
         omega)
       go_wp2_with fail
       go_ret
       exact ⟨by rw [← HE.out]; rfl,HB.out⟩
     | succ g =>
       have h1:(j:Int)<(n:Int):=by omega
       have hjl:j<l.length:=by rw [hn.out]; omega
       obtain ⟨b,o,vs,rfl,hSb,hvl,hrg,hx⟩:=HR.out.at j (Ex.nd l[j]) (by simp [hjl])
       have HI:=Lib.hid (IH.out l[j] (List.getElem_mem hjl))
       have hM:=HM.out
       rw [exsN_drop (List.drop_eq_getElem_cons hjl)] at hM
       generalize l[j]=x at *
       obtain ⟨kd,s,mm,ks⟩:=x
       obtain ⟨y,e1,h8,hl8,hy⟩:=(Ex.rd kd s mm ks _).1 hx
       have f1:=hy
       rw [Rd] at f1
       obtain ⟨A3,c3,rfl,-⟩:=f1
       obtain ⟨kn,hkn⟩:∃ kn,(ks.map Ex.nd).length=kn:=⟨_,rfl⟩
       obtain ⟨X,hX⟩:∃ X,strOf s=X:=⟨_,rfl⟩
       rw [hkn] at e1 hy
       rw [hX] at e1
       have hv:vs=[.int .u8 (kd:Int),.string X,.int .i64 mm,.slice A3 kn c3]:=by
         injection e1 with e1
         have:=congrArg Array.toList e1
         simpa using this
       subst hv
       have hbw:b<w.heap.size:=HS.out b hSb
       have hbr:b<wr.heap.size:=Nat.lt_of_lt_of_le hbw HB.out.size
       have cl:∀ i u,[Value.int .u8 (kd:Int),.string X,.int .i64 mm,.slice A3 kn c3][i]?=some u→wr.cell? ⟨b,o+j*4+i,none⟩=some u:=fun i u hu=>by
         have:=hrg i u hu
         rw [Nat.zero_add] at this
         exact (HB.out.cell (p:=⟨b,o+j*4+i,none⟩) hbw).trans this
       have y0:wr.cell? ⟨b,o+j*4,none⟩=some (.int .u8 (kd:Int)):=cl 0 _ rfl
       have y1:=cl 1 _ rfl
       have y2:=cl 2 _ rfl
       have y3:=cl 3 _ rfl
       have t1:(X.toList == ([38,38]:List UInt8))=decide (s=[38,38]):=by rw [← hX]; exact key_eq' s [38,38] h8 _ rfl (by decide)
       have t2:(X.toList == ([124,124]:List UInt8))=decide (s=[124,124]):=by rw [← hX]; exact key_eq' s [124,124] h8 _ rfl (by decide)
       rw [exN] at hM
       obtain ⟨q,hq⟩:∃ q,Hid (exsN ks=q):=⟨_,Lib.hid rfl⟩
       obtain ⟨r,hr⟩:∃ r,Hid (exsN (l.drop (j+1))=r):=⟨_,Lib.hid rfl⟩
       rw [hq.out,hr.out] at hM
       have hm1:m+q≤1000000:=by omega
       have HMX:=Lib.hid hM
       obtain ⟨W1,hW1⟩:∃ W,Hid (wr.alloc (.cells #[.int .u8 (kd:Int),.string X,.int .i64 mm,.slice A3 kn c3] 110)=W):=⟨_,Lib.hid rfl⟩
       have hq1:=heap_new wr (.cells #[.int .u8 (kd:Int),.string X,.int .i64 mm,.slice A3 kn c3] 110)
       have hb1:=(Below.refl wr.heap.size wr).alloc (Nat.le_refl _) (.cells #[.int .u8 (kd:Int),.string X,.int .i64 mm,.slice A3 kn c3] 110)
       rw [hW1.out] at hq1 hb1
       have HQ1:=Lib.hid hq1
       have HB1:=Lib.hid (HB.out.trans (hb1.mono HB.out.size))
       obtain ⟨⟨d0,d1,d2,d3⟩,-⟩:=box4f hq1
       have hs1:=lt_heap hq1
       have HC:=Lib.hid (HI.out ks (by simp; omega) (by rw [hq.out]; omega) W1 S (.slice A3 kn c3) (fun b hb=>Nat.lt_of_lt_of_le (HS.out b hb) HB1.out.size) (hy.keep (fun p hp=>HB1.out.cell (HS.out _ hp)) (fun _ h=>h)))
       rw [hq.out] at HC
       clear hX hrg hx e1 hy cl hM HI HM hjl h8 hl8 hvl hSb hq1 hb1 hbw
       go_upto_region 5 with (fail)
       rw [hW1.out]
       go_upto_region 6 with (first
         | (go_at_call 19
            refine HC.out.mono ?_
            rintro e w2 ⟨rfl,hb2⟩
            have HB2:=Lib.hid (HB1.out.trans (hb2.mono HB1.out.size))
            obtain ⟨⟨d0,d1,d2,d3⟩,-⟩:=box4f (heap_below HQ1.out hb2)
            clear hb2)
         | (fail))
       clear HC HQ1
       by_cases hk:kd=7
       · have k1:((kd:Int) == 7)=true:=by rw [hk]; rfl
         by_cases ha:s=[38,38]
         · have t3:(X.toList == ([38,38]:List UInt8))=true:=by rw [t1]; exact decide_eq_true ha
           have HM2:Hid (m+1+q+1+exsN (l.drop (j+1))=R):=Lib.hid (by
             have:=HMX.out
             rw [if_pos ⟨hk,(skip_iff s).2 (.inl ha)⟩,← hr.out] at this
             omega)
           clear t1 t2 hk ha HMX
           go_wp2_with fail
           go_roundg g
           case measure=>omega
           case rel=>exact ⟨j+1,m+1+q+1,by omega,by go_num,by go_num,HM2,HB2⟩
         · have t3:(X.toList == ([38,38]:List UInt8))=false:=by rw [t1]; exact decide_eq_false ha
           by_cases hb:s=[124,124]
           · have t4:(X.toList == ([124,124]:List UInt8))=true:=by rw [t2]; exact decide_eq_true hb
             have HM2:Hid (m+1+q+1+exsN (l.drop (j+1))=R):=Lib.hid (by
               have:=HMX.out
               rw [if_pos ⟨hk,(skip_iff s).2 (.inr hb)⟩,← hr.out] at this
               omega)
             clear t1 t2 hk ha hb HMX
             go_wp2_with fail
             go_roundg g
             case measure=>omega
             case rel=>exact ⟨j+1,m+1+q+1,by omega,by go_num,by go_num,HM2,HB2⟩
           · have t4:(X.toList == ([124,124]:List UInt8))=false:=by rw [t2]; exact decide_eq_false hb
             have HM2:Hid (m+1+q+exsN (l.drop (j+1))=R):=Lib.hid (by
               have:=HMX.out
               rw [if_neg (fun h=>by rcases (skip_iff s).1 h.2 with h | h; exact ha h; exact hb h),← hr.out] at this
               omega)
             clear t1 t2 hk ha hb HMX
             go_wp2_with fail
             go_roundg g
             case measure=>omega
             case rel=>exact ⟨j+1,m+1+q,by omega,by go_num,by go_num,HM2,HB2⟩
       · have k1:((kd:Int) == 7)=false:=beq_eq_false_iff_ne.2 (by omega)
         have HM2:Hid (m+1+q+exsN (l.drop (j+1))=R):=Lib.hid (by
           have:=HMX.out
           rw [if_neg (fun h=>hk h.1),← hr.out] at this
           omega)
         clear t1 t2 hk HMX
         go_wp2_with fail
         go_roundg g
         case measure=>omega
         case rel=>exact ⟨j+1,m+1+q,by omega,by go_num,by go_num,HM2,HB2⟩
set_option maxRecDepth 100000 in
set_option maxHeartbeats 8000000 in
theorem stmtsize_any:∀ (N:Nat) (l:List Sm),SizeOf.sizeOf l<N→smsN l≤1000000→∀ (w:World) (S:Nat→Prop) (v:Value),(∀ b,S b→b<w.heap.size)→Rd w S (.row 6 (l.map Sm.nd)) v →
   Calls Tryz.prog 8 #[v] w fun e w'=>e = .returned (.int .i64 (smsN l:Int))∧Below w.heap.size w w':=by
 intro N
 induction N with
 | zero=>exact fun l h=>absurd h (by omega)
 | succ N ih =>
   intro l hN hR w S v hS h
   have IH:=Lib.hid (fun (x:Sm) (hx:x∈l)=>fun (ks:List Sm) (hk:SizeOf.sizeOf ks<SizeOf.sizeOf x)=>ih ks (by
     have:=List.sizeOf_lt_of_mem hx
     omega))
   rw [Rd] at h
   obtain ⟨A,c,rfl,hc,hcm,hr⟩:=h
   rw [List.length_map] at hc ⊢
   have HR:=Lib.hid hr
   have HS:=Lib.hid hS
   obtain ⟨n,hn⟩:∃ n,Hid (l.length=n):=⟨_,Lib.hid rfl⟩
   rw [hn.out] at hc ⊢
   unfold maxLen at hcm
   obtain ⟨R,hRR⟩:∃ R,Hid (smsN l=R):=⟨_,Lib.hid rfl⟩
   rw [hRR.out] at hR ⊢
   clear hr hS ih hN
   go_enter Tryz.func8,Tryz.ntmps8
   go_wp2_with fail
   go_loopg [3,8] n (fun g a i wr=>∃ (j m:Nat),j+g=n∧a = .int .i64 (m:Int)∧i = .int .i64 (j:Int)∧Hid (m+smsN (l.drop j)=R)∧Hid (Below w.heap.size w wr))
   case atStart=>exact ⟨0,0,by omega,rfl,rfl,Lib.hid (by rw [List.drop_zero,Nat.zero_add]; exact hRR.out),Lib.hid (Below.refl _ _)⟩
   case round =>
     obtain ⟨j,m,hj,rfl,rfl,HM,HB⟩:=hrel
     cases gk with
     | zero =>
       have h1:¬ (j:Int)<(n:Int):=by omega
       have HE:Hid (m=R):=Lib.hid (by
         have:=HM.out
         rw [List.drop_eq_nil_of_le (by rw [hn.out]; omega),smsN] at this
         omega)
       go_wp2_with fail
       go_ret
       exact ⟨by rw [← HE.out]; rfl,HB.out⟩
     | succ g =>
       have h1:(j:Int)<(n:Int):=by omega
       have hjl:j<l.length:=by rw [hn.out]; omega
       obtain ⟨b,o,vs,rfl,hSb,hvl,hrg,hx⟩:=HR.out.at j (Sm.nd l[j]) (by simp [hjl])
       have HI:=Lib.hid (IH.out l[j] (List.getElem_mem hjl))
       have hM:=HM.out
       rw [smsN_drop (List.drop_eq_getElem_cons hjl)] at hM
       generalize l[j]=x at *
       obtain ⟨kd,s,xs,bd,el,ln⟩:=x
       obtain ⟨y,z,u,e1,h8,hl8,hy,hz,hu⟩:=(Sm.rd kd s xs bd el ln _).1 hx
       have f1:=hy
       have f2:=hz
       have f3:=hu
       rw [Rd] at f1 f2 f3
       obtain ⟨A2,c2,rfl,-⟩:=f1
       obtain ⟨A3,c3,rfl,-⟩:=f2
       obtain ⟨A4,c4,rfl,hc4,hcm4,-⟩:=f3
       obtain ⟨n2,hn2⟩:∃ kn,(xs.map Ex.nd).length=kn:=⟨_,rfl⟩
       obtain ⟨n3,hn3⟩:∃ kn,(bd.map Sm.nd).length=kn:=⟨_,rfl⟩
       obtain ⟨n4,hn4⟩:∃ kn,(el.map Sm.nd).length=kn:=⟨_,rfl⟩
       obtain ⟨X,hX⟩:∃ X,strOf s=X:=⟨_,rfl⟩
       rw [hn2] at e1 hy
       rw [hn3] at e1 hz
       rw [hn4] at e1 hu hc4
       rw [hX] at e1
       have hv:=bx6v e1
       subst hv
       have he4:el≠[] ↔ 0<n4:=by
         rw [← hn4,List.length_map]
         cases el <;> simp
       have hbw:b<w.heap.size:=HS.out b hSb
       have hbr:b<wr.heap.size:=Nat.lt_of_lt_of_le hbw HB.out.size
       have cl:∀ i u,[Value.int .u8 (kd:Int),.string X,.slice A2 n2 c2,.slice A3 n3 c3,.slice A4 n4 c4,.int .i64 ln][i]?=some u→wr.cell? ⟨b,o+j*6+i,none⟩=some u:=fun i u hu=>by
         have:=hrg i u hu
         rw [Nat.zero_add] at this
         exact (HB.out.cell (p:=⟨b,o+j*6+i,none⟩) hbw).trans this
       have y0:wr.cell? ⟨b,o+j*6,none⟩=some (.int .u8 (kd:Int)):=cl 0 _ rfl
       have y1:=cl 1 _ rfl
       have y2:=cl 2 _ rfl
       have y3:=cl 3 _ rfl
       have y4:=cl 4 _ rfl
       have y5:=cl 5 _ rfl
       rw [smN] at hM
       obtain ⟨q2,hq2⟩:∃ q,Hid (exsN xs=q):=⟨_,Lib.hid rfl⟩
       obtain ⟨q3,hq3⟩:∃ q,Hid (smsN bd=q):=⟨_,Lib.hid rfl⟩
       obtain ⟨q4,hq4⟩:∃ q,Hid (smsN el=q):=⟨_,Lib.hid rfl⟩
       obtain ⟨r,hr⟩:∃ r,Hid (smsN (l.drop (j+1))=r):=⟨_,Lib.hid rfl⟩
       rw [hq2.out,hq3.out,hq4.out,hr.out] at hM
       have hm1:m+q2+q3+q4≤1000000:=by omega
       have HMX:=Lib.hid hM
       obtain ⟨W1,hW1⟩:∃ W,Hid (wr.alloc (.cells #[.int .u8 (kd:Int),.string X,.slice A2 n2 c2,.slice A3 n3 c3,.slice A4 n4 c4,.int .i64 ln] 83)=W):=⟨_,Lib.hid rfl⟩
       have hq1:=heap_new wr (.cells #[.int .u8 (kd:Int),.string X,.slice A2 n2 c2,.slice A3 n3 c3,.slice A4 n4 c4,.int .i64 ln] 83)
       have hb1:=(Below.refl wr.heap.size wr).alloc (Nat.le_refl _) (.cells #[.int .u8 (kd:Int),.string X,.slice A2 n2 c2,.slice A3 n3 c3,.slice A4 n4 c4,.int .i64 ln] 83)
       rw [hW1.out] at hq1 hb1
       have HQ1:=Lib.hid hq1
       have HB1:=Lib.hid (HB.out.trans (hb1.mono HB.out.size))
       obtain ⟨⟨d0,d1,d2,d3,d4,d5⟩,-⟩:=bx6 hq1
       have hs1:=lt_heap hq1
       have HC2:=Lib.hid (fun (W:World) (hb:Below w.heap.size w W)=>exprsize_any _ xs (Nat.lt_succ_self _) (by rw [hq2.out]; omega) W S (.slice A2 n2 c2) (fun b h=>Nat.lt_of_lt_of_le (HS.out b h) hb.size) (hy.keep (fun p hp=>hb.cell (HS.out _ hp)) (fun _ h=>h)))
       have HC3:=Lib.hid (fun (W:World) (hb:Below w.heap.size w W)=>HI.out bd (by simp; omega) (by rw [hq3.out]; omega) W S (.slice A3 n3 c3) (fun b h=>Nat.lt_of_lt_of_le (HS.out b h) hb.size) (hz.keep (fun p hp=>hb.cell (HS.out _ hp)) (fun _ h=>h)))
       have HC4:=Lib.hid (fun (W:World) (hb:Below w.heap.size w W)=>HI.out el (by simp; omega) (by rw [hq4.out]; omega) W S (.slice A4 n4 c4) (fun b h=>Nat.lt_of_lt_of_le (HS.out b h) hb.size) (hu.keep (fun p hp=>hb.cell (HS.out _ hp)) (fun _ h=>h)))
       rw [hq2.out] at HC2
       rw [hq3.out] at HC3
       rw [hq4.out] at HC4
       clear hX hrg hx e1 hy hz hu cl hM HI HM hjl h8 hl8 hvl hSb hq1 hb1 hbw hn2 hn3 hn4
       go_upto_region 5 with (fail)
       rw [hW1.out]
       go_region_held3 (fun w'=>w'.cell? ⟨wr.heap.size,2,none⟩=some (.slice A2 n2 c2)∧w'.cell? ⟨wr.heap.size,3,none⟩=some (.slice A3 n3 c3)∧w'.cell? ⟨wr.heap.size,4,none⟩=some (.slice A4 n4 c4)) (go_keep)
         (first
           | (go_at_call 19
              refine (HC2.out _ (by first | exact HB1.out | exact HB1.out.drew)).mono ?_
              rintro e w2 ⟨rfl,hb2⟩
              have HB2:=Lib.hid (HB1.out.trans ((by first | exact hb2 | exact ((Below.refl _ _).drew).trans hb2:Below W1.heap.size W1 w2).mono HB1.out.size))
              have HQ2:=Lib.hid (heap_below (w':=w2) HQ1.out (by first | exact hb2 | exact ((Below.refl _ _).drew).trans hb2))
              obtain ⟨⟨d0,d1,d2,d3,d4,d5⟩,-⟩:=bx6 HQ2.out
              clear hb2)
           | (go_at_call 8
              (with_reducible show Calls _ _ #[.slice A3 n3 c3] _ _)
              refine (HC3.out _ HB2.out).mono ?_
              rintro e w3 ⟨rfl,hb3⟩
              have HB3:=Lib.hid (HB2.out.trans (hb3.mono HB2.out.size))
              have HQ3:=Lib.hid (heap_below HQ2.out hb3)
              obtain ⟨⟨d0,d1,d2,d3,d4,d5⟩,-⟩:=bx6 HQ3.out
              clear hb3)
           | (go_at_call 8
              (with_reducible show Calls _ _ #[.slice A4 n4 c4] _ _)
              refine (HC4.out _ HB3.out).mono ?_
              rintro e w4 ⟨rfl,hb4⟩
              have HB4:=Lib.hid (HB3.out.trans (hb4.mono HB3.out.size))
              have HQ4:=Lib.hid (heap_below HQ3.out hb4)
              obtain ⟨⟨d0,d1,d2,d3,d4,d5⟩,-⟩:=bx6 HQ4.out
              clear hb4)
           | (fail))
       have wz:∀ z:Int,0≤z→z≤9000000→IntKind.i64.wrap z=z:=fun z h0 h1=>IntWalk.i64_in _ (by omega)
       have w1:IntKind.i64.wrap ((m:Int)+IntKind.i64.wrap (IntKind.i64.wrap (IntKind.i64.wrap ((q2:Int)+1)+(q3:Int))+(q4:Int)))=((m+q2+1+q3+q4:Nat):Int):=by
         have a1:IntKind.i64.wrap ((q2:Int)+1)=(q2:Int)+1:=wz _ (by omega) (by omega)
         have a2:IntKind.i64.wrap ((q2:Int)+1+(q3:Int))=(q2:Int)+1+(q3:Int):=wz _ (by omega) (by omega)
         have a3:IntKind.i64.wrap ((q2:Int)+1+(q3:Int)+(q4:Int))=(q2:Int)+1+(q3:Int)+(q4:Int):=wz _ (by omega) (by omega)
         have a4:IntKind.i64.wrap ((m:Int)+((q2:Int)+1+(q3:Int)+(q4:Int)))=(m:Int)+((q2:Int)+1+(q3:Int)+(q4:Int)):=wz _ (by omega) (by omega)
         rw [a1,a2,a3,a4]
         omega
       rw [w1]
       clear w1 wz HC2 HC3 HC4 HQ1 HQ2 HQ3 HQ4 HB1 HB2 HB3
       obtain ⟨m2,hm2⟩:∃ m2,Hid (m+q2+1+q3+q4=m2):=⟨_,Lib.hid rfl⟩
       rw [hm2.out]
       have hm3:m2≤1000001:=by rw [← hm2.out]; omega
       have t4:decide (0<(n4:Int))=decide (0<n4):=by simp
       by_cases hk:kd=4
       · have k1:((kd:Int) == 4)=true:=by rw [hk]; rfl
         have HM2:Hid (m2+1+smsN (l.drop (j+1))=R):=Lib.hid (by
           have:=HMX.out
           rw [if_pos (.inl hk),← hr.out] at this
           rw [← hm2.out]
           omega)
         clear hk HMX t4 he4
         go_wp2_with fail
         go_roundg g
         case measure=>omega
         case rel=>exact ⟨j+1,m2+1,by omega,by go_num,by go_num,HM2,HB4⟩
       · have k1:((kd:Int) == 4)=false:=beq_eq_false_iff_ne.2 (by omega)
         by_cases hk3:kd=3
         · have k3:((kd:Int) == 3)=true:=by rw [hk3]; rfl
           by_cases h0:0<n4
           · have t5:(0:Int)<(n4:Int):=by omega
             have t6:decide ((0:Int)<(n4:Int))=true:=decide_eq_true t5
             have HM2:Hid (m2+1+smsN (l.drop (j+1))=R):=Lib.hid (by
               have:=HMX.out
               rw [if_pos (.inr ⟨hk3,he4.2 h0⟩),← hr.out] at this
               rw [← hm2.out]
               omega)
             clear hk HMX t4 he4 hk3
             go_wp2_with fail
             go_roundg g
             case measure=>omega
             case rel=>exact ⟨j+1,m2+1,by omega,by go_num,by go_num,HM2,HB4⟩
           · have t5:¬ (0:Int)<(n4:Int):=by omega
             have t6:decide ((0:Int)<(n4:Int))=false:=decide_eq_false t5
             have HM2:Hid (m2+smsN (l.drop (j+1))=R):=Lib.hid (by
               have:=HMX.out
               rw [if_neg (fun h=>by rcases h with h | h; exact hk h; exact h0 (he4.1 h.2)),← hr.out] at this
               rw [← hm2.out]
               omega)
             clear hk HMX t4 he4 hk3 h0
             go_wp2_with fail
             go_roundg g
             case measure=>omega
             case rel=>exact ⟨j+1,m2,by omega,by go_num,by go_num,HM2,HB4⟩
         · have k3:((kd:Int) == 3)=false:=beq_eq_false_iff_ne.2 (by omega)
           have HM2:Hid (m2+smsN (l.drop (j+1))=R):=Lib.hid (by
             have:=HMX.out
             rw [if_neg (fun h=>by rcases h with h | h; exact hk h; exact hk3 h.1),← hr.out] at this
             rw [← hm2.out]
             omega)
           clear hk HMX t4 he4 hk3
           go_wp2_with fail
           go_roundg g
           case measure=>omega
           case rel=>exact ⟨j+1,m2,by omega,by go_num,by go_num,HM2,HB4⟩
end Go.Proofs.YtcmopnkldplngaaGreatDoor
namespace Go.Proofs.YtcmopnkldplngaaGreatDoor
open Go.RowKit
set_option linter.unusedVariables false
set_option maxRecDepth 100000
section
variable {H:Type} {enc:TypeId × Value→H} {w:World} {held:Bool}
theorem part_reach {T E:TypeId} (hT:Tryz.prog.underlying T=some (.slice E)) (hb:0<Tryz.prog.bytesOf E) {fuel n:Nat} {A:Option Addr} {c:Nat} {y:DataW H × List MemPlace} (h:DataW.trod enc Tryz.prog w 0 (fun _ => true) held fuel T [.slice A n c]=some y)
   (hw:∀ k∈y.1.weights Tryz.prog T,k≤reachBytes):n≤reachBytes:=by
 rcases DataW.trod_slice hT h with ⟨hc3, _⟩ | ⟨a,len,cap,elems,rest,n',rfl,hc3,rfl, _,hlc,hcm,hel0,hel, _⟩
 · simp only [List.cons.injEq,and_true,Value.slice.injEq] at hc3
   omega
 · simp only [List.cons.injEq,and_true,Value.slice.injEq] at hc3
   obtain ⟨-,rfl,-⟩:=hc3
   have:=hw (((elems.map (·.1)).length+(rest.map (·.1)).length)*Tryz.prog.bytesOf E) (by simp [DataW.weights,hT])
   rw [List.length_map,hel0] at this
   have h2:n*1≤(n+(rest.map (·.1)).length)*Tryz.prog.bytesOf E:=Nat.mul_le_mul (Nat.le_add_right _ _) hb
   omega
theorem prog_len {g:Pg} {v:Value} {d:DataW H} {p:List MemPlace} {ts:List TypeId} {ds:List (DataW H)} (hr:Rw w (Sz w) g.nd v) (h:DataW.Trod enc Tryz.prog w 0 (fun _ => true) held 25 v d p)
   (hw:(DataW.weightsEach Tryz.prog (25 :: ts) (d :: ds)).all (·≤reachBytes)=true):g.fns.length+g.roles.length≤1125899906842624:=by
 obtain ⟨y,z,rfl,hy,hz⟩:=(Pg.rw g v).1 hr
 rw [Rw] at hy hz
 obtain ⟨A1,c1,rfl,-⟩:=hy
 obtain ⟨A2,c2,rfl,-⟩:=hz
 rw [List.length_map,List.length_map] at h
 obtain ⟨fuel,hf⟩:=h
 have hcs:(Value.agg #[.slice A1 g.fns.length c1,.slice A2 g.roles.length c2]).cells.toList=[.slice A1 g.fns.length c1,.slice A2 g.roles.length c2]:=rfl
 rw [hcs] at hf
 obtain ⟨ys,n,e1,e2,hlen,hyl,hfl⟩:=DataW.trod_struct Tryz.underlying25 hf
 injection e2 with e2 e3
 subst e2
 have hall:∀ k∈DataW.weightsEach Tryz.prog [22,23] (ys.map (·.1)),k≤reachBytes:=fun k hk=>by
   have:=List.all_eq_true.1 hw k (by
     refine DataW.weights_mem_each (j:=0) rfl rfl k ?_
     simp only [DataW.weights,Tryz.underlying25]
     exact hk)
   simpa using this
 have f0:=hfl 0 _ rfl
 have f1:=hfl 1 _ rfl
 have l2:ys.length=2:=hyl
 obtain ⟨y0,y1,rfl⟩:∃ y0 y1,ys=[y0,y1]:=by
   match ys,l2 with
   | [a,b], _ => exact ⟨a,b,rfl⟩
 have g0:DataW.trod enc Tryz.prog w 0 (fun _ => true) held n 22 [.slice A1 g.fns.length c1]=some y0:=f0
 have g1:DataW.trod enc Tryz.prog w 0 (fun _ => true) held n 23 [.slice A2 g.roles.length c2]=some y1:=f1
 have h0:=part_reach Tryz.underlying22 (of_decide_eq_true (by kernel_rfl)) g0 (fun k hk=>hall k (by
   simp only [List.map_cons,List.map_nil,DataW.weightsEach,List.mem_append]
   exact .inl hk))
 have h1:=part_reach Tryz.underlying23 (of_decide_eq_true (by kernel_rfl)) g1 (fun k hk=>hall k (by
   simp only [List.map_cons,List.map_nil,DataW.weightsEach,List.mem_append]
   exact .inr (.inl hk)))
 have hlt:=reachBytes_lt
 omega
end
end Go.Proofs.YtcmopnkldplngaaGreatDoor
