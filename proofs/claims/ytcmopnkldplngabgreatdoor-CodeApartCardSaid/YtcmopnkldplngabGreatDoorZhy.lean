/- Texts Zh,Zi,Zx,Zy of this seat in one: see each part. -/
import Derived.Deep.LoopGhost
import Derived.Deep.Cut
import Derived.Deep.CutBlock
import Derived.Deep.CutRange
import Derived.Test.YtcmopnkldplngabGreatDoorZgq
import Derived.Test.YtcmopnkldplngabGreatDoorZac
namespace Go.Proofs.YtcmopnkldplngabGreatDoor
open Go.RowKit
set_option linter.unusedVariables false
def Cn (w:World) (q:Nat) (z:Int):Prop:=w.heap[q]?=some (.cells #[.int .i64 z] 3 (0,0))
def OutH (q:Nat) (w:World) (r:Option Int) (e:Ending) (w':World):Prop:=e = .returned (.bool r.isNone)∧(∃ z:Int,Cn w' q z∧∀ c':Int,r=some c'→z=c')∧Kp q w w'
def nxH (many:Int) (lv:Nat) (l:List Ex):Option Int→Option Int
 | none=>none
 | some c=>hgEs many lv l c
theorem hgEs_cons (many:Int) (lv:Nat) (x:Ex) (l:List Ex) (c:Int):hgEs many lv (x :: l) c=nxH many lv l (hgE many lv x c):=by
 rw [hgEs]
 cases hgE many lv x c <;> rfl
def nxHS (many:Int) (lv:Nat) (l:List Sm):Option Int→Option Int
 | none=>none
 | some c=>hgSs many lv l c
theorem hgSs_cons (many:Int) (lv:Nat) (x:Sm) (l:List Sm) (c:Int):hgSs many lv (x :: l) c=nxHS many lv l (hgS many lv x c):=by
 rw [hgSs]
 cases hgS many lv x c <;> rfl
theorem Cn.set {w:World} {q:Nat} {z:Int} (h:Cn w q z) (z':Int):Cn (w.setCell ⟨q,0,none⟩ (.int .i64 z')) q z':=by
 have:=heap_set h 0 (.int .i64 z')
 unfold Cn
 simpa using this
theorem Rw.rowf {w:World} {S:Nat→Prop} {sz:Nat} {l:List Nd} {v:Value} (h:Rw w S (.row sz l) v):∃ A n c,v = .slice A n c:=by
 rw [Rw] at h
 obtain ⟨A,c,rfl,-⟩:=h
 exact ⟨_, _, _,rfl⟩
set_option maxRecDepth 100000 in
set_option maxHeartbeats 4000000 in
theorem long_any (l:List (List Nat)) (w:World) (S:Nat→Prop) (v:Value) (h:Rw w S (.row 1 (l.map nmNd)) v) :
   Calls Tryz.prog 24 #[v] w fun e w'=>e = .returned (.bool (longF l))∧w'=w:=by
 rw [Rw] at h
 obtain ⟨A,c,rfl,hc,hcm,hr⟩:=h
 rw [List.length_map] at hc ⊢
 have HR:=Lib.hid hr
 obtain ⟨n,hn⟩:∃ n,Hid (l.length=n):=⟨_,Lib.hid rfl⟩
 rw [hn.out] at hc ⊢
 unfold maxLen at hcm
 obtain ⟨r,hrr⟩:∃ r,Hid (longF l=r):=⟨_,Lib.hid rfl⟩
 rw [hrr.out]
 clear hr
 go_enter Tryz.func24,Tryz.ntmps24
 go_wp2_with fail
 go_loopg [3] n (fun g i wr=>∃ (j:Nat),j+g=n∧i = .int .i64 (j:Int)∧Hid (longF (l.drop j)=r)∧Hid (wr=w))
 case atStart=>exact ⟨0,by omega,rfl,Lib.hid (by rw [List.drop_zero]; exact hrr.out),Lib.hid rfl⟩
 case round =>
   obtain ⟨j,hj,rfl,HF,HW⟩:=hrel
   cases gk with
   | zero =>
     have h1:¬ (j:Int)<(n:Int):=by omega
     have HE:Hid (false=r):=Lib.hid (by rw [← HF.out,List.drop_eq_nil_of_le (by rw [hn.out]; omega)]; rfl)
     go_wp2_with fail
     go_ret
     exact ⟨by rw [← HE.out]; rfl,HW.out⟩
   | succ g =>
     have h1:(j:Int)<(n:Int):=by omega
     have hjl:j<l.length:=by rw [hn.out]; omega
     obtain ⟨b,o,vs,rfl,hSb,hvl,hrg,hx⟩:=HR.out.at j (nmNd l[j]) (by simp [hjl])
     have e1:=((nm_rw _ _).1 hx).1
     obtain ⟨X,hX⟩:∃ X,strOf l[j]=X:=⟨_,rfl⟩
     have hXs:X.size=l[j].length:=by rw [← hX,strOf_size]
     rw [hX] at e1
     have hv:vs=[.string X]:=by
       injection e1 with e1
       have:=congrArg Array.toList e1
       simpa using this
     subst hv
     have y0:wr.cell? ⟨b,o+j,none⟩=some (.string X):=by
       have:=hrg 0 _ rfl
       simp only [Nat.zero_add,Nat.mul_one,Nat.add_zero] at this
       rw [HW.out]
       exact this
     have HD:=Lib.hid (List.drop_eq_getElem_cons hjl)
     obtain ⟨k,hk⟩:∃ k,X.size=k:=⟨_,rfl⟩
     by_cases hL:1000<k
     · have t1:decide ((1000:Int)<(k:Int))=true:=decide_eq_true (by omega)
       have t2:(1000:Int)<(k:Int):=by omega
       have HE:Hid (true=r):=Lib.hid (by
         rw [← HF.out,HD.out]
         unfold longF
         rw [List.any_cons,← hXs,hk,decide_eq_true hL]
         rfl)
       clear hX hrg hx e1 hjl hXs HF HD
       go_wp2_with fail
       go_ret
       exact ⟨by rw [← HE.out]; rfl,HW.out⟩
     · have t1:decide ((1000:Int)<(k:Int))=false:=decide_eq_false (by omega)
       have t2:¬ (1000:Int)<(k:Int):=by omega
       have HF2:Hid (longF (l.drop (j+1))=r):=Lib.hid (by
         rw [← HF.out,HD.out]
         unfold longF
         rw [List.any_cons,← hXs,hk,decide_eq_false hL]
         rfl)
       clear hX hrg hx e1 hjl hXs HF HD
       go_wp2_with fail
       go_roundg g
       case measure=>omega
       case rel=>exact ⟨j+1,by omega,by go_num,HF2,HW⟩
set_option maxRecDepth 100000 in
set_option maxHeartbeats 8000000 in
theorem hugeexprs_step (q:Nat) (many:Int) (hm:many≤1000000) (hm0:0≤many) (lv:Nat) (hlv:lv≤1000)
   (IH:1≤lv→∀ (l:List Ex) (c:Int) (w:World) (S:Nat→Prop) (v:Value),(∀ b,S b→b<w.heap.size∧b≠q)→Rw w S (.row 4 (l.map Ex.nd)) v→Cn w q c → -9223372036854775808≤c→c≤many→Calls Tryz.prog 98 #[v,.int .i64 ((lv:Int)-1),.int .i64 many,.pointer (some ⟨q,0,none⟩)] w (OutH q w (hgEs many (lv-1) l c)))
   (l:List Ex) (c:Int) (w:World) (S:Nat→Prop) (v:Value) (hS:∀ b,S b→b<w.heap.size∧b≠q) (hr:Rw w S (.row 4 (l.map Ex.nd)) v) (hc:Cn w q c) (hc1 : -9223372036854775808≤c) (hc2:c≤many) :
   Calls Tryz.prog 98 #[v,.int .i64 (lv:Int),.int .i64 many,.pointer (some ⟨q,0,none⟩)] w (OutH q w (hgEs many lv l c)):=by
 rw [Rw] at hr
 obtain ⟨A,cp,rfl,hcp,hcpm,hr⟩:=hr
 rw [List.length_map] at hcp ⊢
 have HR:=Lib.hid hr
 have HSS:=Lib.hid hS
 have HC:=Lib.hid hc
 have HIH:=Lib.hid IH
 obtain ⟨n,hn⟩:∃ n,Hid (l.length=n):=⟨_,Lib.hid rfl⟩
 rw [hn.out] at hcp ⊢
 obtain ⟨r,hrr⟩:∃ r,Hid (hgEs many lv l c=r):=⟨_,Lib.hid rfl⟩
 rw [hrr.out]
 unfold maxLen at hcpm
 clear hr hS hc IH
 go_enter Tryz.func98,Tryz.ntmps98
 go_wp2_with fail
 go_loopg [9] n (fun g i wr=>∃ (j:Nat) (cj:Int),j+g=n∧i = .int .i64 (j:Int)∧Hid (hgEs many lv (l.drop j) cj=r)∧Hid (-9223372036854775808≤cj∧cj≤many)∧Hid (Cn wr q cj)∧Hid (Kp q w wr))
 case atStart=>exact ⟨0,c,by omega,rfl,Lib.hid (by rw [List.drop_zero]; exact hrr.out),Lib.hid ⟨hc1,hc2⟩,HC,Lib.hid (Kp.refl _ _)⟩
 case round =>
   obtain ⟨j,cj,hj,rfl,HF,HCL,HCJ,HKJ⟩:=hrel
   cases gk with
   | zero =>
     have h1:¬ (j:Int)<(n:Int):=by omega
     have HE:Hid (some cj=r):=Lib.hid (by rw [← HF.out,List.drop_eq_nil_of_le (by rw [hn.out]; omega),hgEs])
     clear HF HIH
     go_wp2_with fail
     go_ret
     exact ⟨by rw [← HE.out]; rfl,⟨_,HCJ.out,fun c' h=>by rw [← HE.out] at h; cases h; rfl⟩,HKJ.out⟩
   | succ g =>
     have h1:(j:Int)<(n:Int):=by omega
     have hjl:j<l.length:=by rw [hn.out]; omega
     obtain ⟨hcj0,hcj⟩:=HCL.out
     obtain ⟨b,o,vs,rfl,hSb,hvl,hrg,hx⟩:=HR.out.at j (Ex.nd l[j]) (by simp [hjl])
     have HD:=Lib.hid (List.drop_eq_getElem_cons hjl)
     generalize l[j]=x at *
     obtain ⟨k,s,m,ks⟩:=x
     obtain ⟨y,hv,-,-,hy⟩:=(Ex.rw k s m ks _).1 hx
     obtain ⟨A3,n3,c3,rfl⟩:=hy.rowf
     obtain ⟨X,hX⟩:∃ X,strOf s=X:=⟨_,rfl⟩
     have hXs:X.size=s.length:=by rw [← hX,strOf_size]
     rw [hX] at hv
     obtain rfl:=bx4v hv
     have hcell:∀ i u,[Value.int .u8 (k:Int),.string X,.int .i64 m,.slice A3 n3 c3][i]?=some u→wr.cell? ⟨b,o+j*4+i,none⟩=some u:=fun i u hu=>by
       have:=hrg i u hu
       rw [Nat.zero_add] at this
       exact (HKJ.out.cellq (p:=⟨b,o+j*4+i,none⟩) (HSS.out b hSb).1 (HSS.out b hSb).2).trans this
     have y1:=hcell 1 _ rfl
     have y3:=hcell 3 _ rfl
     have hbq:b≠q:=(HSS.out b hSb).2
     have hbq':q≠b:=fun e=>hbq e.symm
     have c0:=cell_of_one HCJ.out
     have f0:=free_block HCJ.out 0
     have hqr:=lt_heap HCJ.out
     have HF2:=Lib.hid (HF.out.symm.trans (by rw [HD.out,hgEs_cons]))
     have HCN:=Lib.hid (HCJ.out.set (cj+1))
     have HKN:=Lib.hid (HKJ.out.set (p:=⟨q,0,none⟩) rfl (.int .i64 (cj+1)))
     obtain ⟨z,hz⟩:∃ z,X.size=z:=⟨_,rfl⟩
     have hzs:z=s.length:=hz.symm.trans hXs
     have HY:=Lib.hid hy
     clear hrg hx hv hX hXs hvl HF HD hjl hcell hy
     by_cases hA:many<cj+1
     · have t1:many<cj+1:=by omega
       have t2:decide (many<cj+1)=true:=decide_eq_true t1
       have HE:Hid (none=r):=Lib.hid (by rw [HF2.out,hgE,if_pos (.inl hA)]; rfl)
       clear hA HF2 HIH hzs
       go_wp2_with fail
       go_ret
       exact ⟨by rw [← HE.out]; rfl,⟨_,HCN.out,fun c' h=>by rw [← HE.out] at h; cases h⟩,HKN.out⟩
     · have t1 : ¬ many<cj+1:=by omega
       have t2:decide (many<cj+1)=false:=decide_eq_false t1
       by_cases hB:lv=0
       · have HE:Hid (none=r):=Lib.hid (by rw [HF2.out,hgE,if_pos (.inr (.inl hB))]; rfl)
         subst hB
         clear HF2 HIH hzs hA
         go_wp2_with fail
         go_ret
         exact ⟨by rw [← HE.out]; rfl,⟨_,HCN.out,fun c' h=>by rw [← HE.out] at h; cases h⟩,HKN.out⟩
       · have t3:¬ (lv:Int)<1:=by omega
         have t4:decide ((lv:Int)<1)=false:=decide_eq_false t3
         by_cases hL:1000<z
         · have HE:Hid (none=r):=Lib.hid (by rw [HF2.out,hgE,if_pos (.inr (.inr (by omega)))]; rfl)
           have t5:(1000:Int)<(z:Int):=by omega
           have t6:decide ((1000:Int)<(z:Int))=true:=decide_eq_true t5
           clear HF2 HIH hzs hA hB
           go_wp2_with fail
           go_ret
           exact ⟨by rw [← HE.out]; rfl,⟨_,HCN.out,fun c' h=>by rw [← HE.out] at h; cases h⟩,HKN.out⟩
         · have t5:¬ (1000:Int)<(z:Int):=by omega
           have t6:decide ((1000:Int)<(z:Int))=false:=decide_eq_false t5
           obtain ⟨r2,hr2⟩:∃ r2,Hid (hgEs many (lv-1) ks (cj+1)=r2):=⟨_,Lib.hid rfl⟩
           have HF3:Hid (r=nxH many lv (l.drop (j+1)) r2):=Lib.hid (by rw [HF2.out,hgE,if_neg (by omega),hr2.out])
           have HCC:Hid (∀ c4,r2=some c4 → -9223372036854775808≤c4∧c4≤many):=Lib.hid (fun c4 h=>by
             have h5:=((hgE_ok _).2 ks (lv-1) (cj+1) c4 (Nat.lt_succ_self _) (hr2.out.trans h))
             omega)
           have HI:=Lib.hid (HIH.out (by omega) ks (cj+1) _ S _ (fun b hb=>⟨Nat.lt_of_lt_of_le (HSS.out b hb).1 HKN.out.size,(HSS.out b hb).2⟩) (Rw.keep (fun p hp=>HKN.out.cellq (HSS.out _ hp).1 (HSS.out _ hp).2) (fun _ h=>h) _ _ HY.out) HCN.out (by omega) (by omega))
           rw [hr2.out] at HI
           clear HF2 HIH hzs hA hB hr2
           cases hr3:r2 with
           | none =>
             have HE:Hid (none=r):=Lib.hid (by rw [HF3.out,hr3]; rfl)
             rw [hr3] at HI
             clear hr3 HF3 HCC
             go_wp2_with (first
               | (go_at_call 98
                  refine HI.out.mono ?_
                  rintro e w3 ⟨rfl,⟨z3,hz3,-⟩,hk3⟩
                  have HZ:=Lib.hid hz3
                  have HK3:=Lib.hid (HKN.out.trans hk3)
                  clear hz3 hk3)
               | (fail))
             go_ret
             exact ⟨by rw [← HE.out]; rfl,⟨_,HZ.out,fun c' h=>by rw [← HE.out] at h; cases h⟩,HK3.out⟩
           | some c4 =>
             have HF4:Hid (hgEs many lv (l.drop (j+1)) c4=r):=Lib.hid (by rw [HF3.out,hr3]; rfl)
             have HC4:Hid (-9223372036854775808≤c4∧c4≤many):=Lib.hid (HCC.out c4 hr3)
             rw [hr3] at HI
             clear hr3 HF3 HCC
             go_wp2_with (first
               | (go_at_call 98
                  refine HI.out.mono ?_
                  rintro e w3 ⟨rfl,⟨z3,hz3,hz4⟩,hk3⟩
                  have HZ:=Lib.hid hz3
                  have HZ2:=Lib.hid hz4
                  have HK3:=Lib.hid (HKN.out.trans hk3)
                  clear hz3 hz4 hk3)
               | (fail))
             go_roundg g
             case measure=>omega
             case rel=>exact ⟨j+1,c4,by omega,by go_num,HF4,HC4,Lib.hid (by rw [← HZ2.out c4 rfl]; exact HZ.out),HK3⟩
theorem hugeexprs_any (q:Nat) (many:Int) (hm:many≤1000000) (hm0:0≤many):∀ (lv:Nat),lv≤1000→∀ (l:List Ex) (c:Int) (w:World) (S:Nat→Prop) (v:Value),(∀ b,S b→b<w.heap.size∧b≠q)→Rw w S (.row 4 (l.map Ex.nd)) v→Cn w q c → -9223372036854775808≤c→c≤many→Calls Tryz.prog 98 #[v,.int .i64 (lv:Int),.int .i64 many,.pointer (some ⟨q,0,none⟩)] w (OutH q w (hgEs many lv l c))
 | 0,hl=>fun l c w S v hS hr hc hc1 hc2=>hugeexprs_step q many hm hm0 0 hl (fun h=>absurd h (by omega)) l c w S v hS hr hc hc1 hc2
 | lv+1,hl=>fun l c w S v hS hr hc hc1 hc2=>hugeexprs_step q many hm hm0 (lv+1) hl (fun _ l c w S v hS hr hc hc1 hc2=>by
     have:=hugeexprs_any q many hm hm0 lv (by omega) l c w S v hS hr hc hc1 hc2
     rw [show (((lv+1:Nat)):Int)-1=(lv:Int) by omega]
     exact this) l c w S v hS hr hc hc1 hc2
end Go.Proofs.YtcmopnkldplngabGreatDoor
namespace Go.Proofs.YtcmopnkldplngabGreatDoor
open Go.RowKit
set_option linter.unusedVariables false
def nxHY (many:Int) (lv:Nat) (el:List Sm):Option Int→Option Int
 | none=>none
 | some n2=>hgSs many lv el n2
def nxHX (many:Int) (lv:Nat) (bd el:List Sm):Option Int→Option Int
 | none=>none
 | some n1=>nxHY many lv el (hgSs many lv bd n1)
theorem hgS_eq (many:Int) (lv:Nat) (k:Nat) (s:List Nat) (xs:List Ex) (bd el:List Sm) (ln:Int) (n:Int) (h:¬ (many<n+1∨lv=0∨1000<s.length)):hgS many lv (.mk k s xs bd el ln) n=nxHX many (lv-1) bd el (hgEs many (lv-1) xs (n+1)):=by
 rw [hgS,if_neg h]
 cases hgEs many (lv-1) xs (n+1) with
 | none=>rfl
 | some n1 =>
   dsimp only [nxHX]
   cases hgSs many (lv-1) bd n1 <;> rfl
set_option maxRecDepth 100000 in
set_option maxHeartbeats 8000000 in
theorem hugestmts_step (q:Nat) (many:Int) (hm:many≤1000000) (hm0:0≤many) (lv:Nat) (hlv:lv≤1000)
   (IH:1≤lv→∀ (l:List Sm) (c:Int) (w:World) (S:Nat→Prop) (v:Value),(∀ b,S b→b<w.heap.size∧b≠q)→Rw w S (.row 6 (l.map Sm.nd)) v→Cn w q c → -9223372036854775808≤c→c≤many→Calls Tryz.prog 57 #[v,.int .i64 ((lv:Int)-1),.int .i64 many,.pointer (some ⟨q,0,none⟩)] w (OutH q w (hgSs many (lv-1) l c)))
   (l:List Sm) (c:Int) (w:World) (S:Nat→Prop) (v:Value) (hS:∀ b,S b→b<w.heap.size∧b≠q) (hr:Rw w S (.row 6 (l.map Sm.nd)) v) (hc:Cn w q c) (hc1 : -9223372036854775808≤c) (hc2:c≤many) :
   Calls Tryz.prog 57 #[v,.int .i64 (lv:Int),.int .i64 many,.pointer (some ⟨q,0,none⟩)] w (OutH q w (hgSs many lv l c)):=by
 rw [Rw] at hr
 obtain ⟨A,cp,rfl,hcp,hcpm,hr⟩:=hr
 rw [List.length_map] at hcp ⊢
 have HR:=Lib.hid hr
 have HSS:=Lib.hid hS
 have HC:=Lib.hid hc
 have HIH:=Lib.hid IH
 obtain ⟨n,hn⟩:∃ n,Hid (l.length=n):=⟨_,Lib.hid rfl⟩
 rw [hn.out] at hcp ⊢
 obtain ⟨r,hrr⟩:∃ r,Hid (hgSs many lv l c=r):=⟨_,Lib.hid rfl⟩
 rw [hrr.out]
 unfold maxLen at hcpm
 clear hr hS hc IH
 go_enter Tryz.func57,Tryz.ntmps57
 go_wp2_with fail
 go_loopg [9] n (fun g i wr=>∃ (j:Nat) (cj:Int),j+g=n∧i = .int .i64 (j:Int)∧Hid (hgSs many lv (l.drop j) cj=r)∧Hid (-9223372036854775808≤cj∧cj≤many)∧Hid (Cn wr q cj)∧Hid (Kp q w wr))
 case atStart=>exact ⟨0,c,by omega,rfl,Lib.hid (by rw [List.drop_zero]; exact hrr.out),Lib.hid ⟨hc1,hc2⟩,HC,Lib.hid (Kp.refl _ _)⟩
 case round =>
   obtain ⟨j,cj,hj,rfl,HF,HCL,HCJ,HKJ⟩:=hrel
   cases gk with
   | zero =>
     have h1:¬ (j:Int)<(n:Int):=by omega
     have HE:Hid (some cj=r):=Lib.hid (by rw [← HF.out,List.drop_eq_nil_of_le (by rw [hn.out]; omega),hgSs])
     clear HF HIH
     go_wp2_with fail
     go_ret
     exact ⟨by rw [← HE.out]; rfl,⟨_,HCJ.out,fun c' h=>by rw [← HE.out] at h; cases h; rfl⟩,HKJ.out⟩
   | succ g =>
     have h1:(j:Int)<(n:Int):=by omega
     have hjl:j<l.length:=by rw [hn.out]; omega
     obtain ⟨hcj0,hcj⟩:=HCL.out
     obtain ⟨b,o,vs,rfl,hSb,hvl,hrg,hx⟩:=HR.out.at j (Sm.nd l[j]) (by simp [hjl])
     have HD:=Lib.hid (List.drop_eq_getElem_cons hjl)
     generalize l[j]=x at *
     obtain ⟨k,s,xs,bd,el,ln⟩:=x
     obtain ⟨u2,u3,u4,hv,-,-,r2,r3,r4⟩:=(Sm.rw k s xs bd el ln _).1 hx
     obtain ⟨A2,n2,c2,rfl⟩:=r2.rowf
     obtain ⟨A3,n3,c3,rfl⟩:=r3.rowf
     obtain ⟨A4,n4,c4,rfl⟩:=r4.rowf
     obtain ⟨X,hX⟩:∃ X,strOf s=X:=⟨_,rfl⟩
     have hXs:X.size=s.length:=by rw [← hX,strOf_size]
     rw [hX] at hv
     obtain rfl:=bx6v hv
     have hbs:=HSS.out b hSb
     have HCE:Hid (∀ w',Kp q w w'→w'.cell? ⟨b,o+j*6,none⟩=some (.int .u8 (k:Int))∧w'.cell? ⟨b,o+j*6+1,none⟩=some (.string X)∧w'.cell? ⟨b,o+j*6+2,none⟩=some (.slice A2 n2 c2)∧w'.cell? ⟨b,o+j*6+3,none⟩=some (.slice A3 n3 c3)∧w'.cell? ⟨b,o+j*6+4,none⟩=some (.slice A4 n4 c4)∧w'.cell? ⟨b,o+j*6+5,none⟩=some (.int .i64 ln)):=Lib.hid fun w' hk =>
       six_cells (fun i u hu=>by
         have:=hrg i u hu
         rw [Nat.zero_add] at this
         exact (hk.cellq (p:=⟨b,o+j*6+i,none⟩) hbs.1 hbs.2).trans this)
     have hup:∀ w',Kp q w w'→∀ b,S b→b<w'.heap.size∧b≠q:=fun w' hk b hb=>⟨Nat.lt_of_lt_of_le (HSS.out b hb).1 hk.size,(HSS.out b hb).2⟩
     have HEX:=Lib.hid (fun (h0:1≤lv) w' (hk:Kp q w w') (cc:Int) (h':Cn w' q cc) (hl0 : -9223372036854775808≤cc) (hl:cc≤many)=>by
       have:=hugeexprs_any q many hm hm0 (lv-1) (by omega) xs cc w' S (.slice A2 n2 c2) (hup w' hk) (Rw.keep (fun p hp=>hk.cellq (HSS.out _ hp).1 (HSS.out _ hp).2) (fun _ h=>h) _ _ r2) h' hl0 hl
       rw [show (((lv-1:Nat)):Int)=(lv:Int)-1 by omega] at this
       exact this)
     have HBD:=Lib.hid (fun (h0:1≤lv) w' (hk:Kp q w w') (cc:Int) (h':Cn w' q cc) (hl0 : -9223372036854775808≤cc) (hl:cc≤many)=>HIH.out h0 bd cc w' S (.slice A3 n3 c3) (hup w' hk) (Rw.keep (fun p hp=>hk.cellq (HSS.out _ hp).1 (HSS.out _ hp).2) (fun _ h=>h) _ _ r3) h' hl0 hl)
     have HEL:=Lib.hid (fun (h0:1≤lv) w' (hk:Kp q w w') (cc:Int) (h':Cn w' q cc) (hl0 : -9223372036854775808≤cc) (hl:cc≤many)=>HIH.out h0 el cc w' S (.slice A4 n4 c4) (hup w' hk) (Rw.keep (fun p hp=>hk.cellq (HSS.out _ hp).1 (HSS.out _ hp).2) (fun _ h=>h) _ _ r4) h' hl0 hl)
     obtain ⟨y0,y1,y2,y3,y4,y5⟩:=HCE.out wr HKJ.out
     have hbq:b≠q:=hbs.2
     have hbq':q≠b:=fun e=>hbq e.symm
     have c0:=cell_of_one HCJ.out
     have f0:=free_block HCJ.out 0
     have hqr:=lt_heap HCJ.out
     have HF2:=Lib.hid (HF.out.symm.trans (by rw [HD.out,hgSs_cons]))
     have HCN:=Lib.hid (HCJ.out.set (cj+1))
     have HKN:=Lib.hid (HKJ.out.set (p:=⟨q,0,none⟩) rfl (.int .i64 (cj+1)))
     obtain ⟨z,hz⟩:∃ z,X.size=z:=⟨_,rfl⟩
     have hzs:z=s.length:=hz.symm.trans hXs
     clear hrg hx hv hX hXs hvl HF HD hjl r2 r3 r4 hup hbs HIH
     by_cases hA:many<cj+1
     · have t1:many<cj+1:=by omega
       have t2:decide (many<cj+1)=true:=decide_eq_true t1
       have HE:Hid (none=r):=Lib.hid (by rw [HF2.out,hgS,if_pos (.inl hA)]; rfl)
       clear hA HF2 hzs
       go_wp2_with fail
       go_ret
       exact ⟨by rw [← HE.out]; rfl,⟨_,HCN.out,fun c' h=>by rw [← HE.out] at h; cases h⟩,HKN.out⟩
     · have t1 : ¬ many<cj+1:=by omega
       have t2:decide (many<cj+1)=false:=decide_eq_false t1
       by_cases hB:lv=0
       · have HE:Hid (none=r):=Lib.hid (by rw [HF2.out,hgS,if_pos (.inr (.inl hB))]; rfl)
         subst hB
         clear HF2 hzs hA
         go_wp2_with fail
         go_ret
         exact ⟨by rw [← HE.out]; rfl,⟨_,HCN.out,fun c' h=>by rw [← HE.out] at h; cases h⟩,HKN.out⟩
       · have t3 : ¬ (lv:Int)<1:=by omega
         have t4:decide ((lv:Int)<1)=false:=decide_eq_false t3
         by_cases hL:1000<z
         · have HE:Hid (none=r):=Lib.hid (by rw [HF2.out,hgS,if_pos (.inr (.inr (by omega)))]; rfl)
           have t5:(1000:Int)<(z:Int):=by omega
           have t6:decide ((1000:Int)<(z:Int))=true:=decide_eq_true t5
           clear HF2 hzs hA hB
           go_wp2_with fail
           go_ret
           exact ⟨by rw [← HE.out]; rfl,⟨_,HCN.out,fun c' h=>by rw [← HE.out] at h; cases h⟩,HKN.out⟩
         · have t5 : ¬ (1000:Int)<(z:Int):=by omega
           have t6:decide ((1000:Int)<(z:Int))=false:=decide_eq_false t5
           have hlv1:1≤lv:=by omega
           have HS1:Hid (hgS many lv (.mk k s xs bd el ln) cj=nxHX many (lv-1) bd el (hgEs many (lv-1) xs (cj+1))):=Lib.hid (hgS_eq many lv k s xs bd el ln cj (by omega))
           have hcj1:cj+1≤many:=by omega
           have hcj2 : -9223372036854775808≤cj+1:=by omega
           have HI1:=Lib.hid (HEX.out hlv1 _ HKN.out (cj+1) HCN.out hcj2 hcj1)
           obtain ⟨r1,hr1⟩:∃ r1,hgEs many (lv-1) xs (cj+1)=r1:=⟨_,rfl⟩
           rw [hr1] at HI1 HS1
           have hb1:∀ n1,r1=some n1 → -9223372036854775808≤n1∧n1≤many:=fun n1 h=>by
             have h5:=((hgE_ok _).2 xs (lv-1) (cj+1) n1 (Nat.lt_succ_self _) (hr1.trans h))
             omega
           have HLV:=Lib.hid hlv1
           clear hr1 hzs hA hB hlv1 hcj1
           cases r1 with
           | none =>
             have HE:Hid (none=r):=Lib.hid (by rw [HF2.out,HS1.out]; rfl)
             clear HF2 HS1 hb1
             go_wp2_with (first
               | (go_at_call 98
                  refine HI1.out.mono ?_
                  rintro e w3 ⟨rfl,⟨z3,hz3,hz3'⟩,hk3⟩
                  have HZ3:=Lib.hid hz3
                  have HE3:=Lib.hid hz3'
                  have HK3:=Lib.hid (HKN.out.trans hk3)
                  clear hz3 hz3' hk3 y0 y1 y2 y3 y4 y5
                  obtain ⟨y0,y1,y2,y3,y4,y5⟩:=HCE.out w3 HK3.out)
               | (fail))
             go_ret
             exact ⟨by rw [← HE.out]; rfl,⟨_,HZ3.out,fun c' h=>by rw [← HE.out] at h; cases h⟩,HK3.out⟩
           | some m1 =>
             have HM1:=Lib.hid (hb1 m1 rfl)
             obtain ⟨r2,hr2⟩:∃ r2,hgSs many (lv-1) bd m1=r2:=⟨_,rfl⟩
             have HS2:Hid (hgS many lv (.mk k s xs bd el ln) cj=nxHY many (lv-1) el r2):=Lib.hid (by rw [HS1.out,← hr2]; rfl)
             have hb2:∀ n2,r2=some n2 → -9223372036854775808≤n2∧n2≤many:=fun n2 h=>by
               have h5:=((hgS_ok _).2 bd (lv-1) m1 n2 (Nat.lt_succ_self _) (hr2.trans h))
               have h6:=HM1.out
               omega
             have HR2:=Lib.hid hr2
             clear hr2 HS1 hb1
             cases r2 with
             | none =>
               have HE:Hid (none=r):=Lib.hid (by rw [HF2.out,HS2.out]; rfl)
               clear HF2 HS2 hb2
               go_wp2_with (first
                 | (go_at_call 98
                    refine HI1.out.mono ?_
                    rintro e w3 ⟨rfl,⟨z3,hz3,hz3'⟩,hk3⟩
                    have HZ3:=Lib.hid hz3
                    have HE3:=Lib.hid hz3'
                    have HK3:=Lib.hid (HKN.out.trans hk3)
                    clear hz3 hz3' hk3 y0 y1 y2 y3 y4 y5
                    obtain ⟨y0,y1,y2,y3,y4,y5⟩:=HCE.out w3 HK3.out)
                 | (go_at_call 57
                    (with_reducible show Calls _ _ #[.slice A3 n3 c3, _, _, _] _ _)
                    refine (HBD.out HLV.out w3 HK3.out m1 (by have:=HE3.out m1 rfl; subst this; exact HZ3.out) HM1.out.1 HM1.out.2).mono ?_
                    rw [HR2.out]
                    rintro e w4 ⟨rfl,⟨z4,hz4,hz4'⟩,hk4⟩
                    have HZ4:=Lib.hid hz4
                    have HE4:=Lib.hid hz4'
                    have HK4:=Lib.hid (HK3.out.trans hk4)
                    clear hz4 hz4' hk4 y0 y1 y2 y3 y4 y5
                    obtain ⟨y0,y1,y2,y3,y4,y5⟩:=HCE.out w4 HK4.out)
                 | (fail))
               go_ret
               exact ⟨by rw [← HE.out]; rfl,⟨_,HZ4.out,fun c' h=>by rw [← HE.out] at h; cases h⟩,HK4.out⟩
             | some m2 =>
               have HM2:=Lib.hid (hb2 m2 rfl)
               obtain ⟨r3,hr3⟩:∃ r3,hgSs many (lv-1) el m2=r3:=⟨_,rfl⟩
               have HS3:Hid (hgS many lv (.mk k s xs bd el ln) cj=r3):=Lib.hid (by rw [HS2.out]; exact hr3)
               have hb3:∀ n3,r3=some n3 → -9223372036854775808≤n3∧n3≤many:=fun n3 h=>by
                 have h5:=((hgS_ok _).2 el (lv-1) m2 n3 (Nat.lt_succ_self _) (hr3.trans h))
                 have h6:=HM2.out
                 omega
               have HR3:=Lib.hid hr3
               clear hr3 HS2 hb2
               cases r3 with
               | none =>
                 have HE:Hid (none=r):=Lib.hid (by rw [HF2.out,HS3.out]; rfl)
                 clear HF2 HS3 hb3
                 go_wp2_with (first
                   | (go_at_call 98
                      refine HI1.out.mono ?_
                      rintro e w3 ⟨rfl,⟨z3,hz3,hz3'⟩,hk3⟩
                      have HZ3:=Lib.hid hz3
                      have HE3:=Lib.hid hz3'
                      have HK3:=Lib.hid (HKN.out.trans hk3)
                      clear hz3 hz3' hk3 y0 y1 y2 y3 y4 y5
                      obtain ⟨y0,y1,y2,y3,y4,y5⟩:=HCE.out w3 HK3.out)
                   | (go_at_call 57
                      (with_reducible show Calls _ _ #[.slice A3 n3 c3, _, _, _] _ _)
                      refine (HBD.out HLV.out w3 HK3.out m1 (by have:=HE3.out m1 rfl; subst this; exact HZ3.out) HM1.out.1 HM1.out.2).mono ?_
                      rw [HR2.out]
                      rintro e w4 ⟨rfl,⟨z4,hz4,hz4'⟩,hk4⟩
                      have HZ4:=Lib.hid hz4
                      have HE4:=Lib.hid hz4'
                      have HK4:=Lib.hid (HK3.out.trans hk4)
                      clear hz4 hz4' hk4 y0 y1 y2 y3 y4 y5
                      obtain ⟨y0,y1,y2,y3,y4,y5⟩:=HCE.out w4 HK4.out)
                   | (go_at_call 57
                      (with_reducible show Calls _ _ #[.slice A4 n4 c4, _, _, _] _ _)
                      refine (HEL.out HLV.out w4 HK4.out m2 (by have:=HE4.out m2 rfl; subst this; exact HZ4.out) HM2.out.1 HM2.out.2).mono ?_
                      rw [HR3.out]
                      rintro e w5 ⟨rfl,⟨z5,hz5,hz5'⟩,hk5⟩
                      have HZ5:=Lib.hid hz5
                      have HE5:=Lib.hid hz5'
                      have HK5:=Lib.hid (HK4.out.trans hk5)
                      clear hz5 hz5' hk5)
                   | (fail))
                 go_ret
                 exact ⟨by rw [← HE.out]; rfl,⟨_,HZ5.out,fun c' h=>by rw [← HE.out] at h; cases h⟩,HK5.out⟩
               | some m3 =>
                 have HM3:=Lib.hid (hb3 m3 rfl)
                 have HF4:Hid (hgSs many lv (l.drop (j+1)) m3=r):=Lib.hid (by rw [HF2.out,HS3.out]; rfl)
                 clear HF2 HS3 hb3
                 go_wp2_with (first
                   | (go_at_call 98
                      refine HI1.out.mono ?_
                      rintro e w3 ⟨rfl,⟨z3,hz3,hz3'⟩,hk3⟩
                      have HZ3:=Lib.hid hz3
                      have HE3:=Lib.hid hz3'
                      have HK3:=Lib.hid (HKN.out.trans hk3)
                      clear hz3 hz3' hk3 y0 y1 y2 y3 y4 y5
                      obtain ⟨y0,y1,y2,y3,y4,y5⟩:=HCE.out w3 HK3.out)
                   | (go_at_call 57
                      (with_reducible show Calls _ _ #[.slice A3 n3 c3, _, _, _] _ _)
                      refine (HBD.out HLV.out w3 HK3.out m1 (by have:=HE3.out m1 rfl; subst this; exact HZ3.out) HM1.out.1 HM1.out.2).mono ?_
                      rw [HR2.out]
                      rintro e w4 ⟨rfl,⟨z4,hz4,hz4'⟩,hk4⟩
                      have HZ4:=Lib.hid hz4
                      have HE4:=Lib.hid hz4'
                      have HK4:=Lib.hid (HK3.out.trans hk4)
                      clear hz4 hz4' hk4 y0 y1 y2 y3 y4 y5
                      obtain ⟨y0,y1,y2,y3,y4,y5⟩:=HCE.out w4 HK4.out)
                   | (go_at_call 57
                      (with_reducible show Calls _ _ #[.slice A4 n4 c4, _, _, _] _ _)
                      refine (HEL.out HLV.out w4 HK4.out m2 (by have:=HE4.out m2 rfl; subst this; exact HZ4.out) HM2.out.1 HM2.out.2).mono ?_
                      rw [HR3.out]
                      rintro e w5 ⟨rfl,⟨z5,hz5,hz5'⟩,hk5⟩
                      have HZ5:=Lib.hid hz5
                      have HE5:=Lib.hid hz5'
                      have HK5:=Lib.hid (HK4.out.trans hk5)
                      clear hz5 hz5' hk5)
                   | (fail))
                 go_roundg g
                 case measure=>omega
                 case rel=>exact ⟨j+1,m3,by omega,by go_num,HF4,HM3,Lib.hid (by rw [← HE5.out m3 rfl]; exact HZ5.out),HK5⟩
theorem hugestmts_any (q:Nat) (many:Int) (hm:many≤1000000) (hm0:0≤many):∀ (lv:Nat),lv≤1000→∀ (l:List Sm) (c:Int) (w:World) (S:Nat→Prop) (v:Value),(∀ b,S b→b<w.heap.size∧b≠q)→Rw w S (.row 6 (l.map Sm.nd)) v→Cn w q c → -9223372036854775808≤c→c≤many→Calls Tryz.prog 57 #[v,.int .i64 (lv:Int),.int .i64 many,.pointer (some ⟨q,0,none⟩)] w (OutH q w (hgSs many lv l c))
 | 0,hl=>fun l c w S v hS hr hc hc1 hc2=>hugestmts_step q many hm hm0 0 hl (fun h=>absurd h (by omega)) l c w S v hS hr hc hc1 hc2
 | lv+1,hl=>fun l c w S v hS hr hc hc1 hc2=>hugestmts_step q many hm hm0 (lv+1) hl (fun _ l c w S v hS hr hc hc1 hc2=>by
     have:=hugestmts_any q many hm hm0 lv (by omega) l c w S v hS hr hc hc1 hc2
     rw [show (((lv+1:Nat)):Int)-1=(lv:Int) by omega]
     exact this) l c w S v hS hr hc hc1 hc2
end Go.Proofs.YtcmopnkldplngabGreatDoor
namespace Go.Proofs.YtcmopnkldplngabGreatDoor
open Go.RowKit
set_option linter.unusedVariables false
set_option maxRecDepth 100000 in
set_option maxHeartbeats 8000000 in
theorem hugebody_any (q:Nat) (many:Int) (hm:many≤1000000) (hm0:0≤many) (lv:Nat) (hlv:lv≤1000) (b:Bd) (c:Int) (w:World) (S:Nat→Prop) (v:Value) (hS:∀ b,S b→b<w.heap.size∧b≠q) (hr:Rw w S b.nd v) (hc:Cn w q c) :
   Calls Tryz.prog 23 #[v,.int .i64 (lv:Int),.int .i64 many,.pointer (some ⟨q,0,none⟩)] w (OutH q w (hgB many lv b c)):=by
 obtain ⟨nm,ps,st,ln⟩:=b
 obtain ⟨y,z,rfl,-,-,hy,hz⟩:=(hd_rw nm ps 6 _ ln v).1 hr
 obtain ⟨A2,n2,c2,rfl⟩:=hz.rowf
 have hy0:=hy
 rw [Rw] at hy0
 obtain ⟨A1,c1,rfl,hc1,hcm1,-⟩:=hy0
 rw [List.length_map] at hc1 hy ⊢
 obtain ⟨n1,hn1⟩:∃ n,Hid (ps.length=n):=⟨_,Lib.hid rfl⟩
 rw [hn1.out] at hc1 hy ⊢
 unfold maxLen at hcm1
 obtain ⟨X,hX⟩:∃ X,strOf nm=X:=⟨_,rfl⟩
 have hXs:X.size=nm.length:=by rw [← hX,strOf_size]
 rw [hX]
 obtain ⟨r,hrr⟩:∃ r,Hid (hgB many lv ⟨nm,ps,st,ln⟩ c=r):=⟨_,Lib.hid rfl⟩
 rw [hrr.out]
 obtain ⟨k,hk⟩:∃ k,X.size=k:=⟨_,rfl⟩
 obtain ⟨m1,hm1⟩:∃ m,wi (c+1)=m:=⟨_,rfl⟩
 obtain ⟨m,hmm⟩:∃ m,wi (m1+(n1:Int))=m:=⟨_,rfl⟩
 have hml:=wi_lo (m1+(n1:Int))
 rw [hmm] at hml
 obtain ⟨hml0,hml1⟩:=hml
 have HF:Hid ((if many<m∨1000<k∨longF ps=true then none else hgSs many lv st m)=r):=Lib.hid (by
   rw [← hrr.out]
   unfold hgB
   dsimp only
   rw [hn1.out,hm1,hmm,← hk,hXs])
 have HY:=Lib.hid hy
 have HZ:=Lib.hid hz
 have HSS:=Lib.hid hS
 have HC:=Lib.hid hc
 have hqw:=lt_heap hc
 have hqn:¬ w.heap.size=q:=by omega
 have HQ:=Lib.hid (heap_new w (.cells #[.string X,.slice A1 n1 c1,.slice A2 n2 c2,.int .i64 ln] 87))
 have HC1:=Lib.hid (show Cn (w.alloc (.cells #[.string X,.slice A1 n1 c1,.slice A2 n2 c2,.int .i64 ln] 87)) q c from heap_old hc _)
 have HK1:=Lib.hid ((Kp.refl q w).alloc (.cells #[.string X,.slice A1 n1 c1,.slice A2 n2 c2,.int .i64 ln] 87))
 obtain ⟨⟨b0,b1,b2,b3⟩,-⟩:=box4f HQ.out
 have c0:=cell_of_one HC1.out
 have f0:=free_block HC1.out 0
 have w1:IntKind.i64.wrap (c+1)=m1:=hm1
 have w2:IntKind.i64.wrap (m1+(n1:Int))=m:=hmm
 clear hr hy hz hS hc hXs hX hrr hm1 hmm
 go_enter Tryz.func23,Tryz.ntmps23
 go_wp2_with fail
 go_region
 obtain ⟨W1,hW1⟩:∃ W,Hid (((w.setCell ⟨q,0,none⟩ (.int .i64 m)).alloc (.cells #[.string X,.slice A1 n1 c1,.slice A2 n2 c2,.int .i64 ln] 87)).drew=W):=⟨_,Lib.hid rfl⟩
 have HC2:Hid (Cn W1 q m):=Lib.hid (by rw [← hW1.out]; exact heap_old (HC.out.set m) _)
 have HK2:Hid (Kp q w W1):=Lib.hid (by rw [← hW1.out]; exact (((Kp.refl q w).set (p:=⟨q,0,none⟩) rfl (.int .i64 m)).alloc _).drew)
 have HQ2:Hid (W1.heap[w.heap.size]?=some (.cells #[.string X,.slice A1 n1 c1,.slice A2 n2 c2,.int .i64 ln] 87 (0,0))):=Lib.hid (by
   rw [← hW1.out]
   have:=heap_new (w.setCell ⟨q,0,none⟩ (.int .i64 m)) (.cells #[.string X,.slice A1 n1 c1,.slice A2 n2 c2,.int .i64 ln] 87)
   rw [show (w.setCell ⟨q,0,none⟩ (.int .i64 m)).heap.size=w.heap.size by simp [World.setCell]] at this
   exact this)
 rw [hW1.out]
 have HLG:=Lib.hid (long_any ps W1 S (.slice A1 n1 c1) (Rw.keep (fun p hp=>HK2.out.cellq (HSS.out _ hp).1 (HSS.out _ hp).2) (fun _ h=>h) _ _ HY.out))
 have HST:=Lib.hid (fun (h0:m≤many)=>hugestmts_any q many hm hm0 lv hlv st m W1 S (.slice A2 n2 c2) (fun b hb=>⟨Nat.lt_of_lt_of_le (HSS.out b hb).1 HK2.out.size,(HSS.out b hb).2⟩) (Rw.keep (fun p hp=>HK2.out.cellq (HSS.out _ hp).1 (HSS.out _ hp).2) (fun _ h=>h) _ _ HZ.out) HC2.out hml0 h0)
 clear b0 b1 b2 b3 c0 f0 hW1
 obtain ⟨⟨b0,b1,b2,b3⟩,-⟩:=box4f HQ2.out
 have c0:=cell_of_one HC2.out
 obtain ⟨lg,hlg⟩:∃ lg,Hid (longF ps=lg):=⟨_,Lib.hid rfl⟩
 rw [hlg.out] at HF HLG
 by_cases hA:many<m
 · have t1:decide (many<m)=true:=decide_eq_true hA
   have t2:decide (m > many)=true:=decide_eq_true hA
   have HE:Hid (none=r):=Lib.hid (by rw [← HF.out,if_pos (.inl hA)])
   clear HF
   go_wp2_with fail
   go_ret
   exact ⟨by rw [← HE.out]; rfl,⟨_,HC2.out,fun c' h=>by rw [← HE.out] at h; cases h⟩,HK2.out⟩
 · have t1:decide (many<m)=false:=decide_eq_false hA
   have t2:decide (m > many)=false:=decide_eq_false hA
   by_cases hL:1000<k
   · have t3:(1000:Int)<(k:Int):=by omega
     have t4:decide ((1000:Int)<(k:Int))=true:=decide_eq_true t3
     have HE:Hid (none=r):=Lib.hid (by rw [← HF.out,if_pos (.inr (.inl hL))])
     clear HF
     go_wp2_with fail
     go_ret
     exact ⟨by rw [← HE.out]; rfl,⟨_,HC2.out,fun c' h=>by rw [← HE.out] at h; cases h⟩,HK2.out⟩
   · have t3:¬ (1000:Int)<(k:Int):=by omega
     have t4:decide ((1000:Int)<(k:Int))=false:=decide_eq_false t3
     cases lg with
     | true =>
       have HE:Hid (none=r):=Lib.hid (by rw [← HF.out,if_pos (.inr (.inr rfl))])
       clear HF HST
       go_wp2_with (first
         | (go_at_call 24
            refine HLG.out.mono ?_
            rintro e w1 ⟨rfl,rfl⟩)
         | (fail))
       go_ret
       exact ⟨by rw [← HE.out]; rfl,⟨_,HC2.out,fun c' h=>by rw [← HE.out] at h; cases h⟩,HK2.out⟩
     | false =>
       have HE:Hid (hgSs many lv st m=r):=Lib.hid (by rw [← HF.out,if_neg (by rintro (h | h | h); exact hA h; exact hL h; cases h)])
       have HS2:=Lib.hid (HST.out (by omega))
       rw [HE.out] at HS2
       clear HF HST
       go_wp2_with (first
         | (go_at_call 24
            refine HLG.out.mono ?_
            rintro e w1 ⟨rfl,rfl⟩)
         | (go_at_call 57
            refine HS2.out.mono ?_
            rintro e w3 ⟨rfl,hz3,hk3⟩
            have HZ3:=Lib.hid hz3
            have HK3:=Lib.hid (HK2.out.trans hk3)
            clear hz3 hk3)
         | (fail))
       go_ret
       exact ⟨rfl,HZ3.out,HK3.out⟩
end Go.Proofs.YtcmopnkldplngabGreatDoor
namespace Go.Proofs.YtcmopnkldplngabGreatDoor
open Go.RowKit
set_option linter.unusedVariables false
theorem bx2h {w:World} {b:Nat} {v0 v1:Value} {t:TypeId} {x:Nat × Nat} (h:w.heap[b]?=some (.cells #[v0,v1] t x)):w.cell? ⟨b,0,none⟩=some v0∧w.cell? ⟨b,1,none⟩=some v1:=⟨by simp [World.cell?,h],by simp [World.cell?,h]⟩
def HgSt (q:Nat) (f:Int→Option Int) (R:Option Int) (bad:Bool) (w:World):Prop:=∃ z,Cn w q z∧((bad=true∧R=none)∨(bad=false∧f z=R))
def nxHB (many:Int) (lv:Nat) (l:List Bd):Option Int→Option Int
 | none=>none
 | some c=>hgBs many lv l c
theorem hgBs_cons (many:Int) (lv:Nat) (x:Bd) (l:List Bd) (c:Int):hgBs many lv (x :: l) c=nxHB many lv l (hgB many lv x c):=by
 rw [hgBs]
 cases hgB many lv x c <;> rfl
def nxHRl (many:Int) (lv:Nat) (l:List Rl):Option Int→Option Int
 | none=>none
 | some c=>hgRs many lv l c
theorem hgRs_cons (many:Int) (lv:Nat) (x:Rl) (l:List Rl) (c:Int):hgRs many lv (x :: l) c=nxHRl many lv l (hgR many lv x c):=by
 rw [hgRs]
 cases hgR many lv x c <;> rfl
theorem HgSt.next {q:Nat} {w w':World} {r:Option Int} {f:Int→Option Int} {R:Option Int} {f0:Option Int→Option Int} (h0:f0 none=none) (hs:∀ c,f0 (some c)=f c) (h:OutH q w r (.returned (.bool r.isNone)) w') (hR:f0 r=R):HgSt q f R r.isNone w':=by
 obtain ⟨-,⟨z,hz,hz2⟩,-⟩:=h
 refine ⟨z,hz,?_⟩
 cases r with
 | none=>exact .inl ⟨rfl,by rw [← hR,h0]⟩
 | some c =>
   obtain rfl:=hz2 c rfl
   exact .inr ⟨rfl,by rw [← hR,hs]⟩
def finH (many:Int):Option Int→Option Int
 | none=>none
 | some n=>if many<n then none else some n
theorem hgP_eq (many:Int) (lv:Nat) (fns:List Bd) (roles:List Rl):hgP many lv ⟨fns,roles⟩=finH many (nxHRl many lv roles (hgBs many lv fns (wi ((fns.length:Int)+(roles.length:Int))))):=by
 unfold hgP
 dsimp only
 cases hgBs many lv fns (wi ((fns.length:Int)+(roles.length:Int))) with
 | none=>rfl
 | some n =>
   dsimp only [nxHRl]
   cases hgRs many lv roles n <;> rfl
theorem HgSt.stop {q:Nat} {f g:Int→Option Int} {R R':Option Int} {w:World} {bad:Bool} (h:HgSt q f R bad w) (h1:R=none→R'=none) (h2:∀ z,f z=R→g z=R'):HgSt q g R' bad w:=by
 obtain ⟨z,hz,(⟨a,b⟩ | ⟨a,b⟩)⟩:=h
 · exact ⟨z,hz,.inl ⟨a,h1 b⟩⟩
 · exact ⟨z,hz,.inr ⟨a,h2 z b⟩⟩
theorem HgSt.end {q:Nat} {f g:Int→Option Int} {R R':Option Int} {w:World} (h:HgSt q f R true w) (h1:R=none→R'=none):HgSt q g R' true w:=by
 obtain ⟨z,hz,(⟨a,b⟩ | ⟨a,b⟩)⟩:=h
 · exact ⟨z,hz,.inl ⟨a,h1 b⟩⟩
 · cases a
theorem HgSt.bad {q:Nat} {f g:Int→Option Int} {R:Option Int} {w:World} (h:HgSt q f R true w):HgSt q g R true w:=by
 obtain ⟨z,hz,(⟨a,b⟩ | ⟨a,b⟩)⟩:=h
 · exact ⟨z,hz,.inl ⟨a,b⟩⟩
 · cases a
theorem HgSt.none {q:Nat} {f:Int→Option Int} {R:Option Int} {w:World} (h:HgSt q f R true w):R=none:=by
 obtain ⟨z,hz,(⟨a,b⟩ | ⟨a,b⟩)⟩:=h
 · exact b
 · cases a
theorem HgSt.go {q:Nat} {f:Int→Option Int} {R:Option Int} {w:World} (h:HgSt q f R false w):∃ z,Cn w q z∧f z=R:=by
 obtain ⟨z,hz,(⟨a,b⟩ | ⟨a,b⟩)⟩:=h
 · cases a
 · exact ⟨z,hz,b⟩
set_option maxRecDepth 100000 in
set_option maxHeartbeats 8000000 in
theorem huge_any (many:Int) (hm:many≤1000000) (hm0:0≤many) (lv:Nat) (hlv:lv≤1000) (g:Pg) (w:World) (S:Nat→Prop) (v:Value) (hS:∀ b,S b→b<w.heap.size) (hr:Rw w S g.nd v) :
   Calls Tryz.prog 6 #[v,.int .i64 (lv:Int),.int .i64 many] w fun e w'=>e = .returned (.bool (hgP many lv g).isNone)∧Below w.heap.size w w':=by
 obtain ⟨fns,roles⟩:=g
 obtain ⟨y,z,rfl,hy,hz⟩:=(Pg.rw ⟨fns,roles⟩ v).1 hr
 rw [Rw] at hy hz
 obtain ⟨AF,cF,rfl,hcF,hmF,hrF⟩:=hy
 obtain ⟨AR,cR,rfl,hcR,hmR,hrR⟩:=hz
 rw [List.length_map] at hcF hcR
 rw [List.length_map,List.length_map]
 dsimp only at hcF hcR ⊢
 obtain ⟨nF,hnF⟩:∃ n,Hid (fns.length=n):=⟨_,Lib.hid rfl⟩
 obtain ⟨nR,hnR⟩:∃ n,Hid (roles.length=n):=⟨_,Lib.hid rfl⟩
 rw [hnF.out] at hcF ⊢
 rw [hnR.out] at hcR ⊢
 unfold maxLen at hmF hmR
 obtain ⟨n0,hn0⟩:∃ n,wi ((nF:Int)+(nR:Int))=n:=⟨_,rfl⟩
 have wn:IntKind.i64.wrap ((nF:Int)+(nR:Int))=n0:=hn0
 obtain ⟨r,hrr⟩:∃ r,Hid (hgP many lv ⟨fns,roles⟩=r):=⟨_,Lib.hid rfl⟩
 rw [hrr.out]
 obtain ⟨r1,hr1⟩:∃ r1,Hid (hgBs many lv fns n0=r1):=⟨_,Lib.hid rfl⟩
 have HFI:Hid (finH many (nxHRl many lv roles r1)=r):=Lib.hid (by rw [← hrr.out,hgP_eq,hnF.out,hnR.out,hn0,hr1.out])
 have HRF:Hid (Rws w S AF 4 0 (fns.map Bd.nd)):=Lib.hid hrF
 have HRR:Hid (Rws w S AR 4 0 (roles.map Rl.nd)):=Lib.hid hrR
 have HSS:=Lib.hid hS
 obtain ⟨W1,hW1⟩:∃ W,Hid (((w.alloc (.cells #[.slice AF nF cF,.slice AR nR cR] 25)).alloc (.cells #[.int .i64 n0] 3))=W):=⟨_,Lib.hid rfl⟩
 have HC1:Hid (Cn W1 (w.heap.size+1) n0):=Lib.hid (by
   rw [← hW1.out]
   have:=heap_new (w.alloc (.cells #[.slice AF nF cF,.slice AR nR cR] 25)) (.cells #[.int .i64 n0] 3)
   unfold Cn
   simpa using this)
 have HK1:Hid (Kp (w.heap.size+1) w W1):=Lib.hid (by rw [← hW1.out]; exact ((Kp.refl _ w).alloc _).alloc _)
 have HQ1:Hid (W1.heap[w.heap.size]?=some (.cells #[.slice AF nF cF,.slice AR nR cR] 25 (0,0))):=Lib.hid (by rw [← hW1.out]; exact heap_old (heap_new w _) _)
 have HPB:Hid (∀ w',Kp (w.heap.size+1) W1 w'→w'.cell? ⟨w.heap.size,0,none⟩=some (.slice AF nF cF)∧w'.cell? ⟨w.heap.size,1,none⟩=some (.slice AR nR cR)):=Lib.hid fun w' hk=>by
   obtain ⟨p0,p1⟩:=bx2h (hk.heap HQ1.out (Nat.ne_of_lt (Nat.lt_succ_self _)))
   exact ⟨p0,p1⟩
 have HSU:Hid (∀ w',Kp (w.heap.size+1) W1 w'→∀ b,S b→b<w'.heap.size∧b≠w.heap.size+1):=Lib.hid fun w' hk b hb=>by
   have:=HSS.out b hb
   have:=(HK1.out.trans hk).size
   exact ⟨by omega,by omega⟩
 have HKC:Hid (∀ w',Kp (w.heap.size+1) W1 w'→∀ p:Addr,S p.block→w'.cell? p=w.cell? p):=Lib.hid fun w' hk p hp=>(HK1.out.trans hk).cellq (HSS.out _ hp) (by have:=HSS.out _ hp; omega)
 have HBD:Hid (∀ (x:Bd) (z:Int) (w':World) (v:Value),Kp (w.heap.size+1) W1 w'→Rw w S x.nd v→Cn w' (w.heap.size+1) z→Calls Tryz.prog 23 #[v,.int .i64 (lv:Int),.int .i64 many,.pointer (some ⟨w.heap.size+1,0,none⟩)] w' (OutH (w.heap.size+1) w' (hgB many lv x z))):=Lib.hid fun x z w' v hk hx hc=>hugebody_any _ many hm hm0 lv hlv x z w' S v (HSU.out w' hk) (Rw.keep (fun p hp=>HKC.out w' hk p hp) (fun _ h=>h) _ _ hx) hc
 clear hr hrF hrR hS hn0
 go_enter Tryz.func6,Tryz.ntmps6
 go_upto_block 0 with fail
 rw [hW1.out]
 clear hW1
 go_cut [8] from 9 to 37 (fun s wr=>∃ bd:Bool,s = .bool bd∧Hid (HgSt (w.heap.size+1) some r1 bd wr)∧Hid (Kp (w.heap.size+1) W1 wr))
 case first =>
   go_wp2_with fail
   go_loopg [8,9] nF (fun g s i wr=>∃ (j:Nat) (bd:Bool),j+g=nF∧i = .int .i64 (j:Int)∧s = .bool bd∧Hid (HgSt (w.heap.size+1) (hgBs many lv (fns.drop j)) r1 bd wr)∧Hid (Kp (w.heap.size+1) W1 wr))
   case atStart=>exact ⟨0,false,by omega,rfl,rfl,Lib.hid ⟨n0,HC1.out,.inr ⟨rfl,by rw [List.drop_zero]; exact hr1.out⟩⟩,Lib.hid (Kp.refl _ _)⟩
   case round =>
     obtain ⟨j,bd,hj,rfl,rfl,HS,HK⟩:=hrel
     obtain ⟨p0,p1⟩:=HPB.out wr HK.out
     cases gk with
     | zero =>
       have h1:¬ (j:Int)<(nF:Int):=by omega
       have HE:Hid (HgSt (w.heap.size+1) some r1 bd wr):=Lib.hid (HS.out.stop (fun h=>h) (fun z h=>by rw [← h,List.drop_eq_nil_of_le (by rw [hnF.out]; omega),hgBs]))
       clear HS
       go_wp2_with fail
       go_meet
       exact ⟨bd,rfl,HE,HK⟩
     | succ g =>
       have h1:(j:Int)<(nF:Int):=by omega
       have h2:j<nF:=by omega
       cases bd with
       | true =>
         have HE:Hid (HgSt (w.heap.size+1) some r1 true wr):=Lib.hid HS.out.bad
         clear HS
         go_wp2_with fail
         go_meet
         exact ⟨true,rfl,HE,HK⟩
       | false =>
         have hjl:j<fns.length:=by rw [hnF.out]; exact h2
         obtain ⟨b,o,vs,rfl,hSb,hvl,hrg,hx⟩:=HRF.out.at j (Bd.nd fns[j]) (by simp [hjl])
         have HD:=Lib.hid (List.drop_eq_getElem_cons hjl)
         generalize fns[j]=x at *
         have HX:=Lib.hid hx
         obtain ⟨s1,ps1,st1,ln1⟩:=x
         obtain ⟨y,y',hv,-,-,hy,hy1⟩:=(hd_rw s1 ps1 6 _ ln1 _).1 hx
         obtain ⟨A3,n3,c3,rfl⟩:=hy.rowf
         obtain ⟨A4,n4,c4,rfl⟩:=hy1.rowf
         have hv2:vs=[.string (strOf s1),.slice A3 n3 c3,.slice A4 n4 c4,.int .i64 ln1]:=by
           injection hv with hv
           have:=congrArg Array.toList hv
           simpa using this
         subst hv2
         have hcell:∀ i u,([.string (strOf s1),.slice A3 n3 c3,.slice A4 n4 c4,.int .i64 ln1]:List Value)[i]?=some u→wr.cell? ⟨b,o+j*4+i,none⟩=some u:=fun i u hu=>by
           have:=hrg i u hu
           rw [Nat.zero_add] at this
           exact (HKC.out wr HK.out ⟨b,o+j*4+i,none⟩ hSb).trans this
         have y0:wr.cell? ⟨b,o+j*4,none⟩=some (.string (strOf s1)):=hcell 0 _ rfl
         have y1:=hcell 1 _ rfl
         have y2:=hcell 2 _ rfl
         have y3:=hcell 3 _ rfl
         obtain ⟨z,hz,hf⟩:=HS.out.go
         have HB:=Lib.hid (HBD.out ⟨s1,ps1,st1,ln1⟩ z wr _ HK.out HX.out hz)
         have HN:Hid (nxHB many lv (fns.drop (j+1)) (hgB many lv ⟨s1,ps1,st1,ln1⟩ z)=r1):=Lib.hid (by rw [← hgBs_cons,← HD.out]; exact hf)
         clear hrg hx hv hy hy1 HD hjl hcell hf hz HS HX
         generalize hgB many lv ⟨s1,ps1,st1,ln1⟩ z=rb at *
         go_wp2_with (first
           | (go_at_call 23
              refine HB.out.mono ?_
              rintro e w3 ⟨rfl,h3,hk3⟩
              have HS3:=Lib.hid (HgSt.next (f0:=nxHB many lv (fns.drop (j+1))) rfl (fun _ => rfl) ⟨rfl,h3,hk3⟩ HN.out)
              have HK3:=Lib.hid (HK.out.trans hk3)
              clear h3 hk3)
           | (fail))
         go_roundg g
         case measure=>omega
         case rel=>exact ⟨j+1,rb.isNone,by omega,by go_num,rfl,HS3,HK3⟩
 case rest =>
   obtain ⟨bd1,rfl,HS1,HKK⟩:=hcut
   obtain ⟨p0,p1⟩:=HPB.out wc HKK.out
   obtain ⟨R2,hR2⟩:∃ R2,Hid (nxHRl many lv roles r1=R2):=⟨_,Lib.hid rfl⟩
   have HS2:Hid (HgSt (w.heap.size+1) (hgRs many lv roles) R2 bd1 wc):=Lib.hid (HS1.out.stop (fun h=>by rw [← hR2.out,h]; rfl) (fun z h=>by rw [← hR2.out,← h]; rfl))
   rw [hR2.out] at HFI
   clear HS1 hr1 HC1 HRF hR2
   go_upto_block 2 with fail
   go_cut [8] from 10 to 106 (fun s wr=>∃ bd:Bool,s = .bool bd∧Hid (HgSt (w.heap.size+1) some R2 bd wr)∧Hid (Kp (w.heap.size+1) W1 wr))
   case first =>
     clear p0 p1
     go_wp2_with fail
     go_loopg [8,10] nR (fun g s i wr=>∃ (j:Nat) (bd:Bool),j+g=nR∧i = .int .i64 (j:Int)∧s = .bool bd∧Hid (HgSt (w.heap.size+1) (hgRs many lv (roles.drop j)) R2 bd wr)∧Hid (Kp (w.heap.size+1) W1 wr))
     case atStart=>exact ⟨0,bd1,by omega,rfl,rfl,HS2,HKK⟩
     case round =>
       clear HS2 HKK
       obtain ⟨j,bd,hj,rfl,rfl,HS,HK⟩:=hrel
       obtain ⟨p0,p1⟩:=HPB.out wr HK.out
       cases gk with
       | zero =>
         have h1:¬ (j:Int)<(nR:Int):=by omega
         have HE:Hid (HgSt (w.heap.size+1) some R2 bd wr):=Lib.hid (HS.out.stop (fun h=>h) (fun z h=>by rw [← h,List.drop_eq_nil_of_le (by rw [hnR.out]; omega),hgRs]))
         clear HS
         go_wp2_with fail
         go_meet
         exact ⟨bd,rfl,HE,HK⟩
       | succ g =>
         have h1:(j:Int)<(nR:Int):=by omega
         have h2:j<nR:=by omega
         cases bd with
         | true =>
           have HE:Hid (HgSt (w.heap.size+1) some R2 true wr):=Lib.hid HS.out.bad
           clear HS
           go_wp2_with fail
           go_meet
           exact ⟨true,rfl,HE,HK⟩
         | false =>
           have hjl:j<roles.length:=by rw [hnR.out]; exact h2
           obtain ⟨b,o,vs,rfl,hSb,hvl,hrg,hx⟩:=HRR.out.at j (Rl.nd roles[j]) (by simp [hjl])
           have HD:=Lib.hid (List.drop_eq_getElem_cons hjl)
           generalize roles[j]=x at *
           obtain ⟨s1,ps1,on1,ln1⟩:=x
           obtain ⟨y,y',hv,-,-,hy,hy1⟩:=(hd_rw s1 ps1 4 _ ln1 _).1 hx
           have HYP:=Lib.hid hy
           rw [Rw] at hy hy1
           obtain ⟨A3,c3,rfl,hc3,hm3,-⟩:=hy
           obtain ⟨A4,c4,rfl,hc4,hm4,hr4⟩:=hy1
           rw [List.length_map] at hc3 hc4 hv
           rw [List.length_map] at hv
           have HYP2:=HYP
           have HON:Hid (Rws w S A4 4 0 (on1.map Bd.nd)):=Lib.hid hr4
           obtain ⟨n3,hn3⟩:∃ n,Hid (ps1.length=n):=⟨_,Lib.hid rfl⟩
           obtain ⟨n4,hn4⟩:∃ n,Hid (on1.length=n):=⟨_,Lib.hid rfl⟩
           rw [hn3.out] at hc3 hv
           rw [hn4.out] at hc4 hv
           unfold maxLen at hm3 hm4
           obtain ⟨X,hX⟩:∃ X,strOf s1=X:=⟨_,rfl⟩
           have hXs:X.size=s1.length:=by rw [← hX,strOf_size]
           rw [hX] at hv
           have hv2:vs=[.string X,.slice A3 n3 c3,.slice A4 n4 c4,.int .i64 ln1]:=by
             injection hv with hv
             have:=congrArg Array.toList hv
             simpa using this
           subst hv2
           have HCE:Hid (∀ w',Kp (w.heap.size+1) W1 w'→w'.cell? ⟨b,o+j*4,none⟩=some (.string X)∧w'.cell? ⟨b,o+j*4+1,none⟩=some (.slice A3 n3 c3)∧w'.cell? ⟨b,o+j*4+2,none⟩=some (.slice A4 n4 c4)):=Lib.hid fun w' hk=>by
             have hcell:∀ i u,([.string X,.slice A3 n3 c3,.slice A4 n4 c4,.int .i64 ln1]:List Value)[i]?=some u→w'.cell? ⟨b,o+j*4+i,none⟩=some u:=fun i u hu=>by
               have:=hrg i u hu
               rw [Nat.zero_add] at this
               exact (HKC.out w' hk ⟨b,o+j*4+i,none⟩ hSb).trans this
             exact ⟨hcell 0 _ rfl,hcell 1 _ rfl,hcell 2 _ rfl⟩
           obtain ⟨y0,y1,y2⟩:=HCE.out wr HK.out
           obtain ⟨z,hz,hf⟩:=HS.out.go
           have HN:Hid (nxHRl many lv (roles.drop (j+1)) (hgR many lv ⟨s1,ps1,on1,ln1⟩ z)=R2):=Lib.hid (by rw [← hgRs_cons,← HD.out]; exact hf)
           obtain ⟨ro,hro⟩:∃ r,Hid (hgR many lv ⟨s1,ps1,on1,ln1⟩ z=r):=⟨_,Lib.hid rfl⟩
           rw [hro.out] at HN
           obtain ⟨m,hmm⟩:∃ m,wi (z+(n3:Int))=m:=⟨_,rfl⟩
           have w3:IntKind.i64.wrap (z+(n3:Int))=m:=hmm
           obtain ⟨k,hk⟩:∃ k,X.size=k:=⟨_,rfl⟩
           have HRO:Hid ((if many<m∨1000<k∨longF ps1=true then none else hgBs many lv on1 m)=ro):=Lib.hid (by
             rw [← hro.out]
             unfold hgR
             dsimp only
             rw [hn3.out,hmm,← hk,hXs])
           have c0:=cell_of_one hz
           have f0:=free_block hz 0
           have HCM:=Lib.hid (hz.set m)
           have hbq:b≠w.heap.size+1:=(HSU.out wr HK.out b hSb).2
           have hbq2:¬ w.heap.size+1=b:=fun e=>hbq e.symm
           clear hrg hx hv HD hjl hf hz HS hX hXs hmm hro hr4 hSb hvl HYP2
           go_upto_region 10 with (fail)
           go_region
           obtain ⟨W2,hW2⟩:∃ W,Hid ((wr.setCell ⟨w.heap.size+1,0,none⟩ (.int .i64 m)).drew=W):=⟨_,Lib.hid rfl⟩
           have HC2:Hid (Cn W2 (w.heap.size+1) m):=Lib.hid (by rw [← hW2.out]; exact HCM.out)
           have HK2:Hid (Kp (w.heap.size+1) W1 W2):=Lib.hid (by rw [← hW2.out]; exact (HK.out.set (p:=⟨w.heap.size+1,0,none⟩) rfl (.int .i64 m)).drew)
           rw [hW2.out]
           clear hW2 HCM HK y0 y1 y2 p0 p1 c0 f0
           obtain ⟨p0,p1⟩:=HPB.out W2 HK2.out
           obtain ⟨y0,y1,y2⟩:=HCE.out W2 HK2.out
           have c0:=cell_of_one HC2.out
           have HLG:=Lib.hid (long_any ps1 W2 S (.slice A3 n3 c3) (Rw.keep (fun p hp=>HKC.out W2 HK2.out p hp) (fun _ h=>h) _ _ (by rw [← hn3.out]; have:=HYP.out; rw [List.length_map] at this; exact this)))
           obtain ⟨lg,hlg⟩:∃ lg,Hid (longF ps1=lg):=⟨_,Lib.hid rfl⟩
           rw [hlg.out] at HRO HLG
           go_upto_region 11 with (fail)
           go_cut [8] from 38 to 106 (fun s wx=>s = .bool (decide (many<m∨1000<k∨lg=true))∧wx=W2)
           case first =>
             by_cases hA:many<m
             · have t1:decide (many<m)=true:=decide_eq_true hA
               go_wp2_with fail
               go_meet
               exact ⟨by rw [decide_eq_true (.inl hA)],rfl⟩
             · have t1:decide (many<m)=false:=decide_eq_false hA
               by_cases hL:1000<k
               · have t3:(1000:Int)<(k:Int):=by omega
                 have t4:decide ((1000:Int)<(k:Int))=true:=decide_eq_true t3
                 go_wp2_with fail
                 go_meet
                 exact ⟨by rw [decide_eq_true (.inr (.inl hL))],rfl⟩
               · have t3:¬ (1000:Int)<(k:Int):=by omega
                 have t4:decide ((1000:Int)<(k:Int))=false:=decide_eq_false t3
                 have HV:Hid (lg=decide (many<m∨1000<k∨lg=true)):=Lib.hid (by
                   cases lg with
                   | true=>rw [decide_eq_true (.inr (.inr rfl))]
                   | false=>rw [decide_eq_false (by rintro (h | h | h); exact hA h; exact hL h; cases h)])
                 go_wp2_with (first
                   | (go_at_call 24
                      refine HLG.out.mono ?_
                      rintro e w1 ⟨rfl,rfl⟩)
                   | (fail))
                 go_meet
                 exact ⟨congrArg Value.bool HV.out,rfl⟩
           case rest =>
             obtain ⟨rfl,rfl⟩:=hcut
             obtain ⟨bx,hbx⟩:∃ bx,Hid (decide (many<m∨1000<k∨lg=true)=bx):=⟨_,Lib.hid rfl⟩
             have HS4:Hid (HgSt (w.heap.size+1) (hgBs many lv on1) ro bx wc):=Lib.hid ⟨m,HC2.out,by
               have h1:=hbx.out
               have h2:=HRO.out
               by_cases hh:many<m∨1000<k∨lg=true
               · rw [decide_eq_true hh] at h1
                 rw [if_pos hh] at h2
                 exact .inl ⟨h1.symm,h2.symm⟩
               · rw [decide_eq_false hh] at h1
                 rw [if_neg hh] at h2
                 exact .inr ⟨h1.symm,h2⟩⟩
             rw [hbx.out]
             clear HRO HLG hlg hbx hk w3
             clear y0 y1 y2 p0 p1 c0
             go_wp2_with fail
             go_loopg [8,11] n4 (fun g2 s i wr=>∃ (j2:Nat) (bd:Bool),j2+g2=n4∧i = .int .i64 (j2:Int)∧s = .bool bd∧Hid (HgSt (w.heap.size+1) (hgBs many lv (on1.drop j2)) ro bd wr)∧Hid (Kp (w.heap.size+1) W1 wr))
             case atStart=>exact ⟨0,bx,by omega,rfl,rfl,HS4,HK2⟩
             case round =>
               clear HS4 HK2
               obtain ⟨j2,bd,hj2,rfl,rfl,HS,HK⟩:=hrel
               obtain ⟨p0,p1⟩:=HPB.out wr HK.out
               obtain ⟨y0,y1,y2⟩:=HCE.out wr HK.out
               cases gk with
               | zero =>
                 have h3:¬ (j2:Int)<(n4:Int):=by omega
                 have HE:Hid (HgSt (w.heap.size+1) (hgRs many lv (roles.drop (j+1))) R2 bd wr):=Lib.hid (HS.out.stop (fun h=>by rw [← HN.out,h]; rfl) (fun z h=>by rw [← HN.out,← h,show on1.drop j2=[] from List.drop_eq_nil_of_le (by rw [hn4.out]; omega),hgBs]; rfl))
                 clear HS
                 go_wp2_with fail
                 go_roundg g
                 case measure=>omega
                 case rel=>exact ⟨j+1,bd,by omega,by go_num,rfl,HE,HK⟩
               | succ g2 =>
                 have h3:(j2:Int)<(n4:Int):=by omega
                 have h4:j2<n4:=by omega
                 cases bd with
                 | true =>
                   have HE:Hid (HgSt (w.heap.size+1) (hgRs many lv (roles.drop (j+1))) R2 true wr):=Lib.hid (HS.out.end (fun h=>by rw [← HN.out,h]; rfl))
                   clear HS
                   go_wp2_with fail
                   go_roundg g
                   case measure=>omega
                   case rel=>exact ⟨j+1,true,by omega,by go_num,rfl,HE,HK⟩
                 | false =>
                   have hjl:j2<on1.length:=by rw [hn4.out]; exact h4
                   obtain ⟨b2,o2,vs,rfl,hSb,hvl,hrg,hx⟩:=HON.out.at j2 (Bd.nd on1[j2]) (by simp [hjl])
                   have HD:=Lib.hid (List.drop_eq_getElem_cons hjl)
                   generalize on1[j2]=x at *
                   have HX:=Lib.hid hx
                   obtain ⟨s5,ps5,st5,ln5⟩:=x
                   obtain ⟨y,y',hv,-,-,hy,hy1⟩:=(hd_rw s5 ps5 6 _ ln5 _).1 hx
                   obtain ⟨A5,n5,c5,rfl⟩:=hy.rowf
                   obtain ⟨A6,n6,c6,rfl⟩:=hy1.rowf
                   have hv2:vs=[.string (strOf s5),.slice A5 n5 c5,.slice A6 n6 c6,.int .i64 ln5]:=by
                     injection hv with hv
                     have:=congrArg Array.toList hv
                     simpa using this
                   subst hv2
                   have hcell:∀ i u,([.string (strOf s5),.slice A5 n5 c5,.slice A6 n6 c6,.int .i64 ln5]:List Value)[i]?=some u→wr.cell? ⟨b2,o2+j2*4+i,none⟩=some u:=fun i u hu=>by
                     have:=hrg i u hu
                     rw [Nat.zero_add] at this
                     exact (HKC.out wr HK.out ⟨b2,o2+j2*4+i,none⟩ hSb).trans this
                   have x0:wr.cell? ⟨b2,o2+j2*4,none⟩=some (.string (strOf s5)):=hcell 0 _ rfl
                   have x1:=hcell 1 _ rfl
                   have x2:=hcell 2 _ rfl
                   have x3:=hcell 3 _ rfl
                   obtain ⟨z2,hz,hf⟩:=HS.out.go
                   have HB:=Lib.hid (HBD.out ⟨s5,ps5,st5,ln5⟩ z2 wr _ HK.out HX.out hz)
                   have HN2:Hid (nxHB many lv (on1.drop (j2+1)) (hgB many lv ⟨s5,ps5,st5,ln5⟩ z2)=ro):=Lib.hid (by rw [← hgBs_cons,← HD.out]; exact hf)
                   clear hrg hx hv hy hy1 HD hjl hcell hf hz HS HX
                   generalize hgB many lv ⟨s5,ps5,st5,ln5⟩ z2=rb at *
                   go_wp2_with (first
                     | (go_at_call 23
                        refine HB.out.mono ?_
                        rintro e w3 ⟨rfl,h3,hk3⟩
                        have HS3:=Lib.hid (HgSt.next (f0:=nxHB many lv (on1.drop (j2+1))) rfl (fun _ => rfl) ⟨rfl,h3,hk3⟩ HN2.out)
                        have HK3:=Lib.hid (HK.out.trans hk3)
                        clear h3 hk3)
                     | (fail))
                   go_roundg g2
                   case measure=>omega
                   case rel=>exact ⟨j2+1,rb.isNone,by omega,by go_num,rfl,HS3,HK3⟩
   case rest =>
     obtain ⟨bd2,rfl,HS3,HK3⟩:=hcut
     have HBW:Hid (Below w.heap.size w wc):=Lib.hid ((HK1.out.trans HK3.out).below (Nat.le_succ _) (Nat.le_refl _))
     cases bd2 with
     | true =>
       have HE:Hid (none=r):=Lib.hid (by rw [← HFI.out,HS3.out.none]; rfl)
       go_wp2_with fail
       go_ret
       exact ⟨by rw [← HE.out]; rfl,HBW.out⟩
     | false =>
       obtain ⟨z,hz,hf⟩:=HS3.out.go
       have c0:=cell_of_one hz
       by_cases hA:many<z
       · have t1:decide (many<z)=true:=decide_eq_true hA
         have HE:Hid (none=r):=Lib.hid (by rw [← HFI.out,← hf]; unfold finH; dsimp only; rw [if_pos hA])
         clear hf hz
         go_wp2_with fail
         go_ret
         exact ⟨by rw [← HE.out]; rfl,HBW.out⟩
       · have t1:decide (many<z)=false:=decide_eq_false hA
         have HE:Hid (some z=r):=Lib.hid (by rw [← HFI.out,← hf]; unfold finH; dsimp only; rw [if_neg hA])
         clear hf hz
         go_wp2_with fail
         go_ret
         exact ⟨by rw [← HE.out]; rfl,HBW.out⟩
end Go.Proofs.YtcmopnkldplngabGreatDoor
