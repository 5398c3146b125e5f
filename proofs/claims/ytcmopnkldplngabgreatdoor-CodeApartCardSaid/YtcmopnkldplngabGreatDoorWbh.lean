/- Texts Wb,Wc,Wd,We,Wf,Wg,Wh of this seat in one: see each part. -/
import Derived.Lib.Walk
import Derived.BigGuardPart
import Derived.Deep.MidRow
import Derived.Deep.Cut
import Derived.Deep.CutRange
import Derived.Deep.RegionHeld3
import Derived.Deep.LoopGhost
import Derived.Lib.AppendStr
import Derived.Test.YtcmopnkldplngabGreatDoorWa
import Derived.Test.YtcmopnkldplngabGreatDoorKpc
import Derived.Test.YtcmopnkldplngabGreatDoorShelf
namespace Go.Proofs.YtcmopnkldplngabGreatDoor
open Go.RowKit
set_option linter.unusedVariables false
set_option maxHeartbeats 1000000 in
theorem isDigit_any (w:World) (x:Nat):Calls Tryz.prog 235 #[.int .u8 (x:Int)] w fun e w'=>e = .returned (.bool (dig x))∧w'=w:=by
 have e:dig x=(decide ((48:Int)≤(x:Int))&&decide ((x:Int)≤57)):=by unfold dig; rw [Bool.eq_iff_iff]; simp; omega
 rw [e]
 obtain ⟨b0,h0⟩:∃ b,(decide ((48:Int)≤(x:Int)))=b:=⟨_,rfl⟩
 obtain ⟨b1,h1⟩:∃ b,(decide ((x:Int)≤57))=b:=⟨_,rfl⟩
 rw [h0,h1]
 clear e
 go_enter Tryz.func235,Tryz.ntmps235
 go_wp2_with fail
 all_goals
   go_ret
   refine ⟨?_,rfl⟩
   simp [*]
set_option maxHeartbeats 1000000 in
theorem isLetter_any (w:World) (x:Nat):Calls Tryz.prog 238 #[.int .u8 (x:Int)] w fun e w'=>e = .returned (.bool (ltr x))∧w'=w:=by
 have e:ltr x=(decide ((97:Int)≤(x:Int))&&decide ((x:Int)≤122)||decide ((65:Int)≤(x:Int))&&decide ((x:Int)≤90)||((x:Int) == 95)):=by unfold ltr; rw [Bool.eq_iff_iff]; simp; omega
 rw [e]
 obtain ⟨b0,h0⟩:∃ b,(decide ((97:Int)≤(x:Int)))=b:=⟨_,rfl⟩
 obtain ⟨b1,h1⟩:∃ b,(decide ((x:Int)≤122))=b:=⟨_,rfl⟩
 obtain ⟨b2,h2⟩:∃ b,(decide ((65:Int)≤(x:Int)))=b:=⟨_,rfl⟩
 obtain ⟨b3,h3⟩:∃ b,(decide ((x:Int)≤90))=b:=⟨_,rfl⟩
 obtain ⟨b4,h4⟩:∃ b,((x:Int) == 95)=b:=⟨_,rfl⟩
 rw [h0,h1,h2,h3,h4]
 clear e
 go_enter Tryz.func238,Tryz.ntmps238
 go_wp2_with fail
 all_goals
   go_ret
   refine ⟨?_,rfl⟩
   simp [*]
set_option maxHeartbeats 1000000 in
theorem isBlank_any (w:World) (x:Nat):Calls Tryz.prog 231 #[.int .u8 (x:Int)] w fun e w'=>e = .returned (.bool (blk x))∧w'=w:=by
 have e:blk x=(((x:Int) == 32)||((x:Int) == 9)||((x:Int) == 10)||((x:Int) == 13)):=by unfold blk; rw [Bool.eq_iff_iff]; simp; omega
 rw [e]
 obtain ⟨b0,h0⟩:∃ b,((x:Int) == 32)=b:=⟨_,rfl⟩
 obtain ⟨b1,h1⟩:∃ b,((x:Int) == 9)=b:=⟨_,rfl⟩
 obtain ⟨b2,h2⟩:∃ b,((x:Int) == 10)=b:=⟨_,rfl⟩
 obtain ⟨b3,h3⟩:∃ b,((x:Int) == 13)=b:=⟨_,rfl⟩
 rw [h0,h1,h2,h3]
 clear e
 go_enter Tryz.func231,Tryz.ntmps231
 go_wp2_with fail
 all_goals
   go_ret
   refine ⟨?_,rfl⟩
   simp [*]
set_option maxHeartbeats 1000000 in
theorem saysItself_any (w:World) (x:Nat):Calls Tryz.prog 257 #[.int .u8 (x:Int)] w fun e w'=>e = .returned (.bool (pln x))∧w'=w:=by
 have e:pln x=(decide ((32:Int)≤(x:Int))&&((x:Int) != 34)&&((x:Int) != 92)):=by unfold pln; rw [Bool.eq_iff_iff]; simp; omega
 rw [e]
 obtain ⟨b0,h0⟩:∃ b,(decide ((32:Int)≤(x:Int)))=b:=⟨_,rfl⟩
 obtain ⟨b1,h1⟩:∃ b,((x:Int) != 34)=b:=⟨_,rfl⟩
 obtain ⟨b2,h2⟩:∃ b,((x:Int) != 92)=b:=⟨_,rfl⟩
 rw [h0,h1,h2]
 clear e
 go_enter Tryz.func257,Tryz.ntmps257
 go_wp2_with fail
 all_goals
   go_ret
   refine ⟨?_,rfl⟩
   simp [*]
theorem wrd_any (w:World) (x:Nat):Calls Tryz.prog 260 #[.int .u8 (x:Int)] w fun e w'=>e = .returned (.bool (wrd x))∧w'=w:=by
 unfold wrd
 obtain ⟨b,hb⟩:∃ b,ltr x=b:=⟨_,rfl⟩
 obtain ⟨c,hc⟩:∃ c,dig x=c:=⟨_,rfl⟩
 have H1:=Lib.hid (isLetter_any w x)
 have H2:=Lib.hid (isDigit_any w x)
 rw [hb] at H1 ⊢
 rw [hc] at H2 ⊢
 clear hb hc
 go_enter Tryz.func260,Tryz.ntmps260
 go_wp2_with fail
 refine H1.out.mono ?_
 rintro e w' ⟨rfl,rfl⟩
 cases b with
 | true =>
   go_wp2_with fail
   go_ret
   exact ⟨rfl,rfl⟩
 | false =>
   go_wp2_with fail
   refine H2.out.mono ?_
   rintro e w' ⟨rfl,rfl⟩
   go_wp2_with fail
   go_ret
   exact ⟨rfl,rfl⟩
end Go.Proofs.YtcmopnkldplngabGreatDoor
namespace Go.Proofs.YtcmopnkldplngabGreatDoor
open Go.RowKit
set_option linter.unusedVariables false
def StrIs (S:ByteArray) (T:List Nat):Prop:=S.size=T.length∧∀ (j:Nat) (hj:j<T.length) (hj':j<S.size),(S[j]'hj').toNat=T[j]
theorem strIs (T:List Nat) (h8:∀ x∈T,x<256):StrIs (strOf T) T:=by
 refine ⟨strOf_size T,fun j hj hj'=>?_⟩
 have e:(strOf T)[j]'hj'=UInt8.ofNat T[j]:=by
   have h1:(strOf T).data[j]?=some (UInt8.ofNat T[j]):=by simp [strOf,hj]
   have h2:(strOf T).data[j]?=some ((strOf T)[j]'hj'):=Array.getElem?_eq_getElem hj'
   rw [h1] at h2
   exact (Option.some.inj h2).symm
 rw [e,UInt8.toNat_ofNat',Nat.mod_eq_of_lt (h8 _ (List.getElem_mem hj))]
set_option maxRecDepth 100000 in
set_option maxHeartbeats 1000000 in
theorem run_dig {T:List Nat} (h8:∀ x∈T,x<256) (hn:T.length≤1099511627776) (w:World) :
   Calls Tryz.prog 229 #[.string (strOf T),.func (.func 235) #[] #[]] w fun e w'=>e = .returned (.int .i64 ((T.takeWhile dig).length:Int))∧w'=w:=by
 have HS:=Lib.hid (strIs T h8)
 generalize strOf T=S at *
 have hz:=HS.out.1
 obtain ⟨n,hnn⟩:∃ n,Hid (T.length=n):=⟨_,Lib.hid rfl⟩
 rw [hnn.out] at hz hn
 have HF:=Lib.hid (isDigit_any w)
 obtain ⟨p,hp0⟩:∃ p:Nat→Bool,p=dig:=⟨_,rfl⟩
 rw [← hp0] at HF ⊢
 clear hp0
 have HT:=Lib.hid h8
 obtain ⟨k,hk⟩:∃ k,Hid ((T.takeWhile p).length=k):=⟨_,Lib.hid rfl⟩
 have hkn:k≤n:=by have:=tw_len (p:=p) T; have:=hk.out; have:=hnn.out; omega
 rw [hk.out]
 clear h8
 go_enter Tryz.func229,Tryz.ntmps229
 go_wp2_with fail
 go_loopw [8] (fun i wr=>∃ j:Nat,j≤k∧i = .int .i64 (j:Int)∧wr=w) (fun i _ => n-(intOf i).toNat)
 case atStart=>exact ⟨0,by omega,rfl,rfl⟩
 case round =>
   obtain ⟨j,hj,rfl,rfl⟩:=hrel
   by_cases hjn:j<n
   · have hjS:j<S.size:=by omega
     have hx:=HS.out.2 j (by rw [hnn.out]; exact hjn) hjS
     have HC:=Lib.hid (HF.out (T[j]'(by rw [hnn.out]; exact hjn)))
     by_cases hjk:j<k
     · have hp:p (T[j]'(by rw [hnn.out]; exact hjn))=true:=by
         have h1:(T.takeWhile p)[j]'(by rw [hk.out]; exact hjk)=T[j]'(by rw [hnn.out]; exact hjn):=by
           have:=(List.takeWhile_prefix (l:=T) p).getElem (i:=j) (by rw [hk.out]; exact hjk)
           exact this
         rw [← h1]
         exact tw_all T _ (List.getElem_mem _)
       generalize T[j]'(by rw [hnn.out]; exact hjn)=x at *
       rw [hp] at HC
       have HP:=Lib.hid hp
       clear hp
       go_wp2_with (go_at_call 235; refine HC.out.mono ?_; rintro e w' ⟨rfl,rfl⟩)
       go_roundw
       case rel=>exact ⟨j+1,by omega,by go_num,trivial⟩
       case measure=>simp [intOf]; omega
     · obtain rfl:j=k:=by omega
       have hp:p (T[j]'(by rw [hnn.out]; exact hjn))=false:=by
         have h1:=tw_stop (p:=p) T (by rw [hk.out,hnn.out]; exact hjn)
         have h2:∀ i (hi:i<T.length),i=j→p T[i]=p (T[j]'(by rw [hnn.out]; exact hjn)):=fun i hi e=>by subst e; rfl
         rw [← h2 _ _ hk.out]
         exact h1
       generalize T[j]'(by rw [hnn.out]; exact hjn)=x at *
       rw [hp] at HC
       have HP:=Lib.hid hp
       clear hp
       go_wp2_with (go_at_call 235; refine HC.out.mono ?_; rintro e w' ⟨rfl,rfl⟩)
       go_ret
       exact ⟨rfl,rfl⟩
   · obtain rfl:j=n:=by omega
     obtain rfl:j=k:=by omega
     go_wp2_with fail
     go_ret
     exact ⟨rfl,rfl⟩
set_option maxRecDepth 100000 in
set_option maxHeartbeats 1000000 in
theorem run_wrd {T:List Nat} (h8:∀ x∈T,x<256) (hn:T.length≤1099511627776) (w:World) :
   Calls Tryz.prog 229 #[.string (strOf T),.func (.func 260) #[] #[]] w fun e w'=>e = .returned (.int .i64 ((T.takeWhile wrd).length:Int))∧w'=w:=by
 have HS:=Lib.hid (strIs T h8)
 generalize strOf T=S at *
 have hz:=HS.out.1
 obtain ⟨n,hnn⟩:∃ n,Hid (T.length=n):=⟨_,Lib.hid rfl⟩
 rw [hnn.out] at hz hn
 have HF:=Lib.hid (wrd_any w)
 obtain ⟨p,hp0⟩:∃ p:Nat→Bool,p=wrd:=⟨_,rfl⟩
 rw [← hp0] at HF ⊢
 clear hp0
 have HT:=Lib.hid h8
 obtain ⟨k,hk⟩:∃ k,Hid ((T.takeWhile p).length=k):=⟨_,Lib.hid rfl⟩
 have hkn:k≤n:=by have:=tw_len (p:=p) T; have:=hk.out; have:=hnn.out; omega
 rw [hk.out]
 clear h8
 go_enter Tryz.func229,Tryz.ntmps229
 go_wp2_with fail
 go_loopw [8] (fun i wr=>∃ j:Nat,j≤k∧i = .int .i64 (j:Int)∧wr=w) (fun i _ => n-(intOf i).toNat)
 case atStart=>exact ⟨0,by omega,rfl,rfl⟩
 case round =>
   obtain ⟨j,hj,rfl,rfl⟩:=hrel
   by_cases hjn:j<n
   · have hjS:j<S.size:=by omega
     have hx:=HS.out.2 j (by rw [hnn.out]; exact hjn) hjS
     have HC:=Lib.hid (HF.out (T[j]'(by rw [hnn.out]; exact hjn)))
     by_cases hjk:j<k
     · have hp:p (T[j]'(by rw [hnn.out]; exact hjn))=true:=by
         have h1:(T.takeWhile p)[j]'(by rw [hk.out]; exact hjk)=T[j]'(by rw [hnn.out]; exact hjn):=by
           have:=(List.takeWhile_prefix (l:=T) p).getElem (i:=j) (by rw [hk.out]; exact hjk)
           exact this
         rw [← h1]
         exact tw_all T _ (List.getElem_mem _)
       generalize T[j]'(by rw [hnn.out]; exact hjn)=x at *
       rw [hp] at HC
       have HP:=Lib.hid hp
       clear hp
       go_wp2_with (go_at_call 260; refine HC.out.mono ?_; rintro e w' ⟨rfl,rfl⟩)
       go_roundw
       case rel=>exact ⟨j+1,by omega,by go_num,trivial⟩
       case measure=>simp [intOf]; omega
     · obtain rfl:j=k:=by omega
       have hp:p (T[j]'(by rw [hnn.out]; exact hjn))=false:=by
         have h1:=tw_stop (p:=p) T (by rw [hk.out,hnn.out]; exact hjn)
         have h2:∀ i (hi:i<T.length),i=j→p T[i]=p (T[j]'(by rw [hnn.out]; exact hjn)):=fun i hi e=>by subst e; rfl
         rw [← h2 _ _ hk.out]
         exact h1
       generalize T[j]'(by rw [hnn.out]; exact hjn)=x at *
       rw [hp] at HC
       have HP:=Lib.hid hp
       clear hp
       go_wp2_with (go_at_call 260; refine HC.out.mono ?_; rintro e w' ⟨rfl,rfl⟩)
       go_ret
       exact ⟨rfl,rfl⟩
   · obtain rfl:j=n:=by omega
     obtain rfl:j=k:=by omega
     go_wp2_with fail
     go_ret
     exact ⟨rfl,rfl⟩
set_option maxRecDepth 100000 in
set_option maxHeartbeats 1000000 in
theorem run_pln {T:List Nat} (h8:∀ x∈T,x<256) (hn:T.length≤1099511627776) (w:World) :
   Calls Tryz.prog 229 #[.string (strOf T),.func (.func 257) #[] #[]] w fun e w'=>e = .returned (.int .i64 ((T.takeWhile pln).length:Int))∧w'=w:=by
 have HS:=Lib.hid (strIs T h8)
 generalize strOf T=S at *
 have hz:=HS.out.1
 obtain ⟨n,hnn⟩:∃ n,Hid (T.length=n):=⟨_,Lib.hid rfl⟩
 rw [hnn.out] at hz hn
 have HF:=Lib.hid (saysItself_any w)
 obtain ⟨p,hp0⟩:∃ p:Nat→Bool,p=pln:=⟨_,rfl⟩
 rw [← hp0] at HF ⊢
 clear hp0
 have HT:=Lib.hid h8
 obtain ⟨k,hk⟩:∃ k,Hid ((T.takeWhile p).length=k):=⟨_,Lib.hid rfl⟩
 have hkn:k≤n:=by have:=tw_len (p:=p) T; have:=hk.out; have:=hnn.out; omega
 rw [hk.out]
 clear h8
 go_enter Tryz.func229,Tryz.ntmps229
 go_wp2_with fail
 go_loopw [8] (fun i wr=>∃ j:Nat,j≤k∧i = .int .i64 (j:Int)∧wr=w) (fun i _ => n-(intOf i).toNat)
 case atStart=>exact ⟨0,by omega,rfl,rfl⟩
 case round =>
   obtain ⟨j,hj,rfl,rfl⟩:=hrel
   by_cases hjn:j<n
   · have hjS:j<S.size:=by omega
     have hx:=HS.out.2 j (by rw [hnn.out]; exact hjn) hjS
     have HC:=Lib.hid (HF.out (T[j]'(by rw [hnn.out]; exact hjn)))
     by_cases hjk:j<k
     · have hp:p (T[j]'(by rw [hnn.out]; exact hjn))=true:=by
         have h1:(T.takeWhile p)[j]'(by rw [hk.out]; exact hjk)=T[j]'(by rw [hnn.out]; exact hjn):=by
           have:=(List.takeWhile_prefix (l:=T) p).getElem (i:=j) (by rw [hk.out]; exact hjk)
           exact this
         rw [← h1]
         exact tw_all T _ (List.getElem_mem _)
       generalize T[j]'(by rw [hnn.out]; exact hjn)=x at *
       rw [hp] at HC
       have HP:=Lib.hid hp
       clear hp
       go_wp2_with (go_at_call 257; refine HC.out.mono ?_; rintro e w' ⟨rfl,rfl⟩)
       go_roundw
       case rel=>exact ⟨j+1,by omega,by go_num,trivial⟩
       case measure=>simp [intOf]; omega
     · obtain rfl:j=k:=by omega
       have hp:p (T[j]'(by rw [hnn.out]; exact hjn))=false:=by
         have h1:=tw_stop (p:=p) T (by rw [hk.out,hnn.out]; exact hjn)
         have h2:∀ i (hi:i<T.length),i=j→p T[i]=p (T[j]'(by rw [hnn.out]; exact hjn)):=fun i hi e=>by subst e; rfl
         rw [← h2 _ _ hk.out]
         exact h1
       generalize T[j]'(by rw [hnn.out]; exact hjn)=x at *
       rw [hp] at HC
       have HP:=Lib.hid hp
       clear hp
       go_wp2_with (go_at_call 257; refine HC.out.mono ?_; rintro e w' ⟨rfl,rfl⟩)
       go_ret
       exact ⟨rfl,rfl⟩
   · obtain rfl:j=n:=by omega
     obtain rfl:j=k:=by omega
     go_wp2_with fail
     go_ret
     exact ⟨rfl,rfl⟩
def rem (b:Bool) (l:List Nat):Bool:=l.foldl pasB b
theorem pas_at:∀ (T:List Nat) (b:Bool) (j:Nat) (h:j<T.length),j<pas b T→(pasB (rem b (T.take j)) T[j]||blk T[j])=true
 | x :: r,b,0,h,hj=>by
   unfold pas at hj
   split at hj
   · rename_i hx; exact hx
   · omega
 | x :: r,b,j+1,h,hj=>by
   unfold pas at hj
   split at hj
   · exact pas_at r (pasB b x) j (by simpa using h) (by omega)
   · omega
theorem pas_end:∀ (T:List Nat) (b:Bool) (j:Nat) (h:j<T.length),j=pas b T→(pasB (rem b (T.take j)) T[j]||blk T[j])=false
 | x :: r,b,j,h,hj=>by
   unfold pas at hj
   split at hj
   · subst hj
     exact pas_end r (pasB b x) _ (by simpa using h) rfl
   · rename_i hx
     subst hj
     simpa [rem] using hx
theorem rem_snoc (b:Bool) (T:List Nat) (j:Nat) (h:j<T.length):rem b (T.take (j+1))=pasB (rem b (T.take j)) T[j]:=by
 unfold rem
 rw [List.take_succ_eq_append_getElem h,List.foldl_append]
 rfl
def Bx1 (w:World) (B:Nat) (b:Bool):Prop:=w.heap[B]?=some (.cells #[.bool b] 4 (0,0))
theorem pov_any (w:World) (B:Nat) (b:Bool) (x:Nat) (hB:Bx1 w B b):Calls Tryz.prog 230 #[.int .u8 (x:Int),.pointer (some ⟨B,0,none⟩)] w fun e w'=>e = .returned (.bool (pasB b x||blk x))∧Bx1 w' B (pasB b x)∧Kp B w w':=by
 have HB:=Lib.hid hB
 have c0:=cell_block hB 0
 have f0:=free_block hB 0
 have H1:=Lib.hid (isBlank_any)
 have e:pasB b x=((x:Int) != 10&&(b||((x:Int) == 35))):=by
   unfold pasB
   by_cases h1:x=10
   · subst h1; rfl
   · have h2:(x:Int)≠10:=by omega
     by_cases h3:x=35
     · subst h3; rfl
     · have h4:(x:Int)≠35:=by omega
       rw [show ((x:Int) != 10)=true from bne_iff_ne.2 h2,show ((x:Int) == 35)=false from beq_eq_false_iff_ne.2 h4]
       simp [h1,h3]
 have HW:=Lib.hid (fun (v:Bool)=>show Bx1 (w.setCell ⟨B,0,none⟩ (.bool v)) B v from heap_set hB 0 (.bool v))
 have HK:=Lib.hid (fun (v:Bool)=>(Kp.refl B w).set (p:=⟨B,0,none⟩) rfl (.bool v))
 rw [e]
 obtain ⟨b0,h0⟩:∃ b,((x:Int) != 10)=b:=⟨_,rfl⟩
 obtain ⟨b1,h1⟩:∃ b,((x:Int) == 35)=b:=⟨_,rfl⟩
 rw [h0,h1]
 clear e hB
 go_enter Tryz.func230,Tryz.ntmps230
 obtain ⟨b2,h2⟩:∃ b,blk x=b:=⟨_,rfl⟩
 rw [h2]
 have H2:=Lib.hid (fun w=>isBlank_any w x)
 rw [h2] at H2
 clear H1
 cases b0 <;> cases b <;> cases b1
 all_goals
   go_wp2_with (go_at_call 231; refine (H2.out _).mono ?_; rintro e w' ⟨rfl,rfl⟩)
   go_ret
   exact ⟨rfl,HW.out _,HK.out _⟩
set_option maxRecDepth 100000 in
set_option maxHeartbeats 1000000 in
theorem run_pas {T:List Nat} (h8:∀ x∈T,x<256) (hn:T.length≤1099511627776) (w:World) (B:Nat) (hB:Bx1 w B false) :
   Calls Tryz.prog 229 #[.string (strOf T),.func (.func 230) #[] #[.pointer (some ⟨B,0,none⟩)]] w fun e w'=>e = .returned (.int .i64 (pas false T:Int))∧Kp B w w':=by
 have HS:=Lib.hid (strIs T h8)
 generalize strOf T=S at *
 have hz:=HS.out.1
 obtain ⟨n,hnn⟩:∃ n,Hid (T.length=n):=⟨_,Lib.hid rfl⟩
 rw [hnn.out] at hz hn
 obtain ⟨k,hk⟩:∃ k,Hid (pas false T=k):=⟨_,Lib.hid rfl⟩
 have hkn:k≤n:=by have:=pas_le false T; have:=hk.out; have:=hnn.out; omega
 rw [hk.out]
 have HB0:=Lib.hid hB
 clear h8 hB
 go_enter Tryz.func229,Tryz.ntmps229
 go_wp2_with fail
 go_loopw [8] (fun i wr=>∃ j:Nat,j≤k∧i = .int .i64 (j:Int)∧Hid (Bx1 wr B (rem false (T.take j))∧Kp B w wr)) (fun i _ => n-(intOf i).toNat)
 case atStart=>exact ⟨0,by omega,rfl,Lib.hid ⟨HB0.out,Kp.refl _ _⟩⟩
 case round =>
   obtain ⟨j,hj,rfl,HJ⟩:=hrel
   by_cases hjn:j<n
   · have hjS:j<S.size:=by omega
     have hjT:j<T.length:=by rw [hnn.out]; exact hjn
     have hx:=HS.out.2 j hjT hjS
     have HC:=Lib.hid (pov_any wr B _ T[j] HJ.out.1)
     have HR:=Lib.hid (rem_snoc false T j hjT)
     by_cases hjk:j<k
     · have hp:=pas_at T false j hjT (by rw [hk.out]; exact hjk)
       have HJ2:=Lib.hid (fun (w':World) (h1:Bx1 w' B (pasB (rem false (T.take j)) T[j])) (h2:Kp B wr w')=>show Bx1 w' B (rem false (T.take (j+1)))∧Kp B w w' from ⟨by rw [HR.out]; exact h1,HJ.out.2.trans h2⟩)
       rw [hp] at HC
       clear hp
       generalize T[j]=x at *
       generalize pasB (rem false (T.take j)) x=b at *
       go_wp2_with (go_at_call 230; refine HC.out.mono ?_; rintro e w' ⟨he,hb1,hk1⟩; subst he; have HJ3:=Lib.hid (HJ2.out w' hb1 hk1); clear hb1 hk1)
       go_roundw
       case rel=>exact ⟨j+1,by omega,by go_num,HJ3⟩
       case measure=>simp [intOf]; omega
     · obtain rfl:j=k:=by omega
       have hp:=pas_end T false j hjT hk.out.symm
       have HJ2:=Lib.hid (fun (w':World) (h2:Kp B wr w')=>show Kp B w w' from HJ.out.2.trans h2)
       rw [hp] at HC
       clear hp
       generalize T[j]=x at *
       generalize pasB (rem false (T.take j)) x=b at *
       go_wp2_with (go_at_call 230; refine HC.out.mono ?_; rintro e w' ⟨he,hb1,hk1⟩; subst he; have HJ3:=Lib.hid (HJ2.out w' hk1); clear hb1 hk1)
       go_ret
       exact ⟨rfl,HJ3.out⟩
   · obtain rfl:j=n:=by omega
     obtain rfl:j=k:=by omega
     go_wp2_with fail
     go_ret
     exact ⟨rfl,HJ.out.2⟩
theorem Kp.low8 {w w':World} {g B:Nat} (k:Kp g w w') (hB:B≤g) (hw:B≤w.heap.size):Below B w w':=⟨k.os,k.tape,k.output,k.size,fun j hj=>k.block j (by omega) (fun e=>by have:=Option.some.inj e; omega)⟩
set_option maxHeartbeats 1000000 in
theorem passedOver_any {T:List Nat} (h8:∀ x∈T,x<256) (hn:T.length≤1099511627776) (w:World) :
   Calls Tryz.prog 205 #[.string (strOf T)] w fun e w'=>e = .returned (.int .i64 (pas false T:Int))∧Below w.heap.size w w':=by
 have H0:=heap_new w (.cells #[.bool false] 4)
 have HR:=Lib.hid (run_pas h8 hn (w.alloc (.cells #[.bool false] 4)) w.heap.size H0)
 have HB:=Lib.hid ((Below.refl w.heap.size w).alloc (Nat.le_refl _) (.cells #[.bool false] 4))
 generalize strOf T=S at *
 clear H0
 go_enter Tryz.func205,Tryz.ntmps205
 go_wp2_with (go_at_call 229; refine HR.out.mono ?_; rintro e w' ⟨he,hk1⟩; subst he; have HK:=Lib.hid hk1; clear hk1)
 go_ret
 have hsz:=HB.out.size
 exact ⟨rfl,HB.out.trans (HK.out.low8 (Nat.le_refl _) (Nat.le_of_lt (by simp)))⟩
end Go.Proofs.YtcmopnkldplngabGreatDoor
namespace Go.Proofs.YtcmopnkldplngabGreatDoor
open Go.RowKit
set_option linter.unusedVariables false
theorem strOf_data (l:List Nat):(strOf l).data.toList=l.map UInt8.ofNat:=by simp [strOf]
theorem strOf_extract (T:List Nat) (a b:Nat):(strOf T).extract a b=strOf ((T.take b).drop a):=by
 apply ByteArray.ext
 simp [strOf,List.map_take,List.map_drop,List.drop_take]
theorem toList_strOf (l:List Nat):(strOf l).toList=l.map UInt8.ofNat:=by
 rw [ByteArray.toList_eq]
 simp [strOf]
theorem key_eq (s k:List Nat) (h8:∀ x∈s,x<256) (L:List UInt8) (hk:L=k.map UInt8.ofNat) (k8:∀ x∈k,x<256):((strOf s).toList == L)=decide (s=k):=by
 subst hk
 rw [← toList_strOf]
 exact strOf_eq s k h8 k8
set_option maxRecDepth 100000 in
set_option maxHeartbeats 4000000 in
theorem isKey_any (s:List Nat) (h8:∀ x∈s,x<256) (w:World):Calls Tryz.prog 262 #[.string (strOf s)] w fun e w'=>e = .returned (.bool (decide (s∈keys)))∧w'=w:=by
 have q0:((strOf s).toList == ([97,99,116,111,114]:List UInt8))=decide (s=[97,99,116,111,114]):=key_eq s _ h8 _ rfl (by decide)
 have q1:((strOf s).toList == ([98,101,99,111,109,101]:List UInt8))=decide (s=[98,101,99,111,109,101]):=key_eq s _ h8 _ rfl (by decide)
 have q2:((strOf s).toList == ([99,97,108,108]:List UInt8))=decide (s=[99,97,108,108]):=key_eq s _ h8 _ rfl (by decide)
 have q3:((strOf s).toList == ([101,108,115,101]:List UInt8))=decide (s=[101,108,115,101]):=key_eq s _ h8 _ rfl (by decide)
 have q4:((strOf s).toList == ([102,97,108,115,101]:List UInt8))=decide (s=[102,97,108,115,101]):=key_eq s _ h8 _ rfl (by decide)
 have q5:((strOf s).toList == ([102,117,110,99]:List UInt8))=decide (s=[102,117,110,99]):=key_eq s _ h8 _ rfl (by decide)
 have q6:((strOf s).toList == ([105,102]:List UInt8))=decide (s=[105,102]):=key_eq s _ h8 _ rfl (by decide)
 have q7:((strOf s).toList == ([108,101,110]:List UInt8))=decide (s=[108,101,110]):=key_eq s _ h8 _ rfl (by decide)
 have q8:((strOf s).toList == ([108,101,116]:List UInt8))=decide (s=[108,101,116]):=key_eq s _ h8 _ rfl (by decide)
 have q9:((strOf s).toList == ([111,110]:List UInt8))=decide (s=[111,110]):=key_eq s _ h8 _ rfl (by decide)
 have q10:((strOf s).toList == ([114,101,116,117,114,110]:List UInt8))=decide (s=[114,101,116,117,114,110]):=key_eq s _ h8 _ rfl (by decide)
 have q11:((strOf s).toList == ([115,101,108,102]:List UInt8))=decide (s=[115,101,108,102]):=key_eq s _ h8 _ rfl (by decide)
 have q12:((strOf s).toList == ([115,101,110,100]:List UInt8))=decide (s=[115,101,110,100]):=key_eq s _ h8 _ rfl (by decide)
 have q13:((strOf s).toList == ([115,101,116]:List UInt8))=decide (s=[115,101,116]):=key_eq s _ h8 _ rfl (by decide)
 have q14:((strOf s).toList == ([115,112,97,119,110]:List UInt8))=decide (s=[115,112,97,119,110]):=key_eq s _ h8 _ rfl (by decide)
 have q15:((strOf s).toList == ([115,116,111,112]:List UInt8))=decide (s=[115,116,111,112]):=key_eq s _ h8 _ rfl (by decide)
 have q16:((strOf s).toList == ([116,114,117,101]:List UInt8))=decide (s=[116,114,117,101]):=key_eq s _ h8 _ rfl (by decide)
 have q17:((strOf s).toList == ([119,104,105,108,101]:List UInt8))=decide (s=[119,104,105,108,101]):=key_eq s _ h8 _ rfl (by decide)
 have e:decide (s∈keys)=(decide (s=[97,99,116,111,114])||decide (s=[98,101,99,111,109,101])||decide (s=[99,97,108,108])||decide (s=[101,108,115,101])||decide (s=[102,97,108,115,101])||decide (s=[102,117,110,99])||decide (s=[105,102])||decide (s=[108,101,110])||decide (s=[108,101,116])||decide (s=[111,110])||decide (s=[114,101,116,117,114,110])||decide (s=[115,101,108,102])||decide (s=[115,101,110,100])||decide (s=[115,101,116])||decide (s=[115,112,97,119,110])||decide (s=[115,116,111,112])||decide (s=[116,114,117,101])||decide (s=[119,104,105,108,101])):=by rw [Bool.eq_iff_iff]; simp [keys,or_assoc]
 rw [e]
 clear e
 generalize decide (s=[97,99,116,111,114])=b0 at *
 generalize decide (s=[98,101,99,111,109,101])=b1 at *
 generalize decide (s=[99,97,108,108])=b2 at *
 generalize decide (s=[101,108,115,101])=b3 at *
 generalize decide (s=[102,97,108,115,101])=b4 at *
 generalize decide (s=[102,117,110,99])=b5 at *
 generalize decide (s=[105,102])=b6 at *
 generalize decide (s=[108,101,110])=b7 at *
 generalize decide (s=[108,101,116])=b8 at *
 generalize decide (s=[111,110])=b9 at *
 generalize decide (s=[114,101,116,117,114,110])=b10 at *
 generalize decide (s=[115,101,108,102])=b11 at *
 generalize decide (s=[115,101,110,100])=b12 at *
 generalize decide (s=[115,101,116])=b13 at *
 generalize decide (s=[115,112,97,119,110])=b14 at *
 generalize decide (s=[115,116,111,112])=b15 at *
 generalize decide (s=[116,114,117,101])=b16 at *
 generalize decide (s=[119,104,105,108,101])=b17 at *
 generalize strOf s=S at *
 clear h8
 go_enter Tryz.func262,Tryz.ntmps262
 go_wp2_with fail
 all_goals
   go_ret
   refine ⟨?_,rfl⟩
   clear q0 q1 q2 q3 q4 q5 q6 q7 q8 q9 q10 q11 q12 q13 q14 q15 q16 q17
   subst_vars
   first | rfl | simp_all
def hexI (c:Nat):Int:=match hexd c with
 | some d=>(d:Int)
 | none => -1
theorem hexI_eq:∀ c<256,Lib.indexByte [48,49,50,51,52,53,54,55,56,57,97,98,99,100,101,102] (UInt8.ofNat c)=hexI c:=by decide +kernel
def escV (q:Option (Nat × Nat)):Value:=match q with
 | some (x,n) => .tuple #[.int .u8 (x:Int),.int .i64 (n:Int)]
 | none => .tuple #[.int .u8 0,.int .i64 0]
theorem hex_or:∀ x:Nat,x<16→∀ y:Nat,y<16→bits BinOp.or IntKind.i64 ((x:Int)*16) (y:Int) % 256=((16*x+y:Nat):Int):=by
 have h:∀ x:Fin 16,∀ y:Fin 16,bits BinOp.or IntKind.i64 ((x.val:Int)*16) (y.val:Int) % 256=((16*x.val+y.val:Nat):Int):=by decide +kernel
 intro x hx y hy
 exact h ⟨x,hx⟩ ⟨y,hy⟩
set_option maxRecDepth 100000 in
set_option maxHeartbeats 2000000 in
theorem hexed_any (r:List Nat) (h8:∀ x∈r,x<256) (hn:r.length≤1099511627776) (w:World):Calls Tryz.prog 272 #[.string (strOf (92 :: 120 :: r))] w fun e w'=>e = .returned (escV (esc (92 :: 120 :: r)))∧w'=w:=by
 have HS:=Lib.hid (strIs (92 :: 120 :: r) (by intro x hx; simp at hx; rcases hx with rfl | rfl | hx; omega; omega; exact h8 x hx))
 have hz:=HS.out.1
 match r,h8 with
 | [], _ =>
   generalize strOf [92,120]=S at *
   simp at hz
   go_enter Tryz.func272,Tryz.ntmps272
   go_wp2_with fail
   go_ret2
   exact ⟨rfl,rfl⟩
 | [a], _ =>
   generalize strOf [92,120,a]=S at *
   simp at hz
   go_enter Tryz.func272,Tryz.ntmps272
   go_wp2_with fail
   go_ret2
   exact ⟨rfl,rfl⟩
 | a :: b :: r,h8 =>
   have ha:a<256:=h8 a (by simp)
   have hb:b<256:=h8 b (by simp)
   obtain ⟨S,hS⟩:∃ S,S=strOf (92 :: 120 :: a :: b :: r):=⟨_,rfl⟩
   rw [← hS] at HS hz ⊢
   clear hS
   have k2:2<S.size:=by rw [hz]; simp
   have k3:3<S.size:=by rw [hz]; simp
   have x2:=HS.out.2 2 (by simp) k2
   have x3:=HS.out.2 3 (by simp) k3
   simp only [List.getElem_cons_succ,List.getElem_cons_zero] at x2 x3
   have d0:decide ((S.size:Int)<4)=false:=decide_eq_false (by omega)
   have HA:=Lib.hid (hexI_eq a ha)
   have HB:=Lib.hid (hexI_eq b hb)
   have he:Hid (esc (92 :: 120 :: a :: b :: r)=match hexd a,hexd b with | some a,some b=>some (16*a+b,4) | _, _ => none):=Lib.hid rfl
   rw [he.out]
   clear hz he
   have HI:=Lib.hid (fun (c:Nat) (hc:c<256)=>show Calls Tryz.prog 281 #[.string ⟨#[48,49,50,51,52,53,54,55,56,57,97,98,99,100,101,102]⟩,.int .u8 (c:Int)] w fun e w'=>e = .returned (.int .i64 (hexI c))∧w'=w by
     refine (Tryz.strings_IndexByte _ _ w).mono ?_
     rintro e w' ⟨rfl,rfl⟩
     exact ⟨by rw [← hexI_eq c hc]; rfl,rfl⟩)
   have IA:=Lib.hid (HI.out a ha)
   have IB:=Lib.hid (HI.out b hb)
   clear HA HB HI
   unfold hexI at IA IB
   go_enter Tryz.func272,Tryz.ntmps272
   cases hA:hexd a with
   | none =>
     rw [hA] at IA
     cases hB:hexd b with
     | none =>
       rw [hB] at IB
       go_wp2_with (first | (go_at_call 281; refine IA.out.mono ?_; rintro e w' ⟨he,hw⟩; subst hw; subst he) | (go_at_call 281; refine IB.out.mono ?_; rintro e w' ⟨he,hw⟩; subst hw; subst he))
       go_ret2
       exact ⟨rfl,rfl⟩
     | some y =>
       rw [hB] at IB
       go_wp2_with (first | (go_at_call 281; refine IA.out.mono ?_; rintro e w' ⟨he,hw⟩; subst hw; subst he) | (go_at_call 281; refine IB.out.mono ?_; rintro e w' ⟨he,hw⟩; subst hw; subst he))
       go_ret2
       exact ⟨rfl,rfl⟩
   | some x =>
     rw [hA] at IA
     have hx16:=(hexd_ne hA).2
     cases hB:hexd b with
     | none =>
       rw [hB] at IB
       go_wp2_with (first | (go_at_call 281; refine IA.out.mono ?_; rintro e w' ⟨he,hw⟩; subst hw; subst he) | (go_at_call 281; refine IB.out.mono ?_; rintro e w' ⟨he,hw⟩; subst hw; subst he))
       go_ret2
       exact ⟨rfl,rfl⟩
     | some y =>
       rw [hB] at IB
       have hy16:=(hexd_ne hB).2
       go_wp2_with (first | (go_at_call 281; refine IA.out.mono ?_; rintro e w' ⟨he,hw⟩; subst hw; subst he) | (go_at_call 281; refine IB.out.mono ?_; rintro e w' ⟨he,hw⟩; subst hw; subst he))
       go_ret2
       refine ⟨?_,rfl⟩
       show Ending.returned (.tuple #[.int .u8 (bits BinOp.or IntKind.i64 ((x:Int)*16) (y:Int) % 256),.int .i64 4]) = _
       rw [hex_or x hx16 y hy16]
       rfl
theorem esc_none {a b:Nat} {r:List Nat} (h:¬ (a=92∧(b=34∨b=92∨b=110∨b=120))):esc (a :: b :: r)=none:=by
 unfold esc
 split
 all_goals first
   | rfl
   | (rename_i e; simp only [List.cons.injEq] at e; obtain ⟨rfl,rfl,-⟩:=e; exact absurd ⟨rfl,by simp⟩ h)
set_option maxRecDepth 100000 in
set_option maxHeartbeats 2000000 in
theorem escaped_any (T:List Nat) (h8:∀ x∈T,x<256) (hn:T.length≤1099511627776) (w:World):Calls Tryz.prog 259 #[.string (strOf T)] w fun e w'=>e = .returned (escV (esc T))∧w'=w:=by
 have HS:=Lib.hid (strIs T h8)
 have hz:=HS.out.1
 match T,h8 with
 | [], _ =>
   generalize strOf []=S at *
   simp at hz
   go_enter Tryz.func259,Tryz.ntmps259
   go_wp2_with fail
   go_ret2
   exact ⟨rfl,rfl⟩
 | [a], _ =>
   have he:esc [a]=none:=by unfold esc; split <;> first | rfl | (rename_i e; simp at e)
   rw [he]
   generalize strOf [a]=S at *
   simp at hz
   go_enter Tryz.func259,Tryz.ntmps259
   go_wp2_with fail
   go_ret2
   exact ⟨rfl,rfl⟩
 | a :: b :: r,h8 =>
   by_cases ha:a=92
   · subst ha
     by_cases hx:b=120
     · subst hx
       have HX:=Lib.hid (hexed_any r (fun x hx=>h8 x (by simp [hx])) (by simp at hn; omega) w)
       obtain ⟨S,hS⟩:∃ S,S=strOf (92 :: 120 :: r):=⟨_,rfl⟩
       rw [← hS] at HS HX hz ⊢
       clear hS
       obtain ⟨V,hV⟩:∃ V,Hid (escV (esc (92 :: 120 :: r))=V∧∃ x n:Nat,V = .tuple #[.int .u8 (x:Int),.int .i64 (n:Int)]):=by
         refine ⟨_,Lib.hid ⟨rfl,?_⟩⟩
         unfold escV
         split
         · exact ⟨_, _,rfl⟩
         · exact ⟨0,0,rfl⟩
       rw [hV.out.1] at HX ⊢
       obtain ⟨-,vx,vn,rfl⟩:=hV.out
       have k0:0<S.size:=by rw [hz]; simp
       have k1:1<S.size:=by rw [hz]; simp
       have x0:=HS.out.2 0 (by simp) k0
       have x1:=HS.out.2 1 (by simp) k1
       simp only [List.getElem_cons_succ,List.getElem_cons_zero] at x0 x1
       have d0:decide ((S.size:Int)<2)=false:=decide_eq_false (by omega)
       clear hz
       go_enter Tryz.func259,Tryz.ntmps259
       go_wp2_with (go_at_call 272; refine HX.out.mono ?_; rintro e w' ⟨he,hw⟩; subst hw; subst he)
       go_ret2
       exact ⟨rfl,rfl⟩
     · by_cases h1:b=34∨b=92∨b=110
       · rcases h1 with rfl | rfl | rfl
         · obtain ⟨S,hS⟩:∃ S,S=strOf (92 :: 34 :: r):=⟨_,rfl⟩
           rw [← hS] at HS hz ⊢
           clear hS
           have k0:0<S.size:=by rw [hz]; simp
           have k1:1<S.size:=by rw [hz]; simp
           have x0:=HS.out.2 0 (by simp) k0
           have x1:=HS.out.2 1 (by simp) k1
           simp only [List.getElem_cons_succ,List.getElem_cons_zero] at x0 x1
           have d0:decide ((S.size:Int)<2)=false:=decide_eq_false (by omega)
           clear hz
           go_enter Tryz.func259,Tryz.ntmps259
           go_wp2_with fail
           go_ret2
           exact ⟨rfl,rfl⟩
         · obtain ⟨S,hS⟩:∃ S,S=strOf (92 :: 92 :: r):=⟨_,rfl⟩
           rw [← hS] at HS hz ⊢
           clear hS
           have k0:0<S.size:=by rw [hz]; simp
           have k1:1<S.size:=by rw [hz]; simp
           have x0:=HS.out.2 0 (by simp) k0
           have x1:=HS.out.2 1 (by simp) k1
           simp only [List.getElem_cons_succ,List.getElem_cons_zero] at x0 x1
           have d0:decide ((S.size:Int)<2)=false:=decide_eq_false (by omega)
           clear hz
           go_enter Tryz.func259,Tryz.ntmps259
           go_wp2_with fail
           go_ret2
           exact ⟨rfl,rfl⟩
         · obtain ⟨S,hS⟩:∃ S,S=strOf (92 :: 110 :: r):=⟨_,rfl⟩
           rw [← hS] at HS hz ⊢
           clear hS
           have k0:0<S.size:=by rw [hz]; simp
           have k1:1<S.size:=by rw [hz]; simp
           have x0:=HS.out.2 0 (by simp) k0
           have x1:=HS.out.2 1 (by simp) k1
           simp only [List.getElem_cons_succ,List.getElem_cons_zero] at x0 x1
           have d0:decide ((S.size:Int)<2)=false:=decide_eq_false (by omega)
           clear hz
           go_enter Tryz.func259,Tryz.ntmps259
           go_wp2_with fail
           go_ret2
           exact ⟨rfl,rfl⟩
       · rw [esc_none (by omega)]
         obtain ⟨S,hS⟩:∃ S,S=strOf (92 :: b :: r):=⟨_,rfl⟩
         rw [← hS] at HS hz ⊢
         clear hS
         have k0:0<S.size:=by rw [hz]; simp
         have k1:1<S.size:=by rw [hz]; simp
         have x0:=HS.out.2 0 (by simp) k0
         have x1:=HS.out.2 1 (by simp) k1
         simp only [List.getElem_cons_succ,List.getElem_cons_zero] at x0 x1
         have d0:decide ((S.size:Int)<2)=false:=decide_eq_false (by omega)
         have d1:((b:Int) == 34)=false:=beq_eq_false_iff_ne.2 (by omega)
         have d2:((b:Int) == 92)=false:=beq_eq_false_iff_ne.2 (by omega)
         have d3:((b:Int) == 110)=false:=beq_eq_false_iff_ne.2 (by omega)
         have d4:((b:Int) == 120)=false:=beq_eq_false_iff_ne.2 (by omega)
         clear hz
         go_enter Tryz.func259,Tryz.ntmps259
         go_wp2_with fail
         go_ret2
         exact ⟨rfl,rfl⟩
   · rw [esc_none (by omega)]
     obtain ⟨S,hS⟩:∃ S,S=strOf (a :: b :: r):=⟨_,rfl⟩
     rw [← hS] at HS hz ⊢
     clear hS
     have k0:0<S.size:=by rw [hz]; simp
     have x0:=HS.out.2 0 (by simp) k0
     simp only [List.getElem_cons_zero] at x0
     have d0:decide ((S.size:Int)<2)=false:=decide_eq_false (by rw [hz]; simp; omega)
     have d1:((a:Int) != 92)=true:=bne_iff_ne.2 (by omega)
     clear hz
     go_enter Tryz.func259,Tryz.ntmps259
     go_wp2_with fail
     go_ret2
     exact ⟨rfl,rfl⟩
end Go.Proofs.YtcmopnkldplngabGreatDoor
namespace Go.Proofs.YtcmopnkldplngabGreatDoor
open Go.RowKit
set_option linter.unusedVariables false
structure Wt (w:World):Prop where
 sg:∀ j,j<24→w.cell? ⟨3,j,none⟩=some (.string (strOf (signs.getD j [])))
 er:∃ ev,w.cell? ⟨7,0,none⟩=some ev∧(ev = .nilIface∨∃ te pe,ev = .iface te pe)
theorem Wt.below {w w':World} (h:Wt w) (hb:Below w.heap.size w w'):Wt w':=by
 refine ⟨fun j hj=>(hb.cell (p:=⟨_,j,none⟩) (World.block_lt_of_cell? _ _ (h.sg j hj))).trans (h.sg j hj),?_⟩
 obtain ⟨ev,h1,h2⟩:=h.er
 exact ⟨ev,(hb.cell (p:=⟨_,0,none⟩) (World.block_lt_of_cell? _ _ h1)).trans h1,h2⟩
theorem set6 {X:World} {g:Nat} {y0 y1 y2 y3 y4 y5:Value} (q:X.heap[g]?=some (.cells #[y0,y1,y2,y3,y4,y5] 225 (0,0))) (z0 z1 z2 z3 z4 z5:Value):((((((X.setCell ⟨g,0,none⟩ z0).setCell ⟨g,1,none⟩ z1).setCell ⟨g,2,none⟩ z2).setCell ⟨g,3,none⟩ z3).setCell ⟨g,4,none⟩ z4).setCell ⟨g,5,none⟩ z5).heap[g]?=some (.cells #[z0,z1,z2,z3,z4,z5] 225 (0,0)):=by
 have:=heap_set (heap_set (heap_set (heap_set (heap_set (heap_set q 0 z0) 1 z1) 2 z2) 3 z3) 4 z4) 5 z5
 simpa using this
theorem bel6 {B:Nat} {w X:World} {g:Nat} (hb:Below B w X) (hg:B≤g) (z0 z1 z2 z3 z4 z5:Value):Below B w ((((((X.setCell ⟨g,0,none⟩ z0).setCell ⟨g,1,none⟩ z1).setCell ⟨g,2,none⟩ z2).setCell ⟨g,3,none⟩ z3).setCell ⟨g,4,none⟩ z4).setCell ⟨g,5,none⟩ z5) :=
 (((((hb.setCell hg _).setCell hg _).setCell hg _).setCell hg _).setCell hg _).setCell hg _
theorem ret_sign {w X:World} {g:Nat} {y0 y1 y2 y3 y4 y5 z0 z1 z2 z3 z4 z5:Value} {b:Bool} {V:Value} {a:Act} (q:X.heap[g]?=some (.cells #[y0,y1,y2,y3,y4,y5] 225 (0,0))) (hb:Below w.heap.size w X) (hg:w.heap.size≤g) (h2:a.tmps[2]?.getD undef = .pointer (some ⟨g,0,none⟩)) (h3:a.tmps[3]?.getD undef = .bool b) (hd:a.defers=[]) (hV:V = .tuple #[.agg #[z0,z1,z2,z3,z4,z5],.bool b]) :
   bodyPost Tryz.prog Tryz.f240 (fun e w'=>e = .returned V∧Below w.heap.size w w') Exit.ret a ((((((X.setCell ⟨g,0,none⟩ z0).setCell ⟨g,1,none⟩ z1).setCell ⟨g,2,none⟩ z2).setCell ⟨g,3,none⟩ z3).setCell ⟨g,4,none⟩ z4).setCell ⟨g,5,none⟩ z5):=by
 have p:=set6 q z0 z1 z2 z3 z4 z5
 have c0:=cell_block p 0
 have c1:=cell_block p 1
 have c2:=cell_block p 2
 have c3:=cell_block p 3
 have c4:=cell_block p 4
 have c5:=cell_block p 5
 subst hV
 exact bodyPost_ret (v := .tuple #[.agg #[z0,z1,z2,z3,z4,z5],.bool b]) (by simp [results,Tryz.results240,go_sem,h2,h3,c0,c1,c2,c3,c4,c5]) hd ⟨rfl,bel6 hb hg _ _ _ _ _ _⟩
def sgnV (q:Option (List Nat)):Value:=match q with
 | some s => .tuple #[.agg #[.int .u8 5,.string (strOf s),.int .i64 0,.int .i64 0,.int .i64 0,.int .i64 (s.length:Int)],.bool true]
 | none => .tuple #[.agg #[.int .u8 0,.string ⟨#[]⟩,.int .i64 0,.int .i64 0,.int .i64 0,.int .i64 0],.bool false]
theorem pfx_map:∀ (s T:List Nat),(∀ x∈s,x<256)→(∀ x∈T,x<256)→(s.map UInt8.ofNat).isPrefixOf (T.map UInt8.ofNat)=s.isPrefixOf T
 | [],T, _, _ => by simp
 | a :: s,[], _, _ => by simp
 | a :: s,b :: T,h,h'=>by
   have ha:=h a (by simp)
   have hb:=h' b (by simp)
   have ih:=pfx_map s T (fun x hx=>h x (by simp [hx])) (fun x hx=>h' x (by simp [hx]))
   simp only [List.map_cons,List.isPrefixOf]
   rw [ih]
   have e:(UInt8.ofNat a == UInt8.ofNat b)=(a == b):=by
     rw [Bool.eq_iff_iff,beq_iff_eq,beq_iff_eq]
     refine ⟨fun e=>?_,fun e=>by rw [e]⟩
     have:=congrArg UInt8.toNat e
     rw [UInt8.toNat_ofNat',UInt8.toNat_ofNat',Nat.mod_eq_of_lt ha,Nat.mod_eq_of_lt hb] at this
     exact this
   rw [e]
theorem find_hit {α:Type} (p:α→Bool) (d:α):∀ (l:List α) (j:Nat),j<l.length→(∀ i,i<j→p (l.getD i d)=false)→p (l.getD j d)=true→l.find? p=some (l.getD j d)
 | [],j,h, _, _ => by simp at h
 | x :: r,0, _, _,h=>by
   have h':p x=true:=h
   rw [List.find?_cons,h']
   rfl
 | x :: r,j+1,hj,h0,h=>by
   have h':p x=false:=h0 0 (by omega)
   rw [List.find?_cons,h']
   exact find_hit p d r j (by simpa using hj) (fun i hi=>h0 (i+1) (by omega)) h
theorem find_miss {α:Type} (p:α→Bool) (d:α):∀ (l:List α),(∀ i,i<l.length→p (l.getD i d)=false)→l.find? p=none
 | [], _ => rfl
 | x :: r,h0=>by
   have h':p x=false:=h0 0 (by simp)
   rw [List.find?_cons,h']
   exact find_miss p d r (fun i hi=>h0 (i+1) (by simpa using hi))
def sgA:Value := .agg (signs.map fun s=>Value.string (strOf s)).toArray
theorem sg_idx (w:World):∀ j:Nat,j<24→(Instr.index 369 sgA (.int .i64 (j:Int))).run Tryz.prog w = .ok (.string (strOf (signs.getD j []))) w
 | 0, _ => by kernel_rfl
 | 1, _ => by kernel_rfl
 | 2, _ => by kernel_rfl
 | 3, _ => by kernel_rfl
 | 4, _ => by kernel_rfl
 | 5, _ => by kernel_rfl
 | 6, _ => by kernel_rfl
 | 7, _ => by kernel_rfl
 | 8, _ => by kernel_rfl
 | 9, _ => by kernel_rfl
 | 10, _ => by kernel_rfl
 | 11, _ => by kernel_rfl
 | 12, _ => by kernel_rfl
 | 13, _ => by kernel_rfl
 | 14, _ => by kernel_rfl
 | 15, _ => by kernel_rfl
 | 16, _ => by kernel_rfl
 | 17, _ => by kernel_rfl
 | 18, _ => by kernel_rfl
 | 19, _ => by kernel_rfl
 | 20, _ => by kernel_rfl
 | 21, _ => by kernel_rfl
 | 22, _ => by kernel_rfl
 | 23, _ => by kernel_rfl
 | n+24,h=>absurd h (by omega)
set_option maxRecDepth 100000 in
set_option maxHeartbeats 4000000 in
theorem sign_any (T:List Nat) (h8:∀ x∈T,x<256) (hn:T.length≤1099511627776) (w:World) (hw:Wt w):Calls Tryz.prog 240 #[.string (strOf T)] w fun e w'=>e = .returned (sgnV (sgn T))∧Below w.heap.size w w':=by
 have HP:=Lib.hid (fun (s:List Nat) (L:ByteArray) (hL:L=strOf s) (hs:∀ x∈s,x<256) (w:World)=>show Calls Tryz.prog 258 #[.string (strOf T),.string L] w fun e w'=>e = .returned (.bool (s.isPrefixOf T))∧w'=w by
   subst hL
   refine (Tryz.strings_HasPrefix (strOf T) (strOf s) w).mono ?_
   rintro e w' ⟨rfl,rfl⟩
   refine ⟨?_,rfl⟩
   show Ending.returned (Value.bool ((strOf s).data.toList.isPrefixOf (strOf T).data.toList)) = _
   rw [strOf_data,strOf_data,pfx_map s T hs h8])
 have HSG:=Lib.hid (fun j hj h0 h=>find_hit (fun s=>s.isPrefixOf T) [] signs j hj h0 h)
 have HSM:=Lib.hid (fun h0=>find_miss (fun s=>s.isPrefixOf T) [] signs h0)
 have HSZ:=Lib.hid (fun h0=>find_miss (fun s=>s.isPrefixOf T) [] signs h0)
 have h3:3<w.heap.size:=World.block_lt_of_cell? _ _ (hw.sg 0 (by decide))
 obtain ⟨V,hV⟩:∃ V,V=w.alloc (.cells #[.int .u8 0,.string ⟨#[]⟩,.int .i64 0,.int .i64 0,.int .i64 0,.int .i64 0] 225):=⟨_,rfl⟩
 have HBV:Hid (Below w.heap.size w V):=Lib.hid (by rw [hV]; exact (Below.refl w.heap.size w).alloc (Nat.le_refl _) _)
 have HVQ:Hid (V.heap[w.heap.size]?=some (.cells #[.int .u8 0,.string ⟨#[]⟩,.int .i64 0,.int .i64 0,.int .i64 0,.int .i64 0] 225 (0,0))):=Lib.hid (by rw [hV]; exact heap_new w _)
 obtain ⟨cs,hcs⟩:∃ cs,Hid (cs=signs.map fun s=>Value.string (strOf s)):=⟨_,Lib.hid rfl⟩
 have HRG:Hid (V.rangeAt 3 0 cs):=Lib.hid (fun j v hv=>by
   rw [hcs.out] at hv
   rw [List.getElem?_map] at hv
   obtain ⟨s,h1,rfl⟩:=Option.map_eq_some_iff.1 hv
   have hj:j<24:=(List.getElem?_eq_some_iff.1 h1).1
   have:=(hw.below HBV.out).sg j hj
   rw [Nat.zero_add,this,List.getD_eq_getElem?_getD,h1]
   rfl)
 have HW:=Lib.hid (hw.below HBV.out)
 generalize hgs:sgn T=G
 have HGS:=Lib.hid hgs
 generalize strOf T=S at *
 clear h8 hw hgs
 go_enter Tryz.func240,Tryz.ntmps240
 go_upto_region 1 with fail
 rw [← hV]
 obtain ⟨g,hg⟩:∃ g,g=w.heap.size:=⟨_,rfl⟩
 rw [← hg] at HVQ ⊢
 have HGG:Hid (w.heap.size≤g):=Lib.hid (by omega)
 clear hV hg
 have HIX:Hid (∀ (j:Nat),j<24→∀ w,(Instr.index 369 (.agg cs.toArray) (.int .i64 (j:Int))).run Tryz.prog w = .ok (.string (strOf (signs.getD j []))) w):=Lib.hid (fun j hj w=>by rw [hcs.out]; exact sg_idx w j hj)
 have HB8:Hid (∀ j,j<24→∀ x∈signs.getD j [],x<256):=Lib.hid (by decide)
 go_wp2_with ((with_reducible show wpList _ _ _ (⟨_,Op.load _ _, _, _, _, _⟩ :: _) _ _); refine wpList_load_mid rfl _ _ rfl 3 0 rfl cs _ HRG.out Tryz.underlying369 rfl (by rw [hcs.out]; kernel_rfl) ?_)
 have y0:=cell_block HVQ.out 0
 have y1:=cell_block HVQ.out 1
 have y2:=cell_block HVQ.out 2
 have y3:=cell_block HVQ.out 3
 have y4:=cell_block HVQ.out 4
 have y5:=cell_block HVQ.out 5
 have z0:=free_block HVQ.out 0
 have z1:=free_block HVQ.out 1
 have z2:=free_block HVQ.out 2
 have z3:=free_block HVQ.out 3
 have z4:=free_block HVQ.out 4
 have z5:=free_block HVQ.out 5
 go_loopw [7] (fun i wr=>∃ j:Nat,j≤24∧i = .int .i64 (j:Int)∧wr=V∧Hid (∀ i,i<j→(signs.getD i []).isPrefixOf T=false)) (fun i _ => 24-(intOf i).toNat)
 case atStart=>exact ⟨0,by omega,rfl,rfl,Lib.hid (fun i hi=>by omega)⟩
 case round =>
   obtain ⟨j,hj,rfl,rfl,HM⟩:=hrel
   by_cases hlt:j<24
   · have hix:=HIX.out j hlt
     have HC:=Lib.hid (HP.out (signs.getD j []) _ rfl (HB8.out j hlt))
     obtain ⟨b,hb⟩:∃ b,Hid ((signs.getD j []).isPrefixOf T=b):=⟨_,Lib.hid rfl⟩
     rw [hb.out] at HC
     obtain ⟨s,hs⟩:∃ s,Hid (signs.getD j []=s):=⟨_,Lib.hid rfl⟩
     rw [hs.out] at HC hix
     have HZ:=Lib.hid (strOf_size s)
     obtain ⟨L,hL⟩:∃ L,Hid (strOf s=L):=⟨_,Lib.hid rfl⟩
     rw [hL.out] at HC HZ hix
     cases b with
     | true =>
       go_wp2_with (go_at_call 258; refine (HC.out _).mono ?_; rintro e w' ⟨he,hw⟩; subst hw; subst he)
       refine ret_sign HVQ.out HBV.out HGG.out rfl rfl rfl ?_
       have e:G=some s:=by rw [← HGS.out,← hs.out]; exact HSG.out j hlt HM.out hb.out
       rw [e,← hL.out]
       rw [strOf_size]
       rfl
     | false =>
       go_wp2_with (go_at_call 258; refine (HC.out _).mono ?_; rintro e w' ⟨he,hw⟩; subst hw; subst he)
       go_roundw
       case rel=>exact ⟨j+1,by omega,by go_num,trivial,Lib.hid (fun i hi=>by
         rcases Nat.lt_or_ge i j with h | h
         · exact HM.out i h
         · obtain rfl:i=j:=by omega
           exact hb.out)⟩
       case measure=>simp [intOf]; omega
   · obtain rfl:j=24:=by omega
     go_wp2_with fail
     refine ret_sign HVQ.out HBV.out HGG.out rfl rfl rfl ?_
     have e:G=none:=by rw [← HGS.out]; exact HSM.out HM.out
     rw [e]
     rfl
end Go.Proofs.YtcmopnkldplngabGreatDoor
namespace Go.Proofs.YtcmopnkldplngabGreatDoor
open Go.RowKit
set_option linter.unusedVariables false
def tokV (q:Option Tk):Value:=match q with
 | some t => .tuple #[.agg #[.int .u8 (t.k:Int),.string (strOf t.s),.int .i64 (t.n:Int),.int .i64 0,.int .i64 0,.int .i64 (t.e:Int)],.bool true]
 | none => .tuple #[.agg #[.int .u8 0,.string ⟨#[]⟩,.int .i64 0,.int .i64 0,.int .i64 0,.int .i64 0],.bool false]
theorem take_dig (T:List Nat) (p:Nat→Bool):(strOf T).extract 0 (T.takeWhile p).length=strOf (T.takeWhile p):=by
 rw [strOf_extract,List.drop_zero,tw_eq]
theorem ret_number {w X:World} {g:Nat} {y0 y1 y2 y3 y4 y5 z0 z1 z2 z3 z4 z5:Value} {b:Bool} {V:Value} {a:Act} (q:X.heap[g]?=some (.cells #[y0,y1,y2,y3,y4,y5] 225 (0,0))) (hb:Below w.heap.size w X) (hg:w.heap.size≤g) (h2:a.tmps[2]?.getD undef = .pointer (some ⟨g,0,none⟩)) (h3:a.tmps[3]?.getD undef = .bool b) (hd:a.defers=[]) (hV:V = .tuple #[.agg #[z0,z1,z2,z3,z4,z5],.bool b]) :
   bodyPost Tryz.prog Tryz.f236 (fun e w'=>e = .returned V∧Below w.heap.size w w') Exit.ret a ((((((X.setCell ⟨g,0,none⟩ z0).setCell ⟨g,1,none⟩ z1).setCell ⟨g,2,none⟩ z2).setCell ⟨g,3,none⟩ z3).setCell ⟨g,4,none⟩ z4).setCell ⟨g,5,none⟩ z5):=by
 have p:=set6 q z0 z1 z2 z3 z4 z5
 have c0:=cell_block p 0
 have c1:=cell_block p 1
 have c2:=cell_block p 2
 have c3:=cell_block p 3
 have c4:=cell_block p 4
 have c5:=cell_block p 5
 subst hV
 exact bodyPost_ret (v := .tuple #[.agg #[z0,z1,z2,z3,z4,z5],.bool b]) (by simp [results,Tryz.results236,go_sem,h2,h3,c0,c1,c2,c3,c4,c5]) hd ⟨rfl,bel6 hb hg _ _ _ _ _ _⟩
set_option maxRecDepth 100000 in
set_option maxHeartbeats 4000000 in
theorem number_any (T:List Nat) (h8:∀ x∈T,x<256) (hn:T.length≤1099511627776) (w:World) (hw:Wt w) (h0:T.takeWhile dig≠[]):Calls Tryz.prog 236 #[.string (strOf T)] w fun e w'=>e = .returned (tokV (num T))∧Below w.heap.size w w':=by
 have HR:=Lib.hid (fun w=>run_dig h8 hn w)
 have hx:=take_dig T dig
 have hl:=tw_len (p:=dig) T
 have hp:=parse_dig (T.takeWhile dig) (tw_all T) h0
 rw [← strOf_data] at hp
 have hs:(strOf (T.takeWhile dig)).size=(T.takeWhile dig).length:=strOf_size _
 have hS:(strOf T).size=T.length:=strOf_size _
 unfold num
 generalize strOf (T.takeWhile dig)=D at *
 generalize dval (T.takeWhile dig)=v at *
 generalize (T.takeWhile dig).length=k at *
 generalize strOf T=S at *
 obtain ⟨R,hR⟩:∃ R,Hid (tokV (if v≤9223372036854775807 then some ⟨1,v,[],k⟩ else none)=R):=⟨_,Lib.hid rfl⟩
 rw [hR.out]
 obtain ⟨V,hV⟩:∃ V,V=w.alloc (.cells #[.int .u8 0,.string ⟨#[]⟩,.int .i64 0,.int .i64 0,.int .i64 0,.int .i64 0] 225):=⟨_,rfl⟩
 have HBV:Hid (Below w.heap.size w V):=Lib.hid (by rw [hV]; exact (Below.refl w.heap.size w).alloc (Nat.le_refl _) _)
 have HVQ:Hid (V.heap[w.heap.size]?=some (.cells #[.int .u8 0,.string ⟨#[]⟩,.int .i64 0,.int .i64 0,.int .i64 0,.int .i64 0] 225 (0,0))):=Lib.hid (by rw [hV]; exact heap_new w _)
 have HW:=Lib.hid (hw.below HBV.out)
 have hkk:decide ((k:Int)≤(S.size:Int))=true:=decide_eq_true (by omega)
 go_enter Tryz.func236,Tryz.ntmps236
 go_upto_region 1 with fail
 rw [← hV]
 obtain ⟨g,hg⟩:∃ g,g=w.heap.size:=⟨_,rfl⟩
 rw [← hg] at HVQ ⊢
 have HGG:Hid (w.heap.size≤g):=Lib.hid (by omega)
 clear hV hg
 by_cases hv:v≤9223372036854775807
 · rw [if_pos hv] at hp
   have HPI:=Lib.hid (show Calls Tryz.prog 256 #[.string D,.int .i64 10,.int .i64 64] V fun e w'=>e = .returned (.tuple #[.int .i64 (v:Int),.nilIface])∧Below V.heap.size V w' from (Tryz.strconv_ParseInt_10_at64_ok D (by omega) _ hp V).mono (by
     rintro e w' ⟨rfl,rfl | ⟨t,rfl⟩⟩
     · exact ⟨rfl,Below.refl _ _⟩
     · exact ⟨rfl,Lib.bytesWorld_below _ _ _⟩))
   clear hp
   go_wp2_with (first
     | (go_at_call 229
        refine (HR.out _).mono ?_
        rintro e w' ⟨he,hw⟩
        subst hw
        subst he)
     | (go_at_call 256
        refine HPI.out.mono ?_
        rintro e w1 ⟨he,hb⟩
        subst he
        have HB1:=Lib.hid hb
        have HV1:=Lib.hid (heap_below HVQ.out hb)
        clear hb
        have y0:=cell_block HV1.out 0
        have z0:=free_block HV1.out 0
        have y1:=cell_block HV1.out 1
        have z1:=free_block HV1.out 1
        have y2:=cell_block HV1.out 2
        have z2:=free_block HV1.out 2
        have y3:=cell_block HV1.out 3
        have z3:=free_block HV1.out 3
        have y4:=cell_block HV1.out 4
        have z4:=free_block HV1.out 4
        have y5:=cell_block HV1.out 5
        have z5:=free_block HV1.out 5
)
     | (fail))
   exact ret_number HV1.out (HBV.out.trans (HB1.out.mono HBV.out.size)) HGG.out rfl rfl rfl (by rw [← hR.out,if_pos hv]; rfl)
 · rw [if_neg hv] at hp
   obtain ⟨ev,h1,h2⟩:=HW.out.er
   have HPI:=Lib.hid (show Calls Tryz.prog 256 #[.string D,.int .i64 10,.int .i64 64] V fun e w'=>(∃ x t p,e = .returned (.tuple #[.int .i64 x,.iface t p]))∧Below V.heap.size V w' from (Tryz.strconv_ParseInt_10_at64_range D (by omega) hp ev V h1 h2).mono (by
     rintro e w' ⟨N,rfl,-,-,hb⟩
     exact ⟨⟨_, _, _,rfl⟩,hb⟩))
   clear hp h1 h2
   go_wp2_with (first
     | (go_at_call 229
        refine (HR.out _).mono ?_
        rintro e w' ⟨he,hw⟩
        subst hw
        subst he)
     | (go_at_call 256
        refine HPI.out.mono ?_
        rintro e w1 ⟨⟨px,pt,pv,he⟩,hb⟩
        subst he
        have HB1:=Lib.hid hb
        have HV1:=Lib.hid (heap_below HVQ.out hb)
        clear hb
        have y0:=cell_block HV1.out 0
        have z0:=free_block HV1.out 0
        have y1:=cell_block HV1.out 1
        have z1:=free_block HV1.out 1
        have y2:=cell_block HV1.out 2
        have z2:=free_block HV1.out 2
        have y3:=cell_block HV1.out 3
        have z3:=free_block HV1.out 3
        have y4:=cell_block HV1.out 4
        have z4:=free_block HV1.out 4
        have y5:=cell_block HV1.out 5
        have z5:=free_block HV1.out 5
)
     | (fail))
   exact ret_number HV1.out (HBV.out.trans (HB1.out.mono HBV.out.size)) HGG.out rfl rfl rfl (by rw [← hR.out,if_neg hv]; rfl)
end Go.Proofs.YtcmopnkldplngabGreatDoor
namespace Go.Proofs.YtcmopnkldplngabGreatDoor
open Go.RowKit
set_option linter.unusedVariables false
theorem sclone_any (S:ByteArray) (hn:S.size≤281474976710656) (w:World):Calls Tryz.prog 261 #[.string S] w fun e w'=>e = .returned (.string S)∧Below w.heap.size w w':=by
 have H:=Lib.hid (Tryz.stringslite_Clone S w hn)
 go_enter Tryz.func261,Tryz.ntmps261
 go_wp2_with (go_at_call 273; refine H.out.mono ?_; rintro e w' ⟨he,hb⟩; subst he)
 go_ret
 exact ⟨rfl,hb⟩
theorem ret_name {w X:World} {g:Nat} {y0 y1 y2 y3 y4 y5 z0 z1 z2 z3 z4 z5:Value} {V:Value} {a:Act} (o:Obj) (q:X.heap[g]?=some (.cells #[y0,y1,y2,y3,y4,y5] 225 (0,0))) (hb:Below w.heap.size w X) (hg:w.heap.size≤g) (h2:a.tmps[2]?.getD undef = .pointer (some ⟨g,0,none⟩)) (hd:a.defers=[]) (hV:V = .agg #[z0,z1,z2,z3,z4,z5]) :
   bodyPost Tryz.prog Tryz.f239 (fun e w'=>e = .returned V∧Below w.heap.size w w') Exit.ret a (((((((X.setCell ⟨g,0,none⟩ z0).setCell ⟨g,1,none⟩ z1).setCell ⟨g,2,none⟩ z2).setCell ⟨g,3,none⟩ z3).setCell ⟨g,4,none⟩ z4).setCell ⟨g,5,none⟩ z5).alloc o):=by
 have p:=heap_old (set6 q z0 z1 z2 z3 z4 z5) o
 have c0:=cell_block p 0
 have c1:=cell_block p 1
 have c2:=cell_block p 2
 have c3:=cell_block p 3
 have c4:=cell_block p 4
 have c5:=cell_block p 5
 subst hV
 exact bodyPost_ret (v := .agg #[z0,z1,z2,z3,z4,z5]) (by simp [results,Tryz.results239,go_sem,h2,c0,c1,c2,c3,c4,c5]) hd ⟨rfl,(bel6 hb hg _ _ _ _ _ _).alloc (bel6 hb hg _ _ _ _ _ _).size _⟩
set_option maxRecDepth 100000 in
set_option maxHeartbeats 4000000 in
theorem name_any (T:List Nat) (h8:∀ x∈T,x<256) (hn:T.length≤1099511627776) (w:World):Calls Tryz.prog 239 #[.string (strOf T)] w fun e w'=>e = .returned (.agg #[.int .u8 (if T.takeWhile wrd∈keys then 4 else 3),.string (strOf (T.takeWhile wrd)),.int .i64 0,.int .i64 0,.int .i64 0,.int .i64 ((T.takeWhile wrd).length:Int)])∧Below w.heap.size w w':=by
 have HR:=Lib.hid (fun w=>run_wrd h8 hn w)
 have hx:=take_dig T wrd
 have hl:=tw_len (p:=wrd) T
 have HK:=Lib.hid (fun w=>isKey_any (T.takeWhile wrd) (fun x hx=>h8 x ((List.takeWhile_sublist _).subset hx)) w)
 have hs:(strOf (T.takeWhile wrd)).size=(T.takeWhile wrd).length:=strOf_size _
 have hS:(strOf T).size=T.length:=strOf_size _
 have HC:=Lib.hid (fun w=>sclone_any (strOf (T.takeWhile wrd)) (by omega) w)
 have e:((if T.takeWhile wrd∈keys then 4 else 3:Int))=if decide (T.takeWhile wrd∈keys)=true then 4 else 3:=by simp
 rw [e]
 generalize decide (T.takeWhile wrd∈keys)=b at *
 generalize strOf (T.takeWhile wrd)=D at *
 generalize (T.takeWhile wrd).length=k at *
 generalize strOf T=S at *
 have hkk:decide ((k:Int)≤(S.size:Int))=true:=decide_eq_true (by omega)
 clear e
 obtain ⟨V,hV⟩:∃ V,V=w.alloc (.cells #[.int .u8 0,.string ⟨#[]⟩,.int .i64 0,.int .i64 0,.int .i64 0,.int .i64 0] 225):=⟨_,rfl⟩
 have HBV:Hid (Below w.heap.size w V):=Lib.hid (by rw [hV]; exact (Below.refl w.heap.size w).alloc (Nat.le_refl _) _)
 have HVQ:Hid (V.heap[w.heap.size]?=some (.cells #[.int .u8 0,.string ⟨#[]⟩,.int .i64 0,.int .i64 0,.int .i64 0,.int .i64 0] 225 (0,0))):=Lib.hid (by rw [hV]; exact heap_new w _)
 cases b with
 | true =>
   go_enter Tryz.func239,Tryz.ntmps239
   go_upto_region 1 with fail
   rw [← hV]
   obtain ⟨g,hg⟩:∃ g,g=w.heap.size:=⟨_,rfl⟩
   rw [← hg] at HVQ ⊢
   have HGG:Hid (w.heap.size≤g):=Lib.hid (by omega)
   clear hV hg
   go_wp2_with (first
     | (go_at_call 229
        refine (HR.out _).mono ?_
        rintro e w' ⟨he,hw⟩
        subst hw
        subst he)
     | (go_at_call 261
        refine (HC.out _).mono ?_
        rintro e w1 ⟨he,hb⟩
        subst he
        have HB1:=Lib.hid hb
        have HV1:=Lib.hid (heap_below HVQ.out hb)
        have y0:=cell_block HV1.out 0
        have z0:=free_block HV1.out 0
        have y1:=cell_block HV1.out 1
        have z1:=free_block HV1.out 1
        have y2:=cell_block HV1.out 2
        have z2:=free_block HV1.out 2
        have y3:=cell_block HV1.out 3
        have z3:=free_block HV1.out 3
        have y4:=cell_block HV1.out 4
        have z4:=free_block HV1.out 4
        have y5:=cell_block HV1.out 5
        have z5:=free_block HV1.out 5
        have hlt1:=lt_heap HV1.out
        have hne1:g≠w1.heap.size:=by omega
        have hne2:w1.heap.size≠g:=by omega
        clear hb)
     | (go_at_call 262
        refine (HK.out _).mono ?_
        rintro e w' ⟨he,hw⟩
        subst hw
        subst he)
     | (fail))
   exact ret_name _ HV1.out (HBV.out.trans (HB1.out.mono HBV.out.size)) HGG.out rfl rfl rfl
 | false =>
   go_enter Tryz.func239,Tryz.ntmps239
   go_upto_region 1 with fail
   rw [← hV]
   obtain ⟨g,hg⟩:∃ g,g=w.heap.size:=⟨_,rfl⟩
   rw [← hg] at HVQ ⊢
   have HGG:Hid (w.heap.size≤g):=Lib.hid (by omega)
   clear hV hg
   go_wp2_with (first
     | (go_at_call 229
        refine (HR.out _).mono ?_
        rintro e w' ⟨he,hw⟩
        subst hw
        subst he)
     | (go_at_call 261
        refine (HC.out _).mono ?_
        rintro e w1 ⟨he,hb⟩
        subst he
        have HB1:=Lib.hid hb
        have HV1:=Lib.hid (heap_below HVQ.out hb)
        have y0:=cell_block HV1.out 0
        have z0:=free_block HV1.out 0
        have y1:=cell_block HV1.out 1
        have z1:=free_block HV1.out 1
        have y2:=cell_block HV1.out 2
        have z2:=free_block HV1.out 2
        have y3:=cell_block HV1.out 3
        have z3:=free_block HV1.out 3
        have y4:=cell_block HV1.out 4
        have z4:=free_block HV1.out 4
        have y5:=cell_block HV1.out 5
        have z5:=free_block HV1.out 5
        have hlt1:=lt_heap HV1.out
        have hne1:g≠w1.heap.size:=by omega
        have hne2:w1.heap.size≠g:=by omega
        clear hb)
     | (go_at_call 262
        refine (HK.out _).mono ?_
        rintro e w' ⟨he,hw⟩
        subst hw
        subst he)
     | (fail))
   exact ret_name _ HV1.out (HBV.out.trans (HB1.out.mono HBV.out.size)) HGG.out rfl rfl rfl
end Go.Proofs.YtcmopnkldplngabGreatDoor
namespace Go.Proofs.YtcmopnkldplngabGreatDoor
open Go.RowKit
set_option linter.unusedVariables false
theorem strCells_strOf (l:List Nat) (h8:∀ x∈l,x<256):Lib.strCells (strOf l)=bv l:=by
 show ((l.map UInt8.ofNat).toArray.toList).map _ = _
 rw [List.toList_toArray,List.map_map]
 refine List.map_congr_left fun x hx=>?_
 have:=h8 x hx
 simp [UInt8.toNat_ofNat',Nat.mod_eq_of_lt this]
theorem wpList_apps {w:World} {ops:Array Oper} {rest:List Oper} {o:Oper} {a:Act} {Q:Exit→Act→World→Prop} (hgd:o.guard=none) (s x:Operand)
   (ho:o.op = .call { callee := .builtin .append,args:=#[s,x],argTypes:=#[50,9] })
   {base:Nat} {v:Value} {l:List Nat} (hs:a.eval s=v) (hown:Own w base v l) {news:List Nat} (h8:∀ x∈news,x<256) (hx:a.eval x = .string (strOf news))
   (hn:l.length+news.length≤8796093022208) (hbase:base≤w.heap.size)
   (h:∀ v' w',Own w' base v' (l ++ news)→Below base w w'→wpList Tryz.prog ops Q rest (a.put o.dst v') w') :
   wpList Tryz.prog ops Q (o :: rest) a w:=by
 obtain ⟨i0,hi0,hz0,hz1,hz2⟩:=info_parts u8_info
 have e:=strOf_size news
 refine Lib.wpList_append_own_string w hgd s x 50 9 ho base 5 i0 Tryz.underlying50 Tryz.underlying9 hi0 (by simpa using hz0) hz1 hz2 v l.length (bv l) hs hown (strOf news) hx (by unfold maxLen; omega) (by omega) hbase ?_
 intro v' w' h1 h2 h3
 refine h v' w' ?_ ((Below.refl _ _).grown h2 hbase (fun k hk=>(World.ownsRow.lt hown k hk).1))
 unfold Own
 rw [List.length_append,bv_append,← e,← strCells_strOf news h8]
 exact h1
theorem size_alloc (w:World) (o:Obj):w.heap.size≤(w.alloc o).heap.size:=by simp
theorem say_run:∀ R:List Nat,say R=(say (R.drop (R.takeWhile pln).length)).map fun p=>(R.takeWhile pln ++ p.1,p.2+(R.takeWhile pln).length)
 | []=>by simp [say_nil]
 | x :: r=>by
   by_cases hx:pln x=true
   · have h34:x≠34:=by rintro rfl; simp [pln] at hx
     rw [say_cons,if_neg h34,if_pos hx,say_run r,Option.map_map]
     simp only [List.takeWhile_cons,hx,if_true,List.length_cons,List.drop_succ_cons]
     congr 1
   · simp [hx]
theorem ret_quoted {w X:World} {g:Nat} {y0 y1 y2 y3 y4 y5 z0 z1 z2 z3 z4 z5:Value} {b:Bool} {V:Value} {a:Act} (q:X.heap[g]?=some (.cells #[y0,y1,y2,y3,y4,y5] 225 (0,0))) (hb:Below w.heap.size w X) (hg:w.heap.size≤g) (h2:a.tmps[2]?.getD undef = .pointer (some ⟨g,0,none⟩)) (h3:a.tmps[3]?.getD undef = .bool b) (hd:a.defers=[]) (hV:V = .tuple #[.agg #[z0,z1,z2,z3,z4,z5],.bool b]) :
   bodyPost Tryz.prog Tryz.f237 (fun e w'=>e = .returned V∧Below w.heap.size w w') Exit.ret a ((((((X.setCell ⟨g,0,none⟩ z0).setCell ⟨g,1,none⟩ z1).setCell ⟨g,2,none⟩ z2).setCell ⟨g,3,none⟩ z3).setCell ⟨g,4,none⟩ z4).setCell ⟨g,5,none⟩ z5):=by
 have p:=set6 q z0 z1 z2 z3 z4 z5
 have c0:=cell_block p 0
 have c1:=cell_block p 1
 have c2:=cell_block p 2
 have c3:=cell_block p 3
 have c4:=cell_block p 4
 have c5:=cell_block p 5
 subst hV
 exact bodyPost_ret (v := .tuple #[.agg #[z0,z1,z2,z3,z4,z5],.bool b]) (by simp [results,Tryz.results237,go_sem,h2,h3,c0,c1,c2,c3,c4,c5]) hd ⟨rfl,bel6 hb hg _ _ _ _ _ _⟩
theorem hasPrefix_any (T s:List Nat) (L:ByteArray) (hL:L=strOf s) (h8:∀ x∈T,x<256) (hs:∀ x∈s,x<256) (w:World):Calls Tryz.prog 258 #[.string (strOf T),.string L] w fun e w'=>e = .returned (.bool (s.isPrefixOf T))∧w'=w:=by
 subst hL
 refine (Tryz.strings_HasPrefix (strOf T) (strOf s) w).mono ?_
 rintro e w' ⟨rfl,rfl⟩
 refine ⟨?_,rfl⟩
 show Ending.returned (Value.bool ((strOf s).data.toList.isPrefixOf (strOf T).data.toList)) = _
 rw [strOf_data,strOf_data,pfx_map s T hs h8]
theorem run_own_str (l:List Nat) (w:World) (base:Nat) (v:Value) (h:Own w base v l) (h8:∀ x∈l,x<256):(convert 50 9 v).run Tryz.prog w = .ok (.string (strOf l)) w:=by
 obtain ⟨A,c,rfl, _, _,ha, _, _⟩:=h.form
 exact run_strOf w _ A c l ha h8
set_option maxRecDepth 100000 in
set_option maxHeartbeats 4000000 in
theorem quoted_any (T:List Nat) (h8:∀ x∈T,x<256) (hn:T.length≤1099511627776) (w:World):Calls Tryz.prog 237 #[.string (strOf (34 :: T))] w fun e w'=>e = .returned (tokV ((say T).map fun p=>⟨2,0,p.1,p.2+1⟩))∧Below w.heap.size w w':=by
 obtain ⟨R,hR⟩:∃ R,Hid (tokV ((say T).map fun p=>⟨2,0,p.1,p.2+1⟩)=R):=⟨_,Lib.hid rfl⟩
 rw [hR.out]
 have HX:=Lib.hid (fun a b=>strOf_extract (34 :: T) a b)
 have hS:(strOf (34 :: T)).size=T.length+1:=strOf_size _
 generalize strOf (34 :: T)=S at *
 obtain ⟨V,hV⟩:∃ V,V=w.alloc (.cells #[.int .u8 0,.string ⟨#[]⟩,.int .i64 0,.int .i64 0,.int .i64 0,.int .i64 0] 225):=⟨_,rfl⟩
 have HBV:Hid (Below w.heap.size w V):=Lib.hid (by rw [hV]; exact (Below.refl w.heap.size w).alloc (Nat.le_refl _) _)
 have HVQ:Hid (V.heap[w.heap.size]?=some (.cells #[.int .u8 0,.string ⟨#[]⟩,.int .i64 0,.int .i64 0,.int .i64 0,.int .i64 0] 225 (0,0))):=Lib.hid (by rw [hV]; exact heap_new w _)
 go_enter Tryz.func237,Tryz.ntmps237
 go_upto_region 1 with fail
 rw [← hV]
 obtain ⟨g,hg⟩:∃ g,g=w.heap.size:=⟨_,rfl⟩
 rw [← hg] at HVQ ⊢
 have HGG:Hid (w.heap.size≤g):=Lib.hid (by omega)
 clear hV hg
 obtain ⟨U,hU⟩:∃ U,Hid (34 :: T=U):=⟨_,Lib.hid rfl⟩
 have hUl:U.length=T.length+1:=by rw [← hU.out]; rfl
 have HU8:Hid (∀ x∈U,x<256):=Lib.hid (by rw [← hU.out]; intro x hx; rcases List.mem_cons.1 hx with rfl | hx; omega; exact h8 x hx)
 rw [hU.out] at HX
 have hSU:S.size=U.length:=by omega
 clear hS
 go_wp2_with fail
 go_loopw [4,5] (fun v i wr=>∃ (l:List Nat) (at_ : Nat),1≤at_ ∧ at_ ≤ U.length∧i = .int .i64 (at_ : Int)∧Hid (Own wr V.heap.size v l∧l.length≤at_ ∧ (∀ x∈l,x<256)∧Below V.heap.size V wr∧say T=(say (U.drop at_)).map fun p=>(l ++ p.1,p.2+(at_ - 1)))) (fun _ i _ => U.length-(intOf i).toNat)
 case atStart=>exact ⟨[],1,by omega,by omega,rfl,Lib.hid ⟨Own.nil _ _,by simp,by simp,Below.refl _ _,by rw [← hU.out]; simp⟩⟩
 case round =>
   obtain ⟨l,at_,h1,h2,rfl,HJ⟩:=hrel
   obtain ⟨D,hD⟩:∃ D,Hid (U.drop at_ = D):=⟨_,Lib.hid rfl⟩
   have hDl:D.length=U.length-at_ := by rw [← hD.out,List.length_drop]
   have HD8:Hid (∀ x∈D,x<256):=Lib.hid (fun x hx=>HU8.out x (by rw [← hD.out] at hx; exact List.mem_of_mem_drop hx))
   have e1:S.extract at_ U.length=strOf D:=by rw [HX.out,List.take_length,hD.out]
   have HR:=Lib.hid (fun w=>run_pln (T:=D) HD8.out (by omega) w)
   obtain ⟨k,hk⟩:∃ k,Hid ((D.takeWhile pln).length=k):=⟨_,Lib.hid rfl⟩
   have HK:=hk
   have hkl:k≤D.length:=by rw [← hk.out]; exact tw_len D
   obtain ⟨m,hm⟩:∃ m:Nat,m=at_ + k:=⟨_,rfl⟩
   have e2:S.extract at_ m=strOf (D.takeWhile pln):=by
     rw [HX.out,hm,List.drop_take,hD.out,Nat.add_sub_cancel_left,← hk.out,tw_eq]
   have e3:S.extract m U.length=strOf (D.drop k):=by
     rw [HX.out,List.take_length,hm,← List.drop_drop,hD.out]
   have hmi:(at_ : Int)+(k:Int)=((m:Nat):Int):=by omega
   have hml:m≤U.length:=by omega
   rw [hk.out] at HR
   have HM:=Lib.hid hm
   have HUL:=Lib.hid hUl
   have HDL:=Lib.hid hDl
   have HKL:=Lib.hid hkl
   rw [← hSU] at e1 e3
   have hmS:m≤S.size:=by omega
   have haS:at_ ≤ S.size:=by omega
   have HSU:=Lib.hid hSU
   have HWM:=Lib.hid (show wrap64 (m:Int)=(m:Int) from IntWalk.wrap64_in _ (by omega))
   have ham:at_ ≤ m:=by omega
   have hSb:S.size≤1099511627777:=by omega
   clear hm hUl hDl hkl hSU
   have HL8:Hid (∀ x∈l ++ D.takeWhile pln,x<256):=Lib.hid (fun x hx=>by
     rcases List.mem_append.1 hx with hx | hx
     · exact HJ.out.2.2.1 x hx
     · exact HD8.out x ((List.takeWhile_sublist _).subset hx))
   have HL2:Hid ((l ++ D.takeWhile pln).length≤m∧m≤1099511627777):=Lib.hid (by rw [List.length_append]; have:=HJ.out.2.1; have:=HK.out; have:=HUL.out; have:=HM.out; have:=HKL.out; have:=HDL.out; omega)
   have HSAY:Hid (say T=(say (D.drop k)).map fun p=>((l ++ D.takeWhile pln) ++ p.1,p.2+(m-1))):=Lib.hid (by
     rw [HJ.out.2.2.2.2,hD.out,say_run D,hk.out,Option.map_map]
     congr 1
     funext p
     simp only [Function.comp,List.append_assoc]
     congr 1
     have:=HM.out
     omega)
   have hd8:∀ x∈D.drop k,x<256:=fun x hx=>HD8.out x (List.mem_of_mem_drop hx)
   have HPX:=Lib.hid (fun w=>hasPrefix_any (D.drop k) [34] ⟨#[34]⟩ rfl hd8 (by decide) w)
   have HE:=Lib.hid (fun w=>escaped_any (D.drop k) hd8 (by rw [List.length_drop]; have:=HDL.out; have:=HUL.out; omega) w)
   have HST:Hid (∀ (h:k<D.length),pln D[k]=false):=Lib.hid (fun h=>by
     have h2:∀ i (hi:i<D.length),i=k→pln D[i]=pln D[k]:=fun i hi e=>by subst e; rfl
     rw [← h2 _ (by rw [hk.out]; exact h) hk.out]
     exact tw_stop D (by rw [hk.out]; exact h))
   have HDL2:Hid (m+(D.drop k).length=U.length):=Lib.hid (by rw [List.length_drop]; have:=HDL.out; have:=HM.out; have:=HKL.out; omega)
   have HDD:Hid (U.drop m=D.drop k):=Lib.hid (by rw [← hD.out,List.drop_drop,HM.out])
   have HAP:Hid (l.length+(D.takeWhile pln).length≤8796093022208):=Lib.hid (by have:=HL2.out; rw [List.length_append] at this; omega)
   have HAQ:Hid ((l ++ D.takeWhile pln).length+1≤8796093022208):=Lib.hid (by have:=HL2.out; omega)
   clear hd8
   cases hq:D.drop k with
   | nil =>
     as_aux_lemma =>
     rw [hq] at e3 HPX HE HSAY
     rw [show esc []=none from rfl] at HE
     unfold escV at HE
     have HQ:=Lib.hid hq
     clear hq
     go_wp2_with (first
       | (go_at_call 229
          refine (HR.out _).mono ?_
          rintro e w' ⟨he,hw⟩
          subst hw
          subst he)
       | (at_builtin
          refine wpList_apps rfl (.tmp 13) (.tmp 19) rfl rfl HJ.out.1 (fun x hx=>HD8.out x ((List.takeWhile_sublist _).subset hx)) rfl HAP.out HJ.out.2.2.2.1.size ?_
          intro v2 w2 ho2 hb2
          have HO2:=Lib.hid ho2
          have HB2:=Lib.hid (HJ.out.2.2.2.1.trans hb2)
          have HV2:=Lib.hid (heap_below HVQ.out HB2.out)
          have y0:=cell_block HV2.out 0
          have z0:=free_block HV2.out 0
          have y1:=cell_block HV2.out 1
          have z1:=free_block HV2.out 1
          have y2:=cell_block HV2.out 2
          have z2:=free_block HV2.out 2
          have y3:=cell_block HV2.out 3
          have z3:=free_block HV2.out 3
          have y4:=cell_block HV2.out 4
          have z4:=free_block HV2.out 4
          have y5:=cell_block HV2.out 5
          have z5:=free_block HV2.out 5
          have hcv:=run_own_str _ w2 V.heap.size v2 ho2 HL8.out
          obtain ⟨A2,c2,hv2,-⟩:=ho2.form
          have HVV:=Lib.hid hv2
          clear ho2 hb2 hv2)
       | (go_at_call 258
          refine (HPX.out _).mono ?_
          rintro e w' ⟨he,hw⟩
          subst hw
          subst he)
       | (go_at_call 259
          refine (HE.out _).mono ?_
          rintro e w' ⟨he,hw⟩
          subst hw
          subst he)
       | (fail))
     refine ret_quoted HV2.out (HBV.out.trans (HB2.out.mono HBV.out.size)) HGG.out rfl rfl rfl ?_
     rw [← hR.out,HSAY.out]
     simp [say_nil,tokV]
   | cons x r =>
     have hxp:pln x=false:=by
       have hkD:k<D.length:=by
         have:=congrArg List.length hq
         rw [List.length_drop,List.length_cons] at this
         omega
       have:=HST.out hkD
       rw [List.drop_eq_getElem_cons hkD] at hq
       rw [← (List.cons.inj hq).1]
       exact this
     by_cases h34:x=34
     · as_aux_lemma =>
       subst h34
       rw [hq] at e3 HPX HE HSAY
       rw [show List.isPrefixOf [34] (34 :: r)=true by simp] at HPX
       have HQ:=Lib.hid hq
       clear hq hxp
       go_wp2_with (first
         | (go_at_call 229
            refine (HR.out _).mono ?_
            rintro e w' ⟨he,hw⟩
            subst hw
            subst he)
         | (at_builtin
            refine wpList_apps rfl (.tmp 13) (.tmp 19) rfl rfl HJ.out.1 (fun x hx=>HD8.out x ((List.takeWhile_sublist _).subset hx)) rfl HAP.out HJ.out.2.2.2.1.size ?_
            intro v2 w2 ho2 hb2
            have HO2:=Lib.hid ho2
            have HB2:=Lib.hid (HJ.out.2.2.2.1.trans hb2)
            have HV2:=Lib.hid (heap_below HVQ.out HB2.out)
            have y0:=cell_block HV2.out 0
            have z0:=free_block HV2.out 0
            have y1:=cell_block HV2.out 1
            have z1:=free_block HV2.out 1
            have y2:=cell_block HV2.out 2
            have z2:=free_block HV2.out 2
            have y3:=cell_block HV2.out 3
            have z3:=free_block HV2.out 3
            have y4:=cell_block HV2.out 4
            have z4:=free_block HV2.out 4
            have y5:=cell_block HV2.out 5
            have z5:=free_block HV2.out 5
            have hcv:=run_own_str _ w2 V.heap.size v2 ho2 HL8.out
            obtain ⟨A2,c2,hv2,-⟩:=ho2.form
            have HVV:=Lib.hid hv2
            clear ho2 hb2 hv2)
         | (go_at_call 258
            refine (HPX.out _).mono ?_
            rintro e w' ⟨he,hw⟩
            subst hw
            subst he)
         | (go_at_call 259
            refine (HE.out _).mono ?_
            rintro e w' ⟨he,hw⟩
            subst hw
            subst he)
         | (fail))
       refine ret_quoted HV2.out (HBV.out.trans (HB2.out.mono HBV.out.size)) HGG.out rfl rfl rfl ?_
       rw [← hR.out,HSAY.out,say_cons,if_pos rfl]
       have hm1:1≤m:=by have:=HM.out; omega
       have hm2:=HL2.out.2
       simp only [Option.map_some,tokV,List.append_nil]
       rw [show ((1+(m-1)+1:Nat):Int)=(m:Int)+1 by omega]
       rfl
     · rw [hq] at e3 HPX HE HSAY
       have hp0:List.isPrefixOf [34] (x :: r)=false:=by simp [List.isPrefixOf]; omega
       rw [hp0] at HPX
       have HXP:=Lib.hid hxp
       have HQ:=Lib.hid hq
       have HS2:Hid (say (x :: r)=(esc (x :: r)).bind fun q=>(say ((x :: r).drop q.2)).map fun p=>(q.1 :: p.1,p.2+q.2)):=Lib.hid (by rw [say_cons,if_neg h34,hxp]; rfl)
       clear hq hxp hp0
       cases he:esc (x :: r) with
       | none =>
         as_aux_lemma =>
         rw [he] at HE HS2
         unfold escV at HE
         clear he
         go_wp2_with (first
           | (go_at_call 229
              refine (HR.out _).mono ?_
              rintro e w' ⟨he,hw⟩
              subst hw
              subst he)
           | (at_builtin
              refine wpList_apps rfl (.tmp 13) (.tmp 19) rfl rfl HJ.out.1 (fun x hx=>HD8.out x ((List.takeWhile_sublist _).subset hx)) rfl HAP.out HJ.out.2.2.2.1.size ?_
              intro v2 w2 ho2 hb2
              have HO2:=Lib.hid ho2
              have HB2:=Lib.hid (HJ.out.2.2.2.1.trans hb2)
              have HV2:=Lib.hid (heap_below HVQ.out HB2.out)
              have y0:=cell_block HV2.out 0
              have z0:=free_block HV2.out 0
              have y1:=cell_block HV2.out 1
              have z1:=free_block HV2.out 1
              have y2:=cell_block HV2.out 2
              have z2:=free_block HV2.out 2
              have y3:=cell_block HV2.out 3
              have z3:=free_block HV2.out 3
              have y4:=cell_block HV2.out 4
              have z4:=free_block HV2.out 4
              have y5:=cell_block HV2.out 5
              have z5:=free_block HV2.out 5
              have hcv:=run_own_str _ w2 V.heap.size v2 ho2 HL8.out
              obtain ⟨A2,c2,hv2,-⟩:=ho2.form
              have HVV:=Lib.hid hv2
              clear ho2 hb2 hv2)
           | (go_at_call 258
              refine (HPX.out _).mono ?_
              rintro e w' ⟨he,hw⟩
              subst hw
              subst he)
           | (go_at_call 259
              refine (HE.out _).mono ?_
              rintro e w' ⟨he,hw⟩
              subst hw
              subst he)
           | (fail))
         refine ret_quoted HV2.out (HBV.out.trans (HB2.out.mono HBV.out.size)) HGG.out rfl rfl rfl ?_
         rw [← hR.out,HSAY.out,HS2.out]
         rfl
       | some q =>
         as_aux_lemma =>
         obtain ⟨yb,nb⟩:=q
         have hpos:=esc_pos he
         have hyb:yb<256:=(esc_take he).2.2
         rw [he] at HE HS2
         have HPOS:=Lib.hid hpos
         have d0:((nb:Int) == 0)=false:=beq_eq_false_iff_ne.2 (by omega)
         clear he hpos
         have HREL2:Hid (((l ++ D.takeWhile pln) ++ [yb]).length≤m+nb∧(∀ y∈(l ++ D.takeWhile pln) ++ [yb],y<256)∧say T=(say (U.drop (m+nb))).map fun p=>(((l ++ D.takeWhile pln) ++ [yb]) ++ p.1,p.2+(m+nb-1))):=Lib.hid (by
           refine ⟨?_,?_,?_⟩
           · rw [List.length_append,List.length_singleton]
             have:=HL2.out.1
             have:=HPOS.out.1
             omega
           · intro y hy
             rcases List.mem_append.1 hy with hy | hy
             · exact HL8.out y hy
             · rw [List.mem_singleton.1 hy]; exact hyb
           · rw [HSAY.out,HS2.out]
             show Option.map _ (Option.map _ (say (List.drop nb (x :: r)))) = _
             rw [Option.map_map,← List.drop_drop,HDD.out,HQ.out]
             congr 1
             funext p
             simp only [Function.comp,List.append_assoc]
             congr 1
             have:=HM.out
             show p.2+nb+(m-1)=p.2+(m+nb-1)
             omega)
         have hnbS:m+nb≤S.size:=by
           have hnl:nb≤(x :: r).length:=HPOS.out.2
           have hml2:m+(x :: r).length=U.length:=by have:=HDL2.out; rw [HQ.out] at this; exact this
           have:=HSU.out
           omega
         have HN:Hid (1≤m+nb∧m+nb≤U.length∧U.length-(m+nb)<U.length-at_ ∧ wrap64 ((m:Int)+(nb:Int))=((m+nb:Nat):Int)):=Lib.hid (by
           have hnl:nb≤(x :: r).length:=HPOS.out.2
           have hp2:=HPOS.out.1
           have hml2:m+(x :: r).length=U.length:=by have:=HDL2.out; rw [HQ.out] at this; exact this
           have hUb:U.length≤1099511627777:=by have:=HUL.out; omega
           refine ⟨by omega,by omega,by omega,(IntWalk.wrap64_in _ (by omega)).trans (Int.natCast_add m nb).symm⟩)
         unfold escV at HE
         go_wp2_with (first
           | (go_at_call 229
              refine (HR.out _).mono ?_
              rintro e w' ⟨he,hw⟩
              subst hw
              subst he)
           | (at_builtin
              refine wpList_apps rfl (.tmp 13) (.tmp 19) rfl rfl HJ.out.1 (fun x hx=>HD8.out x ((List.takeWhile_sublist _).subset hx)) rfl HAP.out HJ.out.2.2.2.1.size ?_
              intro v2 w2 ho2 hb2
              have HO2:=Lib.hid ho2
              have HB2:=Lib.hid (HJ.out.2.2.2.1.trans hb2)
              have HV2:=Lib.hid (heap_below HVQ.out HB2.out)
              have y0:=cell_block HV2.out 0
              have z0:=free_block HV2.out 0
              have y1:=cell_block HV2.out 1
              have z1:=free_block HV2.out 1
              have y2:=cell_block HV2.out 2
              have z2:=free_block HV2.out 2
              have y3:=cell_block HV2.out 3
              have z3:=free_block HV2.out 3
              have y4:=cell_block HV2.out 4
              have z4:=free_block HV2.out 4
              have y5:=cell_block HV2.out 5
              have z5:=free_block HV2.out 5
              have hcv:=run_own_str _ w2 V.heap.size v2 ho2 HL8.out
              obtain ⟨A2,c2,hv2,-⟩:=ho2.form
              have HVV:=Lib.hid hv2
              clear ho2 hb2 hv2)
           | (go_at_call 258
              refine (HPX.out _).mono ?_
              rintro e w' ⟨he,hw⟩
              subst hw
              subst he)
           | (go_at_call 259
              refine (HE.out _).mono ?_
              rintro e w' ⟨he,hw⟩
              subst hw
              subst he)
           | (at_builtin
              refine wpList_app rfl (.tmp 43) (.tmp 45) rfl rfl (HO2.out.alloc _) rfl (At.one _ _ _ yb rfl) rfl HAQ.out (Nat.le_trans HB2.out.size (size_alloc _ _)) ?_
              intro v3 w3 ho3 hb3 _ _
              have HO3:=Lib.hid ho3
              have HB3:=Lib.hid ((HB2.out.alloc HB2.out.size (.cells #[.int .u8 (yb:Int)] 5)).trans hb3)
              clear ho3 hb3)
           | (fail))
         go_roundw
         case rel=>exact ⟨(l ++ D.takeWhile pln) ++ [yb],m+nb,HN.out.1,HN.out.2.1,congrArg (Value.int .i64) (Int.natCast_add m nb).symm,Lib.hid ⟨HO3.out,HREL2.out.1,HREL2.out.2.1,HB3.out,HREL2.out.2.2⟩⟩
         case measure =>
           simp only [intOf]
           rw [← Int.natCast_add,Int.toNat_natCast,Int.toNat_natCast]
           exact HN.out.2.2.1
end Go.Proofs.YtcmopnkldplngabGreatDoor
