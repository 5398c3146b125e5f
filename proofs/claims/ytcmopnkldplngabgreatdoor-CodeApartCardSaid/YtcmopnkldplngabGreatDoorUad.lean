/- Texts Ua,Ub,Uc,Uc2,Ud of this seat in one: see each part. -/
import Derived.Deep.Quiet
import Derived.Deep.LoopGhost
import Derived.Test.YtcmopnkldplngabGreatDoorWij
import Derived.Test.YtcmopnkldplngabGreatDoorTbe
namespace Go.Proofs.YtcmopnkldplngabGreatDoor
open Go.RowKit
set_option linter.unusedVariables false
theorem isNm_eq (s:List Nat) (hs:s.length≤32768):isNm s=match tok (s.drop (atW s 0)) with
   | none=>false
   | some t=>decide (t.k=3)&&decide (atW s 0=0)&&decide (atW s 0+t.e=s.length):=by
 unfold isNm
 rw [decide_eq_true hs,Bool.true_and]
 cases tok (s.drop (atW s 0)) with
 | none=>rfl
 | some t =>
   dsimp only
   have e1:(t.k == 3)=decide (t.k=3):=by rw [Bool.eq_iff_iff,beq_iff_eq,decide_eq_true_iff]
   have e2:(atW s 0 == 0)=decide (atW s 0=0):=by rw [Bool.eq_iff_iff,beq_iff_eq,decide_eq_true_iff]
   rw [e1,e2]
   by_cases h:atW s 0=0
   · rw [h]
     have e3:(t.e == s.length)=decide (0+t.e=s.length):=by rw [Bool.eq_iff_iff,beq_iff_eq,decide_eq_true_iff,Nat.zero_add]
     rw [e3]
   · rw [decide_eq_false h]; simp
set_option maxRecDepth 100000 in
set_option maxHeartbeats 4000000 in
theorem isName_any (s:List Nat) (h8:∀ x∈s,x<256) (hn:s.length≤140737488355328) (w:World) (hw:Wt w):Calls Tryz.prog 183 #[.string (strOf s)] w fun e w'=>e = .returned (.bool (isNm s))∧Below w.heap.size w w':=by
 have HN:=Lib.hid (next_any s h8 hn 0 w hw)
 have hsz:=strOf_size s
 by_cases hl:32768<s.length
 · have e0:nxtV s 0 = .tuple #[w0,flt 3 0]:=by unfold nxtV; rw [if_pos hl]
   have e1:isNm s=false:=by unfold isNm; rw [decide_eq_false (by omega)]; rfl
   rw [e0] at HN
   rw [e1]
   unfold w0 flt at HN
   clear e0 e1 hl h8
   go_enter Tryz.func183,Tryz.ntmps183
   go_wp2_with fail
   refine HN.out.mono ?_
   rintro e w1 ⟨rfl,hb⟩
   have HB:=Lib.hid hb
   clear hb
   go_wp2_with fail
   go_ret
   exact ⟨rfl,(HB.out.alloc HB.out.size _).alloc (by simp; exact Nat.le_succ_of_le HB.out.size) _⟩
 · rw [isNm_eq s (by omega)]
   have e0:nxtV s 0=match tok (s.drop (atW s 0)) with
     | none => .tuple #[w0,flt 100 (lnW s 0)]
     | some t => .tuple #[wrdV t.k (strOf t.s) t.n (lnW s 0) (atW s 0) (atW s 0+t.e),flt 0 0]:=by
     unfold nxtV
     rw [if_neg hl,if_neg (by omega)]
     rfl
   rw [e0] at HN
   clear e0 hl h8
   cases ht:tok (s.drop (atW s 0)) with
   | none =>
     rw [ht] at HN
     dsimp only at HN ⊢
     unfold w0 flt at HN
     clear ht
     go_enter Tryz.func183,Tryz.ntmps183
     go_wp2_with fail
     refine HN.out.mono ?_
     rintro e w1 ⟨rfl,hb⟩
     have HB:=Lib.hid hb
     clear hb
     go_wp2_with fail
     go_ret
     exact ⟨rfl,(HB.out.alloc HB.out.size _).alloc (by simp; exact Nat.le_succ_of_le HB.out.size) _⟩
   | some t =>
     rw [ht] at HN
     dsimp only at HN ⊢
     unfold wrdV flt at HN
     clear ht
     obtain ⟨a,ha⟩:∃ a,atW s 0=a:=⟨_,rfl⟩
     obtain ⟨ln,hln⟩:∃ a,lnW s 0=a:=⟨_,rfl⟩
     rw [ha] at HN ⊢
     rw [hln] at HN
     have g1:((t.k:Int) == 3)=decide (t.k=3):=by rw [Bool.eq_iff_iff,beq_iff_eq,decide_eq_true_iff]; omega
     have g2:((a:Int) == 0)=decide (a=0):=by rw [Bool.eq_iff_iff,beq_iff_eq,decide_eq_true_iff]; omega
     have g3:(((a+t.e:Nat):Int) == (s.length:Int))=decide (a+t.e=s.length):=by rw [Bool.eq_iff_iff,beq_iff_eq,decide_eq_true_iff]; omega
     have g4:((a:Int)+(t.e:Int) == (s.length:Int))=decide (a+t.e=s.length):=by rw [← g3]; simp
     rw [← hsz] at g3 g4
     obtain ⟨b1,hb1⟩:∃ b,Hid (decide (t.k=3)=b):=⟨_,Lib.hid rfl⟩
     obtain ⟨b2,hb2⟩:∃ b,Hid (decide (a=0)=b):=⟨_,Lib.hid rfl⟩
     obtain ⟨b3,hb3⟩:∃ b,Hid (decide (a+t.e=s.length)=b):=⟨_,Lib.hid rfl⟩
     rw [← hsz] at hb3
     rw [hb1.out] at g1 ⊢
     rw [hb2.out] at g2 ⊢
     rw [← hsz,hb3.out]
     rw [hb3.out] at g3 g4
     obtain ⟨S,hS⟩:∃ S,Hid (strOf t.s=S):=⟨_,Lib.hid rfl⟩
     rw [hS.out] at HN
     obtain ⟨Z,hZ⟩:∃ S,Hid (strOf s=S):=⟨_,Lib.hid rfl⟩
     rw [hZ.out] at HN g3 g4 ⊢
     clear ha hln hsz hb1 hb2 hb3 hS hZ
     go_enter Tryz.func183,Tryz.ntmps183
     go_wp2_with fail
     refine HN.out.mono ?_
     rintro e w1 ⟨rfl,hb⟩
     have HB:=Lib.hid hb
     clear hb
     cases b1 <;> cases b2 <;> cases b3
     all_goals
       go_wp2_with fail
       go_ret
       exact ⟨rfl,(HB.out.alloc HB.out.size _).alloc (by simp; exact Nat.le_succ_of_le HB.out.size) _⟩
end Go.Proofs.YtcmopnkldplngabGreatDoor
namespace Go.Proofs.YtcmopnkldplngabGreatDoor
open Go.RowKit
set_option linter.unusedVariables false
set_option maxRecDepth 100000 in
set_option maxHeartbeats 4000000 in
theorem isOp_any (s:List Nat) (h8:∀ x∈s,x<256) (k:Nat) (w:World):Calls Tryz.prog 247 #[.string (strOf s),.int .i64 (k:Int)] w fun e w'=>e = .returned (.bool (isOpF s k))∧w'=w:=by
 have q0:=key_eq' s [45] h8 [45] rfl (by decide)
 have q1:=key_eq' s [33] h8 [33] rfl (by decide)
 have q2:=key_eq' s [124,124] h8 [124,124] rfl (by decide)
 have q3:=key_eq' s [38,38] h8 [38,38] rfl (by decide)
 have q4:=key_eq' s [61,61] h8 [61,61] rfl (by decide)
 have q5:=key_eq' s [33,61] h8 [33,61] rfl (by decide)
 have q6:=key_eq' s [60] h8 [60] rfl (by decide)
 have q7:=key_eq' s [60,61] h8 [60,61] rfl (by decide)
 have q8:=key_eq' s [62] h8 [62] rfl (by decide)
 have q9:=key_eq' s [62,61] h8 [62,61] rfl (by decide)
 have q10:=key_eq' s [43] h8 [43] rfl (by decide)
 have q11:=key_eq' s [43,43] h8 [43,43] rfl (by decide)
 have q12:=key_eq' s [42] h8 [42] rfl (by decide)
 have q13:=key_eq' s [47] h8 [47] rfl (by decide)
 have q14:=key_eq' s [37] h8 [37] rfl (by decide)
 have g1:((k:Int) == 1)=(k == 1):=by rw [Bool.eq_iff_iff,beq_iff_eq,beq_iff_eq]; omega
 have g2:((k:Int) == 2)=(k == 2):=by rw [Bool.eq_iff_iff,beq_iff_eq,beq_iff_eq]; omega
 have e:isOpF s k=bif decide (s=[45]) then (k == 1||k == 2) else bif decide (s=[33]) then (k == 1) else bif (decide (s=[124,124])||decide (s=[38,38])||decide (s=[61,61])||decide (s=[33,61])||decide (s=[60])||decide (s=[60,61])||decide (s=[62])||decide (s=[62,61])||decide (s=[43])||decide (s=[43,43])||decide (s=[42])||decide (s=[47])||decide (s=[37])) then (k == 2) else false:=by
   unfold isOpF
   have e1:(s∈ops2)=(s=[124,124]∨s=[38,38]∨s=[61,61]∨s=[33,61]∨s=[60]∨s=[60,61]∨s=[62]∨s=[62,61]∨s=[43]∨s=[43,43]∨s=[42]∨s=[47]∨s=[37]):=by simp [ops2]
   simp only [e1,cond_eq_ite,decide_eq_true_eq,Bool.or_eq_true]
   simp only [or_assoc]
 rw [e]
 clear e
 generalize decide (s=[45])=b0 at *
 generalize decide (s=[33])=b1 at *
 generalize decide (s=[124,124])=b2 at *
 generalize decide (s=[38,38])=b3 at *
 generalize decide (s=[61,61])=b4 at *
 generalize decide (s=[33,61])=b5 at *
 generalize decide (s=[60])=b6 at *
 generalize decide (s=[60,61])=b7 at *
 generalize decide (s=[62])=b8 at *
 generalize decide (s=[62,61])=b9 at *
 generalize decide (s=[43])=b10 at *
 generalize decide (s=[43,43])=b11 at *
 generalize decide (s=[42])=b12 at *
 generalize decide (s=[47])=b13 at *
 generalize decide (s=[37])=b14 at *
 generalize (k == 1)=c1 at *
 generalize (k == 2)=c2 at *
 generalize strOf s=S at *
 clear h8
 go_enter Tryz.func247,Tryz.ntmps247
 cases b0
 · cases b1
   · go_wp2_with fail
     all_goals
       go_ret
       refine ⟨?_,rfl⟩
       clear q0 q1 q2 q3 q4 q5 q6 q7 q8 q9 q10 q11 q12 q13 q14
       subst_vars
       first | rfl | simp_all
   · go_wp2_with fail
     all_goals
       go_ret
       refine ⟨?_,rfl⟩
       first | rfl | simp_all
 · cases c1
   · go_wp2_with fail
     all_goals
       go_ret
       refine ⟨?_,rfl⟩
       first | rfl | simp_all
   · go_wp2_with fail
     all_goals
       go_ret
       refine ⟨?_,rfl⟩
       first | rfl | simp_all
set_option maxRecDepth 100000 in
set_option maxHeartbeats 4000000 in
theorem rightHead_any (s:List Nat) (ps:List (List Nat)) (S:Nat→Prop) (v:Value) (w:World) (hw:Wt w) (h8:∀ x∈s,x<256) (hn:s.length≤140737488355328) (hS:∀ b,S b→b<w.heap.size) (hp:Rd w S (.row 1 (ps.map nmNd)) v) :
   Calls Tryz.prog 149 #[.string (strOf s),v] w fun e w'=>e = .returned (.bool (headR s ps))∧Below w.heap.size w w':=by
 have HN:=Lib.hid (isName_any s h8 hn w hw)
 have HNN:=Lib.hid (fun t w' (h1:Wt w') (h2:∀ x∈t,x<256) (h3:t.length≤140737488355328)=>isName_any t h2 h3 w' h1)
 have HW:=Lib.hid hw
 rw [Rd] at hp
 obtain ⟨A,c,rfl,hc,hcm,hr⟩:=hp
 rw [List.length_map] at hc ⊢
 have HR:=Lib.hid hr
 have HSS:=Lib.hid hS
 unfold headR
 clear hr hS h8 hn hw
 cases hb:isNm s with
 | false =>
   rw [hb] at HN
   clear hb HNN HW HR HSS
   go_enter Tryz.func149,Tryz.ntmps149
   go_wp2_with (first
     | (go_at_call 183
        refine HN.out.mono ?_
        rintro e w1 ⟨rfl,hb⟩)
     | (fail))
   go_ret
   exact ⟨by simp,hb⟩
 | true =>
   rw [hb] at HN
   clear hb
   by_cases hl:ps.length≤30
   · rw [decide_eq_true hl,Bool.true_and,Bool.true_and]
     have hl1:¬ (30:Int)<(ps.length:Int):=by omega
     have hl2:¬ 30<ps.length:=by omega
     obtain ⟨n,hnn⟩:∃ n,Hid (ps.length=n):=⟨_,Lib.hid rfl⟩
     rw [hnn.out] at hl hl1 hl2 hc ⊢
     obtain ⟨R,hRR⟩:∃ R,Hid (ps.all isNm=R):=⟨_,Lib.hid rfl⟩
     rw [hRR.out]
     go_enter Tryz.func149,Tryz.ntmps149
     go_wp2_with (first
       | (go_at_call 183
          refine HN.out.mono ?_
          rintro e w1 ⟨rfl,hb⟩
          have HB1:=Lib.hid hb
          clear hb)
       | (fail))
     go_loopg [17] n (fun g i wr=>∃ j:Nat,j+g=n∧i = .int .i64 (j:Int)∧Hid ((ps.drop j).all isNm=R)∧Hid (Below w.heap.size w wr))
     case atStart=>exact ⟨0,by omega,rfl,Lib.hid (by rw [List.drop_zero]; exact hRR.out),HB1⟩
     case round =>
       obtain ⟨j,hj,rfl,HF,HB⟩:=hrel
       cases gk with
       | zero =>
         have h1:¬ (j:Int)<(n:Int):=by omega
         have HE:Hid (true=R):=Lib.hid (by rw [← HF.out,List.drop_eq_nil_of_le (by rw [hnn.out]; omega)]; rfl)
         clear HF
         go_wp2_with fail
         go_ret
         exact ⟨by rw [← HE.out]; rfl,HB.out⟩
       | succ g =>
         have h1:(j:Int)<(n:Int):=by omega
         have h2:j<n:=by omega
         have hjl:j<ps.length:=by rw [hnn.out]; exact h2
         obtain ⟨b,o,vs,rfl,hS,hvl,hrg,hx⟩:=HR.out.at j (nmNd ps[j]) (by simp [hjl])
         obtain ⟨hv,t8,tn⟩:=(nm_rd _ _).1 hx
         have hv2:vs=[.string (strOf ps[j])]:=by
           injection hv with hv
           have:=congrArg Array.toList hv
           simpa using this
         subst hv2
         have c0:wr.cell? ⟨b,o+j,none⟩=some (.string (strOf ps[j])):=by
           have:=hrg 0 _ rfl
           rw [show o+(0+j)*1+0=o+j by omega] at this
           exact (HB.out.cell (p:=⟨b,o+j,none⟩) (HSS.out b hS)).trans this
         have HD:=Lib.hid (List.drop_eq_getElem_cons hjl)
         have HT:=Lib.hid (HNN.out ps[j] wr (HW.out.below HB.out) t8 tn)
         generalize ps[j]=t at *
         have HF2:=Lib.hid (HF.out.symm.trans (by rw [HD.out,List.all_cons]))
         clear hrg hx hv t8 tn HF HD hjl
         cases ht:isNm t with
         | true =>
           rw [ht] at HT HF2
           clear ht
           go_wp2_with (first
             | (go_at_call 183
                refine HT.out.mono ?_
                rintro e w2 ⟨rfl,hb⟩
                have HB2:=Lib.hid (HB.out.trans (hb.mono HB.out.size))
                clear hb)
             | (fail))
           go_roundg g
           case measure=>omega
           case rel=>exact ⟨j+1,by omega,by go_num,Lib.hid (by rw [HF2.out,Bool.true_and]),HB2⟩
         | false =>
           rw [ht] at HT HF2
           clear ht
           go_wp2_with (first
             | (go_at_call 183
                refine HT.out.mono ?_
                rintro e w2 ⟨rfl,hb⟩
                have HB2:=Lib.hid (HB.out.trans (hb.mono HB.out.size))
                clear hb)
             | (fail))
           go_ret
           exact ⟨by rw [HF2.out,Bool.false_and]; rfl,HB2.out⟩
   · rw [decide_eq_false hl,Bool.and_false,Bool.false_and]
     have hl1:(30:Int)<(ps.length:Int):=by omega
     have hl2:30<ps.length:=by omega
     obtain ⟨n,hnn⟩:∃ n,Hid (ps.length=n):=⟨_,Lib.hid rfl⟩
     rw [hnn.out] at hl hl1 hl2 hc ⊢
     clear HNN HW HR HSS
     go_enter Tryz.func149,Tryz.ntmps149
     go_wp2_with (first
       | (go_at_call 183
          refine HN.out.mono ?_
          rintro e w1 ⟨rfl,hb⟩)
       | (fail))
     go_ret
     exact ⟨rfl,hb⟩
end Go.Proofs.YtcmopnkldplngabGreatDoor
namespace Go.Proofs.YtcmopnkldplngabGreatDoor
open Go.RowKit
set_option linter.unusedVariables false
set_option maxRecDepth 100000 in
set_option maxHeartbeats 8000000 in
theorem rightExpr_any (k : Nat) (s:List Nat) (n:Int) (c:Nat) (A:Option Addr) (cp:Nat) (h8:∀ x∈s,x<256) (hn:s.length≤140737488355328) (w:World) (hw:Wt w) :
   Calls Tryz.prog 214 #[.agg #[.int .u8 (k:Int),.string (strOf s),.int .i64 n,.slice A c cp]] w fun e w'=>e = .returned (.bool (rightX k s n c))∧Below w.heap.size w w':=by
 have HN:=Lib.hid (fun w' (h':Wt w')=>isName_any s h8 hn w' h')
 have HO:=Lib.hid (fun w'=>isOp_any s h8 c w')
 have HW:=Lib.hid (fun o=>hw.below ((Below.refl w.heap.size w).alloc (Nat.le_refl _) o))
 have HB:=Lib.hid (fun o=>(Below.refl w.heap.size w).alloc (Nat.le_refl _) o)
 have e0:(strOf s).toList.isEmpty=s.isEmpty:=by rw [one_empty]; cases s <;> simp
 have g0:((c:Int) == 0)=(c == 0):=by rw [Bool.eq_iff_iff,beq_iff_eq,beq_iff_eq]; omega
 have g1:((c:Int) == 1)=(c == 1):=by rw [Bool.eq_iff_iff,beq_iff_eq,beq_iff_eq]; omega
 have g2:((c:Int) == 2)=(c == 2):=by rw [Bool.eq_iff_iff,beq_iff_eq,beq_iff_eq]; omega
 have g1':((c:Int) != 1)=!(c == 1):=by rw [bne,g1]
 have E1:k=1→rightX k s n c=(s.isEmpty&&decide (0≤n)&&(c == 0)):=fun hk=>by subst hk; unfold rightX; by_cases hz:n=0 <;> simp [hz]
 have E2:k=2→rightX k s n c=(s.isEmpty&&((n == 0)||(n == 1))&&(c == 0)):=fun hk=>by subst hk; unfold rightX; by_cases hz:n=0 <;> simp [hz]
 have E3:k=3→rightX k s n c=((n == 0)&&(c == 0)):=fun hk=>by subst hk; unfold rightX; by_cases hz:n=0 <;> simp [hz]
 have E4:k=4→rightX k s n c=((n == 0)&&(isNm s&&(c == 0))):=fun hk=>by subst hk; unfold rightX; by_cases hz:n=0 <;> simp [hz]
 have E5:k=5→rightX k s n c=((n == 0)&&(s.isEmpty&&(c == 0))):=fun hk=>by subst hk; unfold rightX; by_cases hz:n=0 <;> simp [hz]
 have E6:k=6→rightX k s n c=((n == 0)&&(s.isEmpty&&!(c == 1))):=fun hk=>by subst hk; unfold rightX; by_cases hz:n=0 <;> simp [hz,bne]
 have E7:k=7→rightX k s n c=((n == 0)&&isOpF s c):=fun hk=>by subst hk; unfold rightX; by_cases hz:n=0 <;> simp [hz]
 have E8:k=8→rightX k s n c=((n == 0)&&(s.isEmpty&&(c == 2))):=fun hk=>by subst hk; unfold rightX; by_cases hz:n=0 <;> simp [hz]
 have E9:k=9→rightX k s n c=((n == 0)&&(s.isEmpty&&(c == 1))):=fun hk=>by subst hk; unfold rightX; by_cases hz:n=0 <;> simp [hz]
 have E10:k=10→rightX k s n c=((n == 0)&&isNm s):=fun hk=>by subst hk; unfold rightX; by_cases hz:n=0 <;> simp [hz]
 have E11:k=11→rightX k s n c=((n == 0)&&isNm s):=fun hk=>by subst hk; unfold rightX; by_cases hz:n=0 <;> simp [hz]
 have E12:(k=0∨11<k)→rightX k s n c=false:=fun hk=>by unfold rightX; rw [if_neg (by omega),if_neg (by omega)]; split; rfl; rw [if_neg (by omega),if_neg (by omega),if_neg (by omega),if_neg (by omega),if_neg (by omega),if_neg (by omega),if_neg (by omega),if_neg (by omega)]
 have t1:((k:Int) == 1)=decide (k=1):=by rw [Bool.eq_iff_iff,beq_iff_eq,decide_eq_true_iff]; omega
 have t2:((k:Int) == 2)=decide (k=2):=by rw [Bool.eq_iff_iff,beq_iff_eq,decide_eq_true_iff]; omega
 have t3:((k:Int) == 3)=decide (k=3):=by rw [Bool.eq_iff_iff,beq_iff_eq,decide_eq_true_iff]; omega
 have t4:((k:Int) == 4)=decide (k=4):=by rw [Bool.eq_iff_iff,beq_iff_eq,decide_eq_true_iff]; omega
 have t5:((k:Int) == 5)=decide (k=5):=by rw [Bool.eq_iff_iff,beq_iff_eq,decide_eq_true_iff]; omega
 have t6:((k:Int) == 6)=decide (k=6):=by rw [Bool.eq_iff_iff,beq_iff_eq,decide_eq_true_iff]; omega
 have t7:((k:Int) == 7)=decide (k=7):=by rw [Bool.eq_iff_iff,beq_iff_eq,decide_eq_true_iff]; omega
 have t8:((k:Int) == 8)=decide (k=8):=by rw [Bool.eq_iff_iff,beq_iff_eq,decide_eq_true_iff]; omega
 have t9:((k:Int) == 9)=decide (k=9):=by rw [Bool.eq_iff_iff,beq_iff_eq,decide_eq_true_iff]; omega
 have t10:((k:Int) == 10)=decide (k=10):=by rw [Bool.eq_iff_iff,beq_iff_eq,decide_eq_true_iff]; omega
 have t11:((k:Int) == 11)=decide (k=11):=by rw [Bool.eq_iff_iff,beq_iff_eq,decide_eq_true_iff]; omega
 generalize (c == 0)=c0 at *
 generalize (c == 1)=c1 at *
 generalize (c == 2)=c2 at *
 generalize s.isEmpty=bs at *
 generalize isNm s=bn at *
 generalize isOpF s c=bo at *
 generalize strOf s=S at *
 generalize rightX k s n c=RX at *
 clear h8 hn hw
 by_cases k1:k=1
 · have EE:=E1 k1
   rw [decide_eq_true k1] at t1
   clear k1 E1 E2 E3 E4 E5 E6 E7 E8 E9 E10 E11 E12 t2 t3 t4 t5 t6 t7 t8 t9 t10 t11
   by_cases hz:0≤n
   · rw [decide_eq_true hz] at EE
     rw [EE]
     clear EE
     go_enter Tryz.func214,Tryz.ntmps214
     cases bs <;> cases c0
     all_goals
       go_wp2_with (first
         | (go_at_call 183
            refine (HN.out _ (HW.out _)).mono ?_
            rintro e w1 ⟨rfl,hb⟩
            have HB1:=Lib.hid ((HB.out _).trans (hb.mono (HB.out _).size))
            clear hb)
         | (go_at_call 247
            refine (HO.out _).mono ?_
            rintro e w1 ⟨rfl,rfl⟩)
         | (fail))
       go_ret
       first
         | exact ⟨by first | rfl | simp_all,HB1.out⟩
         | exact ⟨by first | rfl | simp_all,HB.out _⟩
   · rw [decide_eq_false hz] at EE
     rw [EE]
     clear EE
     go_enter Tryz.func214,Tryz.ntmps214
     cases bs <;> cases c0
     all_goals
       go_wp2_with (first
         | (go_at_call 183
            refine (HN.out _ (HW.out _)).mono ?_
            rintro e w1 ⟨rfl,hb⟩
            have HB1:=Lib.hid ((HB.out _).trans (hb.mono (HB.out _).size))
            clear hb)
         | (go_at_call 247
            refine (HO.out _).mono ?_
            rintro e w1 ⟨rfl,rfl⟩)
         | (fail))
       go_ret
       first
         | exact ⟨by first | rfl | simp_all,HB1.out⟩
         | exact ⟨by first | rfl | simp_all,HB.out _⟩
 · rw [decide_eq_false k1] at t1
   clear E1
   by_cases k2:k=2
   · have EE := E2 k2
     rw [decide_eq_true k2] at t2
     clear k2 E2 E3 E4 E5 E6 E7 E8 E9 E10 E11 E12 t3 t4 t5 t6 t7 t8 t9 t10 t11
     by_cases hz:n=0
     · rw [show (n == 0)=true by simp [hz]] at EE
       rw [show (n == 1)=false by simp [hz]] at EE
       subst hz
       rw [EE]
       clear EE
       go_enter Tryz.func214,Tryz.ntmps214
       cases bs <;> cases c0
       all_goals
         go_wp2_with (first
           | (go_at_call 183
              refine (HN.out _ (HW.out _)).mono ?_
              rintro e w1 ⟨rfl,hb⟩
              have HB1:=Lib.hid ((HB.out _).trans (hb.mono (HB.out _).size))
              clear hb)
           | (go_at_call 247
              refine (HO.out _).mono ?_
              rintro e w1 ⟨rfl,rfl⟩)
           | (fail))
         go_ret
         first
           | exact ⟨by first | rfl | simp_all,HB1.out⟩
           | exact ⟨by first | rfl | simp_all,HB.out _⟩
     · rw [show (n == 0)=false by simp [hz]] at EE
       by_cases hy:n=1
       · rw [show (n == 1)=true by simp [hy]] at EE
         subst hy
         rw [EE]
         clear EE
         go_enter Tryz.func214,Tryz.ntmps214
         cases bs <;> cases c0
         all_goals
           go_wp2_with (first
             | (go_at_call 183
                refine (HN.out _ (HW.out _)).mono ?_
                rintro e w1 ⟨rfl,hb⟩
                have HB1:=Lib.hid ((HB.out _).trans (hb.mono (HB.out _).size))
                clear hb)
             | (go_at_call 247
                refine (HO.out _).mono ?_
                rintro e w1 ⟨rfl,rfl⟩)
             | (fail))
           go_ret
           first
             | exact ⟨by first | rfl | simp_all,HB1.out⟩
             | exact ⟨by first | rfl | simp_all,HB.out _⟩
       · rw [show (n == 1)=false by simp [hy]] at EE
         rw [EE]
         clear EE
         go_enter Tryz.func214,Tryz.ntmps214
         cases bs <;> cases c0
         all_goals
           go_wp2_with (first
             | (go_at_call 183
                refine (HN.out _ (HW.out _)).mono ?_
                rintro e w1 ⟨rfl,hb⟩
                have HB1:=Lib.hid ((HB.out _).trans (hb.mono (HB.out _).size))
                clear hb)
             | (go_at_call 247
                refine (HO.out _).mono ?_
                rintro e w1 ⟨rfl,rfl⟩)
             | (fail))
           go_ret
           first
             | exact ⟨by first | rfl | simp_all,HB1.out⟩
             | exact ⟨by first | rfl | simp_all,HB.out _⟩
   · rw [decide_eq_false k2] at t2
     clear E2
     by_cases k3:k=3
     · have EE:=E3 k3
       rw [decide_eq_true k3] at t3
       clear k3 E3 E4 E5 E6 E7 E8 E9 E10 E11 E12 t4 t5 t6 t7 t8 t9 t10 t11
       by_cases hz:n=0
       · rw [show (n == 0)=true by simp [hz]] at EE
         subst hz
         rw [EE]
         clear EE
         go_enter Tryz.func214,Tryz.ntmps214
         cases c0
         all_goals
           go_wp2_with (first
             | (go_at_call 183
                refine (HN.out _ (HW.out _)).mono ?_
                rintro e w1 ⟨rfl,hb⟩
                have HB1:=Lib.hid ((HB.out _).trans (hb.mono (HB.out _).size))
                clear hb)
             | (go_at_call 247
                refine (HO.out _).mono ?_
                rintro e w1 ⟨rfl,rfl⟩)
             | (fail))
           go_ret
           first
             | exact ⟨by first | rfl | simp_all,HB1.out⟩
             | exact ⟨by first | rfl | simp_all,HB.out _⟩
       · rw [show (n == 0)=false by simp [hz]] at EE
         rw [EE]
         clear EE
         go_enter Tryz.func214,Tryz.ntmps214
         go_wp2_with (first
           | (go_at_call 183
              refine (HN.out _ (HW.out _)).mono ?_
              rintro e w1 ⟨rfl,hb⟩
              have HB1:=Lib.hid ((HB.out _).trans (hb.mono (HB.out _).size))
              clear hb)
           | (go_at_call 247
              refine (HO.out _).mono ?_
              rintro e w1 ⟨rfl,rfl⟩)
           | (fail))
         go_ret
         first
           | exact ⟨by first | rfl | simp_all,HB1.out⟩
           | exact ⟨by first | rfl | simp_all,HB.out _⟩
     · rw [decide_eq_false k3] at t3
       clear E3
       by_cases k4:k=4
       · have EE:=E4 k4
         rw [decide_eq_true k4] at t4
         clear k4 E4 E5 E6 E7 E8 E9 E10 E11 E12 t5 t6 t7 t8 t9 t10 t11
         by_cases hz:n=0
         · rw [show (n == 0)=true by simp [hz]] at EE
           subst hz
           rw [EE]
           clear EE
           go_enter Tryz.func214,Tryz.ntmps214
           cases bn <;> cases c0
           all_goals
             go_wp2_with (first
               | (go_at_call 183
                  refine (HN.out _ (HW.out _)).mono ?_
                  rintro e w1 ⟨rfl,hb⟩
                  have HB1:=Lib.hid ((HB.out _).trans (hb.mono (HB.out _).size))
                  clear hb)
               | (go_at_call 247
                  refine (HO.out _).mono ?_
                  rintro e w1 ⟨rfl,rfl⟩)
               | (fail))
             go_ret
             first
               | exact ⟨by first | rfl | simp_all,HB1.out⟩
               | exact ⟨by first | rfl | simp_all,HB.out _⟩
         · rw [show (n == 0)=false by simp [hz]] at EE
           rw [EE]
           clear EE
           go_enter Tryz.func214,Tryz.ntmps214
           go_wp2_with (first
             | (go_at_call 183
                refine (HN.out _ (HW.out _)).mono ?_
                rintro e w1 ⟨rfl,hb⟩
                have HB1:=Lib.hid ((HB.out _).trans (hb.mono (HB.out _).size))
                clear hb)
             | (go_at_call 247
                refine (HO.out _).mono ?_
                rintro e w1 ⟨rfl,rfl⟩)
             | (fail))
           go_ret
           first
             | exact ⟨by first | rfl | simp_all,HB1.out⟩
             | exact ⟨by first | rfl | simp_all,HB.out _⟩
       · rw [decide_eq_false k4] at t4
         clear E4
         by_cases k5:k=5
         · have EE:=E5 k5
           rw [decide_eq_true k5] at t5
           clear k5 E5 E6 E7 E8 E9 E10 E11 E12 t6 t7 t8 t9 t10 t11
           by_cases hz:n=0
           · rw [show (n == 0)=true by simp [hz]] at EE
             subst hz
             rw [EE]
             clear EE
             go_enter Tryz.func214,Tryz.ntmps214
             cases bs <;> cases c0
             all_goals
               go_wp2_with (first
                 | (go_at_call 183
                    refine (HN.out _ (HW.out _)).mono ?_
                    rintro e w1 ⟨rfl,hb⟩
                    have HB1:=Lib.hid ((HB.out _).trans (hb.mono (HB.out _).size))
                    clear hb)
                 | (go_at_call 247
                    refine (HO.out _).mono ?_
                    rintro e w1 ⟨rfl,rfl⟩)
                 | (fail))
               go_ret
               first
                 | exact ⟨by first | rfl | simp_all,HB1.out⟩
                 | exact ⟨by first | rfl | simp_all,HB.out _⟩
           · rw [show (n == 0)=false by simp [hz]] at EE
             rw [EE]
             clear EE
             go_enter Tryz.func214,Tryz.ntmps214
             go_wp2_with (first
               | (go_at_call 183
                  refine (HN.out _ (HW.out _)).mono ?_
                  rintro e w1 ⟨rfl,hb⟩
                  have HB1:=Lib.hid ((HB.out _).trans (hb.mono (HB.out _).size))
                  clear hb)
               | (go_at_call 247
                  refine (HO.out _).mono ?_
                  rintro e w1 ⟨rfl,rfl⟩)
               | (fail))
             go_ret
             first
               | exact ⟨by first | rfl | simp_all,HB1.out⟩
               | exact ⟨by first | rfl | simp_all,HB.out _⟩
         · rw [decide_eq_false k5] at t5
           clear E5
           by_cases k6:k=6
           · have EE:=E6 k6
             rw [decide_eq_true k6] at t6
             clear k6 E6 E7 E8 E9 E10 E11 E12 t7 t8 t9 t10 t11
             by_cases hz:n=0
             · rw [show (n == 0)=true by simp [hz]] at EE
               subst hz
               rw [EE]
               clear EE
               go_enter Tryz.func214,Tryz.ntmps214
               cases bs <;> cases c1
               all_goals
                 go_wp2_with (first
                   | (go_at_call 183
                      refine (HN.out _ (HW.out _)).mono ?_
                      rintro e w1 ⟨rfl,hb⟩
                      have HB1:=Lib.hid ((HB.out _).trans (hb.mono (HB.out _).size))
                      clear hb)
                   | (go_at_call 247
                      refine (HO.out _).mono ?_
                      rintro e w1 ⟨rfl,rfl⟩)
                   | (fail))
                 go_ret
                 first
                   | exact ⟨by first | rfl | simp_all,HB1.out⟩
                   | exact ⟨by first | rfl | simp_all,HB.out _⟩
             · rw [show (n == 0)=false by simp [hz]] at EE
               rw [EE]
               clear EE
               go_enter Tryz.func214,Tryz.ntmps214
               go_wp2_with (first
                 | (go_at_call 183
                    refine (HN.out _ (HW.out _)).mono ?_
                    rintro e w1 ⟨rfl,hb⟩
                    have HB1:=Lib.hid ((HB.out _).trans (hb.mono (HB.out _).size))
                    clear hb)
                 | (go_at_call 247
                    refine (HO.out _).mono ?_
                    rintro e w1 ⟨rfl,rfl⟩)
                 | (fail))
               go_ret
               first
                 | exact ⟨by first | rfl | simp_all,HB1.out⟩
                 | exact ⟨by first | rfl | simp_all,HB.out _⟩
           · rw [decide_eq_false k6] at t6
             clear E6
             by_cases k7:k=7
             · have EE:=E7 k7
               rw [decide_eq_true k7] at t7
               clear k7 E7 E8 E9 E10 E11 E12 t8 t9 t10 t11
               by_cases hz:n=0
               · rw [show (n == 0)=true by simp [hz]] at EE
                 subst hz
                 rw [EE]
                 clear EE
                 go_enter Tryz.func214,Tryz.ntmps214
                 cases bo
                 all_goals
                   go_wp2_with (first
                     | (go_at_call 183
                        refine (HN.out _ (HW.out _)).mono ?_
                        rintro e w1 ⟨rfl,hb⟩
                        have HB1:=Lib.hid ((HB.out _).trans (hb.mono (HB.out _).size))
                        clear hb)
                     | (go_at_call 247
                        refine (HO.out _).mono ?_
                        rintro e w1 ⟨rfl,rfl⟩)
                     | (fail))
                   go_ret
                   first
                     | exact ⟨by first | rfl | simp_all,HB1.out⟩
                     | exact ⟨by first | rfl | simp_all,HB.out _⟩
               · rw [show (n == 0)=false by simp [hz]] at EE
                 rw [EE]
                 clear EE
                 go_enter Tryz.func214,Tryz.ntmps214
                 go_wp2_with (first
                   | (go_at_call 183
                      refine (HN.out _ (HW.out _)).mono ?_
                      rintro e w1 ⟨rfl,hb⟩
                      have HB1:=Lib.hid ((HB.out _).trans (hb.mono (HB.out _).size))
                      clear hb)
                   | (go_at_call 247
                      refine (HO.out _).mono ?_
                      rintro e w1 ⟨rfl,rfl⟩)
                   | (fail))
                 go_ret
                 first
                   | exact ⟨by first | rfl | simp_all,HB1.out⟩
                   | exact ⟨by first | rfl | simp_all,HB.out _⟩
             · rw [decide_eq_false k7] at t7
               clear E7
               by_cases k8:k=8
               · have EE:=E8 k8
                 rw [decide_eq_true k8] at t8
                 clear k8 E8 E9 E10 E11 E12 t9 t10 t11
                 by_cases hz:n=0
                 · rw [show (n == 0)=true by simp [hz]] at EE
                   subst hz
                   rw [EE]
                   clear EE
                   go_enter Tryz.func214,Tryz.ntmps214
                   cases bs <;> cases c2
                   all_goals
                     go_wp2_with (first
                       | (go_at_call 183
                          refine (HN.out _ (HW.out _)).mono ?_
                          rintro e w1 ⟨rfl,hb⟩
                          have HB1:=Lib.hid ((HB.out _).trans (hb.mono (HB.out _).size))
                          clear hb)
                       | (go_at_call 247
                          refine (HO.out _).mono ?_
                          rintro e w1 ⟨rfl,rfl⟩)
                       | (fail))
                     go_ret
                     first
                       | exact ⟨by first | rfl | simp_all,HB1.out⟩
                       | exact ⟨by first | rfl | simp_all,HB.out _⟩
                 · rw [show (n == 0)=false by simp [hz]] at EE
                   rw [EE]
                   clear EE
                   go_enter Tryz.func214,Tryz.ntmps214
                   go_wp2_with (first
                     | (go_at_call 183
                        refine (HN.out _ (HW.out _)).mono ?_
                        rintro e w1 ⟨rfl,hb⟩
                        have HB1:=Lib.hid ((HB.out _).trans (hb.mono (HB.out _).size))
                        clear hb)
                     | (go_at_call 247
                        refine (HO.out _).mono ?_
                        rintro e w1 ⟨rfl,rfl⟩)
                     | (fail))
                   go_ret
                   first
                     | exact ⟨by first | rfl | simp_all,HB1.out⟩
                     | exact ⟨by first | rfl | simp_all,HB.out _⟩
               · rw [decide_eq_false k8] at t8
                 clear E8
                 by_cases k9:k=9
                 · have EE:=E9 k9
                   rw [decide_eq_true k9] at t9
                   clear k9 E9 E10 E11 E12 t10 t11
                   by_cases hz:n=0
                   · rw [show (n == 0)=true by simp [hz]] at EE
                     subst hz
                     rw [EE]
                     clear EE
                     go_enter Tryz.func214,Tryz.ntmps214
                     cases bs <;> cases c1
                     all_goals
                       go_wp2_with (first
                         | (go_at_call 183
                            refine (HN.out _ (HW.out _)).mono ?_
                            rintro e w1 ⟨rfl,hb⟩
                            have HB1:=Lib.hid ((HB.out _).trans (hb.mono (HB.out _).size))
                            clear hb)
                         | (go_at_call 247
                            refine (HO.out _).mono ?_
                            rintro e w1 ⟨rfl,rfl⟩)
                         | (fail))
                       go_ret
                       first
                         | exact ⟨by first | rfl | simp_all,HB1.out⟩
                         | exact ⟨by first | rfl | simp_all,HB.out _⟩
                   · rw [show (n == 0)=false by simp [hz]] at EE
                     rw [EE]
                     clear EE
                     go_enter Tryz.func214,Tryz.ntmps214
                     go_wp2_with (first
                       | (go_at_call 183
                          refine (HN.out _ (HW.out _)).mono ?_
                          rintro e w1 ⟨rfl,hb⟩
                          have HB1:=Lib.hid ((HB.out _).trans (hb.mono (HB.out _).size))
                          clear hb)
                       | (go_at_call 247
                          refine (HO.out _).mono ?_
                          rintro e w1 ⟨rfl,rfl⟩)
                       | (fail))
                     go_ret
                     first
                       | exact ⟨by first | rfl | simp_all,HB1.out⟩
                       | exact ⟨by first | rfl | simp_all,HB.out _⟩
                 · rw [decide_eq_false k9] at t9
                   clear E9
                   by_cases k10:k=10
                   · have EE:=E10 k10
                     rw [decide_eq_true k10] at t10
                     clear k10 E10 E11 E12 t11
                     by_cases hz:n=0
                     · rw [show (n == 0)=true by simp [hz]] at EE
                       subst hz
                       rw [EE]
                       clear EE
                       go_enter Tryz.func214,Tryz.ntmps214
                       cases bn
                       all_goals
                         go_wp2_with (first
                           | (go_at_call 183
                              refine (HN.out _ (HW.out _)).mono ?_
                              rintro e w1 ⟨rfl,hb⟩
                              have HB1:=Lib.hid ((HB.out _).trans (hb.mono (HB.out _).size))
                              clear hb)
                           | (go_at_call 247
                              refine (HO.out _).mono ?_
                              rintro e w1 ⟨rfl,rfl⟩)
                           | (fail))
                         go_ret
                         first
                           | exact ⟨by first | rfl | simp_all,HB1.out⟩
                           | exact ⟨by first | rfl | simp_all,HB.out _⟩
                     · rw [show (n == 0)=false by simp [hz]] at EE
                       rw [EE]
                       clear EE
                       go_enter Tryz.func214,Tryz.ntmps214
                       go_wp2_with (first
                         | (go_at_call 183
                            refine (HN.out _ (HW.out _)).mono ?_
                            rintro e w1 ⟨rfl,hb⟩
                            have HB1:=Lib.hid ((HB.out _).trans (hb.mono (HB.out _).size))
                            clear hb)
                         | (go_at_call 247
                            refine (HO.out _).mono ?_
                            rintro e w1 ⟨rfl,rfl⟩)
                         | (fail))
                       go_ret
                       first
                         | exact ⟨by first | rfl | simp_all,HB1.out⟩
                         | exact ⟨by first | rfl | simp_all,HB.out _⟩
                   · rw [decide_eq_false k10] at t10
                     clear E10
                     by_cases k11:k=11
                     · have EE:=E11 k11
                       rw [decide_eq_true k11] at t11
                       clear k11 E11 E12 
                       by_cases hz:n=0
                       · rw [show (n == 0)=true by simp [hz]] at EE
                         subst hz
                         rw [EE]
                         clear EE
                         go_enter Tryz.func214,Tryz.ntmps214
                         cases bn
                         all_goals
                           go_wp2_with (first
                             | (go_at_call 183
                                refine (HN.out _ (HW.out _)).mono ?_
                                rintro e w1 ⟨rfl,hb⟩
                                have HB1:=Lib.hid ((HB.out _).trans (hb.mono (HB.out _).size))
                                clear hb)
                             | (go_at_call 247
                                refine (HO.out _).mono ?_
                                rintro e w1 ⟨rfl,rfl⟩)
                             | (fail))
                           go_ret
                           first
                             | exact ⟨by first | rfl | simp_all,HB1.out⟩
                             | exact ⟨by first | rfl | simp_all,HB.out _⟩
                       · rw [show (n == 0)=false by simp [hz]] at EE
                         rw [EE]
                         clear EE
                         go_enter Tryz.func214,Tryz.ntmps214
                         go_wp2_with (first
                           | (go_at_call 183
                              refine (HN.out _ (HW.out _)).mono ?_
                              rintro e w1 ⟨rfl,hb⟩
                              have HB1:=Lib.hid ((HB.out _).trans (hb.mono (HB.out _).size))
                              clear hb)
                           | (go_at_call 247
                              refine (HO.out _).mono ?_
                              rintro e w1 ⟨rfl,rfl⟩)
                           | (fail))
                         go_ret
                         first
                           | exact ⟨by first | rfl | simp_all,HB1.out⟩
                           | exact ⟨by first | rfl | simp_all,HB.out _⟩
                     · rw [decide_eq_false k11] at t11
                       clear E11
                       have EE:=E12 (by omega)
                       clear E12 k1 k2 k3 k4 k5 k6 k7 k8 k9 k10 k11
                       rw [EE]
                       clear EE
                       go_enter Tryz.func214,Tryz.ntmps214
                       by_cases hz:n=0
                       all_goals
                         go_wp2_with (first
                           | (go_at_call 183
                              refine (HN.out _ (HW.out _)).mono ?_
                              rintro e w1 ⟨rfl,hb⟩
                              have HB1:=Lib.hid ((HB.out _).trans (hb.mono (HB.out _).size))
                              clear hb)
                           | (go_at_call 247
                              refine (HO.out _).mono ?_
                              rintro e w1 ⟨rfl,rfl⟩)
                           | (fail))
                         go_ret
                         exact ⟨by first | rfl | simp_all,HB.out _⟩
end Go.Proofs.YtcmopnkldplngabGreatDoor
namespace Go.Proofs.YtcmopnkldplngabGreatDoor
open Go.RowKit
set_option linter.unusedVariables false
set_option maxRecDepth 100000 in
set_option maxHeartbeats 8000000 in
theorem rightStmt_any (k : Nat) (s:List Nat) (x b c:Nat) (A1 A2 A3:Option Addr) (c1 c2 c3:Nat) (ln:Int) (h8:∀ x∈s,x<256) (hn:s.length≤140737488355328) (w:World) (hw:Wt w) :
   Calls Tryz.prog 185 #[.agg #[.int .u8 (k:Int),.string (strOf s),.slice A1 x c1,.slice A2 b c2,.slice A3 c c3,.int .i64 ln]] w fun e w'=>e = .returned (.bool (rightS k s x b c))∧Below w.heap.size w w':=by
 have HN:=Lib.hid (fun w' (h':Wt w')=>isName_any s h8 hn w' h')
 have HW:=Lib.hid (fun o k=>hw.below (below_drewN ((Below.refl w.heap.size w).alloc (Nat.le_refl _) o) k))
 have HB:=Lib.hid (fun o k=>below_drewN ((Below.refl w.heap.size w).alloc (Nat.le_refl _) o) k)
 have e0:(strOf s).toList.isEmpty=s.isEmpty:=by rw [one_empty]; cases s <;> simp
 have g0:((x:Int) == 0)=(x == 0):=by rw [Bool.eq_iff_iff,beq_iff_eq,beq_iff_eq]; omega
 have g1:((x:Int) == 1)=(x == 1):=by rw [Bool.eq_iff_iff,beq_iff_eq,beq_iff_eq]; omega
 have g2:decide ((1:Int)≤(x:Int))=decide (1≤x):=by rw [Bool.eq_iff_iff,decide_eq_true_iff,decide_eq_true_iff]; omega
 have g3:((c:Int) == 0)=(c == 0):=by rw [Bool.eq_iff_iff,beq_iff_eq,beq_iff_eq]; omega
 have E3:k=3→rightS k s x b c=(s.isEmpty&&(x == 1)):=fun hk=>by subst hk; simp [rightS]
 have E4:k=4→rightS k s x b c=(s.isEmpty&&(x == 1)&&(c == 0)):=fun hk=>by subst hk; simp [rightS]
 have EB:k≠3→k≠4→(0<b∨0<c)→rightS k s x b c=false:=fun h3 h4 hh=>by unfold rightS; rw [if_neg h3,if_neg h4,if_pos hh]
 have E1:k=1→¬ (0<b∨0<c)→rightS k s x b c=(isNm s&&(x == 1)):=fun hk hh=>by subst hk; unfold rightS; rw [if_neg (by decide),if_neg (by decide),if_neg hh]; simp
 have E2:k=2→¬ (0<b∨0<c)→rightS k s x b c=(isNm s&&(x == 1)):=fun hk hh=>by subst hk; unfold rightS; rw [if_neg (by decide),if_neg (by decide),if_neg hh]; simp
 have E5:k=5→¬ (0<b∨0<c)→rightS k s x b c=(s.isEmpty&&(x == 1)):=fun hk hh=>by subst hk; unfold rightS; rw [if_neg (by decide),if_neg (by decide),if_neg hh]; simp
 have E9:k=9→¬ (0<b∨0<c)→rightS k s x b c=(s.isEmpty&&(x == 1)):=fun hk hh=>by subst hk; unfold rightS; rw [if_neg (by decide),if_neg (by decide),if_neg hh]; simp
 have E6:k=6→¬ (0<b∨0<c)→rightS k s x b c=(isNm s&&decide (1≤x)):=fun hk hh=>by subst hk; unfold rightS; rw [if_neg (by decide),if_neg (by decide),if_neg hh]; simp
 have E7:k=7→¬ (0<b∨0<c)→rightS k s x b c=(isNm s):=fun hk hh=>by subst hk; unfold rightS; rw [if_neg (by decide),if_neg (by decide),if_neg hh]; simp
 have E8:k=8→¬ (0<b∨0<c)→rightS k s x b c=(s.isEmpty&&(x == 0)):=fun hk hh=>by subst hk; unfold rightS; rw [if_neg (by decide),if_neg (by decide),if_neg hh]; simp
 have E12:(k=0∨9<k)→¬ (0<b∨0<c)→rightS k s x b c=false:=fun hk hh=>by unfold rightS; rw [if_neg (by omega),if_neg (by omega),if_neg hh,if_neg (by omega),if_neg (by omega),if_neg (by omega),if_neg (by omega),if_neg (by omega)]
 have t1:((k:Int) == 1)=decide (k=1):=by rw [Bool.eq_iff_iff,beq_iff_eq,decide_eq_true_iff]; omega
 have t2:((k:Int) == 2)=decide (k=2):=by rw [Bool.eq_iff_iff,beq_iff_eq,decide_eq_true_iff]; omega
 have t3:((k:Int) == 3)=decide (k=3):=by rw [Bool.eq_iff_iff,beq_iff_eq,decide_eq_true_iff]; omega
 have t4:((k:Int) == 4)=decide (k=4):=by rw [Bool.eq_iff_iff,beq_iff_eq,decide_eq_true_iff]; omega
 have t5:((k:Int) == 5)=decide (k=5):=by rw [Bool.eq_iff_iff,beq_iff_eq,decide_eq_true_iff]; omega
 have t6:((k:Int) == 6)=decide (k=6):=by rw [Bool.eq_iff_iff,beq_iff_eq,decide_eq_true_iff]; omega
 have t7:((k:Int) == 7)=decide (k=7):=by rw [Bool.eq_iff_iff,beq_iff_eq,decide_eq_true_iff]; omega
 have t8:((k:Int) == 8)=decide (k=8):=by rw [Bool.eq_iff_iff,beq_iff_eq,decide_eq_true_iff]; omega
 have t9:((k:Int) == 9)=decide (k=9):=by rw [Bool.eq_iff_iff,beq_iff_eq,decide_eq_true_iff]; omega
 generalize (x == 0)=x0 at *
 generalize (x == 1)=x1 at *
 generalize decide (1≤x)=xg at *
 generalize (c == 0)=c0 at *
 generalize s.isEmpty=bs at *
 generalize isNm s=bn at *
 generalize strOf s=S at *
 generalize rightS k s x b c=RX at *
 clear h8 hn hw
 by_cases k3:k=3
 · have EE:=E3 k3
   rw [decide_eq_true k3] at t3
   clear k3 EB E3 E4 E1 E2 E5 E6 E7 E8 E9 E12 t1 t2 t4 t5 t6 t7 t8 t9
   rw [EE]
   clear EE
   go_enter Tryz.func185,Tryz.ntmps185
   go_wp2_with fail
   go_quiet (fail)
   cases bs <;> cases x1
   all_goals
     go_wp2_with (first
       | (go_at_call 183
          refine (HN.out _ (HW.out _ _)).mono ?_
          rintro e w1 ⟨rfl,hb⟩
          have HB1:=Lib.hid ((HB.out _ _).trans (hb.mono (HB.out _ _).size))
          clear hb)
       | (fail))
     go_ret
     first
       | exact ⟨by first | rfl | simp_all,HB1.out⟩
       | exact ⟨by first | rfl | simp_all,HB.out _ _⟩
 · rw [decide_eq_false k3] at t3
   clear E3
   by_cases k4:k=4
   · have EE:=E4 k4
     rw [decide_eq_true k4] at t4
     clear k4 EB E4 E1 E2 E5 E6 E7 E8 E9 E12 t1 t2 t5 t6 t7 t8 t9
     rw [EE]
     clear EE
     go_enter Tryz.func185,Tryz.ntmps185
     go_wp2_with fail
     go_quiet (fail)
     cases bs <;> cases x1 <;> cases c0
     all_goals
       go_wp2_with (first
         | (go_at_call 183
            refine (HN.out _ (HW.out _ _)).mono ?_
            rintro e w1 ⟨rfl,hb⟩
            have HB1:=Lib.hid ((HB.out _ _).trans (hb.mono (HB.out _ _).size))
            clear hb)
         | (fail))
       go_ret
       first
         | exact ⟨by first | rfl | simp_all,HB1.out⟩
         | exact ⟨by first | rfl | simp_all,HB.out _ _⟩
   · rw [decide_eq_false k4] at t4
     clear E4
     by_cases k1:k=1
     · have EB2 := EB (by omega) (by omega)
       have EN:=E1 k1
       rw [decide_eq_true k1] at t1
       clear k1 EB E1 E2 E5 E6 E7 E8 E9 E12 t2 t5 t6 t7 t8 t9
       by_cases hb0:0<b
       · have EE:=EB2 (.inl hb0)
         clear EB2 EN
         have hb1:(0:Int)<(b:Int):=by omega
         rw [EE]
         clear EE
         go_enter Tryz.func185,Tryz.ntmps185
         go_wp2_with fail
         go_quiet (fail)
         go_wp2_with (first
           | (go_at_call 183
              refine (HN.out _ (HW.out _ _)).mono ?_
              rintro e w1 ⟨rfl,hb⟩
              have HB1:=Lib.hid ((HB.out _ _).trans (hb.mono (HB.out _ _).size))
              clear hb)
           | (fail))
         go_ret
         first
           | exact ⟨by first | rfl | simp_all,HB1.out⟩
           | exact ⟨by first | rfl | simp_all,HB.out _ _⟩
       · have hb1 : ¬ (0:Int)<(b:Int):=by omega
         by_cases hc0:0<c
         · have EE:=EB2 (.inr hc0)
           clear EB2 EN
           have hc1:(0:Int)<(c:Int):=by omega
           rw [EE]
           clear EE
           go_enter Tryz.func185,Tryz.ntmps185
           go_wp2_with fail
           go_quiet (fail)
           go_wp2_with (first
             | (go_at_call 183
                refine (HN.out _ (HW.out _ _)).mono ?_
                rintro e w1 ⟨rfl,hb⟩
                have HB1:=Lib.hid ((HB.out _ _).trans (hb.mono (HB.out _ _).size))
                clear hb)
             | (fail))
           go_ret
           first
             | exact ⟨by first | rfl | simp_all,HB1.out⟩
             | exact ⟨by first | rfl | simp_all,HB.out _ _⟩
         · have EE:=EN (by omega)
           clear EB2 EN
           have hc1:¬ (0:Int)<(c:Int):=by omega
           rw [EE]
           clear EE
           go_enter Tryz.func185,Tryz.ntmps185
           go_wp2_with fail
           go_quiet (fail)
           cases bn <;> cases x1
           all_goals
             go_wp2_with (first
               | (go_at_call 183
                  refine (HN.out _ (HW.out _ _)).mono ?_
                  rintro e w1 ⟨rfl,hb⟩
                  have HB1:=Lib.hid ((HB.out _ _).trans (hb.mono (HB.out _ _).size))
                  clear hb)
               | (fail))
             go_ret
             first
               | exact ⟨by first | rfl | simp_all,HB1.out⟩
               | exact ⟨by first | rfl | simp_all,HB.out _ _⟩
     · rw [decide_eq_false k1] at t1
       clear E1
       by_cases k2:k=2
       · have EB2 := EB (by omega) (by omega)
         have EN:=E2 k2
         rw [decide_eq_true k2] at t2
         clear k2 EB E2 E5 E6 E7 E8 E9 E12 t5 t6 t7 t8 t9
         by_cases hb0:0<b
         · have EE:=EB2 (.inl hb0)
           clear EB2 EN
           have hb1:(0:Int)<(b:Int):=by omega
           rw [EE]
           clear EE
           go_enter Tryz.func185,Tryz.ntmps185
           go_wp2_with fail
           go_quiet (fail)
           go_wp2_with (first
             | (go_at_call 183
                refine (HN.out _ (HW.out _ _)).mono ?_
                rintro e w1 ⟨rfl,hb⟩
                have HB1:=Lib.hid ((HB.out _ _).trans (hb.mono (HB.out _ _).size))
                clear hb)
             | (fail))
           go_ret
           first
             | exact ⟨by first | rfl | simp_all,HB1.out⟩
             | exact ⟨by first | rfl | simp_all,HB.out _ _⟩
         · have hb1 : ¬ (0:Int)<(b:Int):=by omega
           by_cases hc0:0<c
           · have EE:=EB2 (.inr hc0)
             clear EB2 EN
             have hc1:(0:Int)<(c:Int):=by omega
             rw [EE]
             clear EE
             go_enter Tryz.func185,Tryz.ntmps185
             go_wp2_with fail
             go_quiet (fail)
             go_wp2_with (first
               | (go_at_call 183
                  refine (HN.out _ (HW.out _ _)).mono ?_
                  rintro e w1 ⟨rfl,hb⟩
                  have HB1:=Lib.hid ((HB.out _ _).trans (hb.mono (HB.out _ _).size))
                  clear hb)
               | (fail))
             go_ret
             first
               | exact ⟨by first | rfl | simp_all,HB1.out⟩
               | exact ⟨by first | rfl | simp_all,HB.out _ _⟩
           · have EE:=EN (by omega)
             clear EB2 EN
             have hc1:¬ (0:Int)<(c:Int):=by omega
             rw [EE]
             clear EE
             go_enter Tryz.func185,Tryz.ntmps185
             go_wp2_with fail
             go_quiet (fail)
             cases bn <;> cases x1
             all_goals
               go_wp2_with (first
                 | (go_at_call 183
                    refine (HN.out _ (HW.out _ _)).mono ?_
                    rintro e w1 ⟨rfl,hb⟩
                    have HB1:=Lib.hid ((HB.out _ _).trans (hb.mono (HB.out _ _).size))
                    clear hb)
                 | (fail))
               go_ret
               first
                 | exact ⟨by first | rfl | simp_all,HB1.out⟩
                 | exact ⟨by first | rfl | simp_all,HB.out _ _⟩
       · rw [decide_eq_false k2] at t2
         clear E2
         by_cases k5:k=5
         · have EB2 := EB (by omega) (by omega)
           have EN:=E5 k5
           rw [decide_eq_true k5] at t5
           clear k5 EB E5 E6 E7 E8 E9 E12 t6 t7 t8 t9
           by_cases hb0:0<b
           · have EE:=EB2 (.inl hb0)
             clear EB2 EN
             have hb1:(0:Int)<(b:Int):=by omega
             rw [EE]
             clear EE
             go_enter Tryz.func185,Tryz.ntmps185
             go_wp2_with fail
             go_quiet (fail)
             go_wp2_with (first
               | (go_at_call 183
                  refine (HN.out _ (HW.out _ _)).mono ?_
                  rintro e w1 ⟨rfl,hb⟩
                  have HB1:=Lib.hid ((HB.out _ _).trans (hb.mono (HB.out _ _).size))
                  clear hb)
               | (fail))
             go_ret
             first
               | exact ⟨by first | rfl | simp_all,HB1.out⟩
               | exact ⟨by first | rfl | simp_all,HB.out _ _⟩
           · have hb1 : ¬ (0:Int)<(b:Int):=by omega
             by_cases hc0:0<c
             · have EE:=EB2 (.inr hc0)
               clear EB2 EN
               have hc1:(0:Int)<(c:Int):=by omega
               rw [EE]
               clear EE
               go_enter Tryz.func185,Tryz.ntmps185
               go_wp2_with fail
               go_quiet (fail)
               go_wp2_with (first
                 | (go_at_call 183
                    refine (HN.out _ (HW.out _ _)).mono ?_
                    rintro e w1 ⟨rfl,hb⟩
                    have HB1:=Lib.hid ((HB.out _ _).trans (hb.mono (HB.out _ _).size))
                    clear hb)
                 | (fail))
               go_ret
               first
                 | exact ⟨by first | rfl | simp_all,HB1.out⟩
                 | exact ⟨by first | rfl | simp_all,HB.out _ _⟩
             · have EE:=EN (by omega)
               clear EB2 EN
               have hc1:¬ (0:Int)<(c:Int):=by omega
               rw [EE]
               clear EE
               go_enter Tryz.func185,Tryz.ntmps185
               go_wp2_with fail
               go_quiet (fail)
               cases bs <;> cases x1
               all_goals
                 go_wp2_with (first
                   | (go_at_call 183
                      refine (HN.out _ (HW.out _ _)).mono ?_
                      rintro e w1 ⟨rfl,hb⟩
                      have HB1:=Lib.hid ((HB.out _ _).trans (hb.mono (HB.out _ _).size))
                      clear hb)
                   | (fail))
                 go_ret
                 first
                   | exact ⟨by first | rfl | simp_all,HB1.out⟩
                   | exact ⟨by first | rfl | simp_all,HB.out _ _⟩
         · rw [decide_eq_false k5] at t5
           clear E5
           by_cases k6:k=6
           · have EB2 := EB (by omega) (by omega)
             have EN:=E6 k6
             rw [decide_eq_true k6] at t6
             clear k6 EB E6 E7 E8 E9 E12 t7 t8 t9
             by_cases hb0:0<b
             · have EE:=EB2 (.inl hb0)
               clear EB2 EN
               have hb1:(0:Int)<(b:Int):=by omega
               rw [EE]
               clear EE
               go_enter Tryz.func185,Tryz.ntmps185
               go_wp2_with fail
               go_quiet (fail)
               go_wp2_with (first
                 | (go_at_call 183
                    refine (HN.out _ (HW.out _ _)).mono ?_
                    rintro e w1 ⟨rfl,hb⟩
                    have HB1:=Lib.hid ((HB.out _ _).trans (hb.mono (HB.out _ _).size))
                    clear hb)
                 | (fail))
               go_ret
               first
                 | exact ⟨by first | rfl | simp_all,HB1.out⟩
                 | exact ⟨by first | rfl | simp_all,HB.out _ _⟩
             · have hb1 : ¬ (0:Int)<(b:Int):=by omega
               by_cases hc0:0<c
               · have EE:=EB2 (.inr hc0)
                 clear EB2 EN
                 have hc1:(0:Int)<(c:Int):=by omega
                 rw [EE]
                 clear EE
                 go_enter Tryz.func185,Tryz.ntmps185
                 go_wp2_with fail
                 go_quiet (fail)
                 go_wp2_with (first
                   | (go_at_call 183
                      refine (HN.out _ (HW.out _ _)).mono ?_
                      rintro e w1 ⟨rfl,hb⟩
                      have HB1:=Lib.hid ((HB.out _ _).trans (hb.mono (HB.out _ _).size))
                      clear hb)
                   | (fail))
                 go_ret
                 first
                   | exact ⟨by first | rfl | simp_all,HB1.out⟩
                   | exact ⟨by first | rfl | simp_all,HB.out _ _⟩
               · have EE:=EN (by omega)
                 clear EB2 EN
                 have hc1:¬ (0:Int)<(c:Int):=by omega
                 rw [EE]
                 clear EE
                 go_enter Tryz.func185,Tryz.ntmps185
                 go_wp2_with fail
                 go_quiet (fail)
                 cases bn <;> cases xg
                 all_goals
                   go_wp2_with (first
                     | (go_at_call 183
                        refine (HN.out _ (HW.out _ _)).mono ?_
                        rintro e w1 ⟨rfl,hb⟩
                        have HB1:=Lib.hid ((HB.out _ _).trans (hb.mono (HB.out _ _).size))
                        clear hb)
                     | (fail))
                   go_ret
                   first
                     | exact ⟨by first | rfl | simp_all,HB1.out⟩
                     | exact ⟨by first | rfl | simp_all,HB.out _ _⟩
           · rw [decide_eq_false k6] at t6
             clear E6
             by_cases k7:k=7
             · have EB2 := EB (by omega) (by omega)
               have EN:=E7 k7
               rw [decide_eq_true k7] at t7
               clear k7 EB E7 E8 E9 E12 t8 t9
               by_cases hb0:0<b
               · have EE:=EB2 (.inl hb0)
                 clear EB2 EN
                 have hb1:(0:Int)<(b:Int):=by omega
                 rw [EE]
                 clear EE
                 go_enter Tryz.func185,Tryz.ntmps185
                 go_wp2_with fail
                 go_quiet (fail)
                 go_wp2_with (first
                   | (go_at_call 183
                      refine (HN.out _ (HW.out _ _)).mono ?_
                      rintro e w1 ⟨rfl,hb⟩
                      have HB1:=Lib.hid ((HB.out _ _).trans (hb.mono (HB.out _ _).size))
                      clear hb)
                   | (fail))
                 go_ret
                 first
                   | exact ⟨by first | rfl | simp_all,HB1.out⟩
                   | exact ⟨by first | rfl | simp_all,HB.out _ _⟩
               · have hb1 : ¬ (0:Int)<(b:Int):=by omega
                 by_cases hc0:0<c
                 · have EE:=EB2 (.inr hc0)
                   clear EB2 EN
                   have hc1:(0:Int)<(c:Int):=by omega
                   rw [EE]
                   clear EE
                   go_enter Tryz.func185,Tryz.ntmps185
                   go_wp2_with fail
                   go_quiet (fail)
                   go_wp2_with (first
                     | (go_at_call 183
                        refine (HN.out _ (HW.out _ _)).mono ?_
                        rintro e w1 ⟨rfl,hb⟩
                        have HB1:=Lib.hid ((HB.out _ _).trans (hb.mono (HB.out _ _).size))
                        clear hb)
                     | (fail))
                   go_ret
                   first
                     | exact ⟨by first | rfl | simp_all,HB1.out⟩
                     | exact ⟨by first | rfl | simp_all,HB.out _ _⟩
                 · have EE:=EN (by omega)
                   clear EB2 EN
                   have hc1:¬ (0:Int)<(c:Int):=by omega
                   rw [EE]
                   clear EE
                   go_enter Tryz.func185,Tryz.ntmps185
                   go_wp2_with fail
                   go_quiet (fail)
                   cases bn
                   all_goals
                     go_wp2_with (first
                       | (go_at_call 183
                          refine (HN.out _ (HW.out _ _)).mono ?_
                          rintro e w1 ⟨rfl,hb⟩
                          have HB1:=Lib.hid ((HB.out _ _).trans (hb.mono (HB.out _ _).size))
                          clear hb)
                       | (fail))
                     go_ret
                     first
                       | exact ⟨by first | rfl | simp_all,HB1.out⟩
                       | exact ⟨by first | rfl | simp_all,HB.out _ _⟩
             · rw [decide_eq_false k7] at t7
               clear E7
               by_cases k8:k=8
               · have EB2 := EB (by omega) (by omega)
                 have EN:=E8 k8
                 rw [decide_eq_true k8] at t8
                 clear k8 EB E8 E9 E12 t9
                 by_cases hb0:0<b
                 · have EE:=EB2 (.inl hb0)
                   clear EB2 EN
                   have hb1:(0:Int)<(b:Int):=by omega
                   rw [EE]
                   clear EE
                   go_enter Tryz.func185,Tryz.ntmps185
                   go_wp2_with fail
                   go_quiet (fail)
                   go_wp2_with (first
                     | (go_at_call 183
                        refine (HN.out _ (HW.out _ _)).mono ?_
                        rintro e w1 ⟨rfl,hb⟩
                        have HB1:=Lib.hid ((HB.out _ _).trans (hb.mono (HB.out _ _).size))
                        clear hb)
                     | (fail))
                   go_ret
                   first
                     | exact ⟨by first | rfl | simp_all,HB1.out⟩
                     | exact ⟨by first | rfl | simp_all,HB.out _ _⟩
                 · have hb1 : ¬ (0:Int)<(b:Int):=by omega
                   by_cases hc0:0<c
                   · have EE:=EB2 (.inr hc0)
                     clear EB2 EN
                     have hc1:(0:Int)<(c:Int):=by omega
                     rw [EE]
                     clear EE
                     go_enter Tryz.func185,Tryz.ntmps185
                     go_wp2_with fail
                     go_quiet (fail)
                     go_wp2_with (first
                       | (go_at_call 183
                          refine (HN.out _ (HW.out _ _)).mono ?_
                          rintro e w1 ⟨rfl,hb⟩
                          have HB1:=Lib.hid ((HB.out _ _).trans (hb.mono (HB.out _ _).size))
                          clear hb)
                       | (fail))
                     go_ret
                     first
                       | exact ⟨by first | rfl | simp_all,HB1.out⟩
                       | exact ⟨by first | rfl | simp_all,HB.out _ _⟩
                   · have EE:=EN (by omega)
                     clear EB2 EN
                     have hc1:¬ (0:Int)<(c:Int):=by omega
                     rw [EE]
                     clear EE
                     go_enter Tryz.func185,Tryz.ntmps185
                     go_wp2_with fail
                     go_quiet (fail)
                     cases bs <;> cases x0
                     all_goals
                       go_wp2_with (first
                         | (go_at_call 183
                            refine (HN.out _ (HW.out _ _)).mono ?_
                            rintro e w1 ⟨rfl,hb⟩
                            have HB1:=Lib.hid ((HB.out _ _).trans (hb.mono (HB.out _ _).size))
                            clear hb)
                         | (fail))
                       go_ret
                       first
                         | exact ⟨by first | rfl | simp_all,HB1.out⟩
                         | exact ⟨by first | rfl | simp_all,HB.out _ _⟩
               · rw [decide_eq_false k8] at t8
                 clear E8
                 by_cases k9:k=9
                 · have EB2 := EB (by omega) (by omega)
                   have EN:=E9 k9
                   rw [decide_eq_true k9] at t9
                   clear k9 EB E9 E12 
                   by_cases hb0:0<b
                   · have EE:=EB2 (.inl hb0)
                     clear EB2 EN
                     have hb1:(0:Int)<(b:Int):=by omega
                     rw [EE]
                     clear EE
                     go_enter Tryz.func185,Tryz.ntmps185
                     go_wp2_with fail
                     go_quiet (fail)
                     go_wp2_with (first
                       | (go_at_call 183
                          refine (HN.out _ (HW.out _ _)).mono ?_
                          rintro e w1 ⟨rfl,hb⟩
                          have HB1:=Lib.hid ((HB.out _ _).trans (hb.mono (HB.out _ _).size))
                          clear hb)
                       | (fail))
                     go_ret
                     first
                       | exact ⟨by first | rfl | simp_all,HB1.out⟩
                       | exact ⟨by first | rfl | simp_all,HB.out _ _⟩
                   · have hb1 : ¬ (0:Int)<(b:Int):=by omega
                     by_cases hc0:0<c
                     · have EE:=EB2 (.inr hc0)
                       clear EB2 EN
                       have hc1:(0:Int)<(c:Int):=by omega
                       rw [EE]
                       clear EE
                       go_enter Tryz.func185,Tryz.ntmps185
                       go_wp2_with fail
                       go_quiet (fail)
                       go_wp2_with (first
                         | (go_at_call 183
                            refine (HN.out _ (HW.out _ _)).mono ?_
                            rintro e w1 ⟨rfl,hb⟩
                            have HB1:=Lib.hid ((HB.out _ _).trans (hb.mono (HB.out _ _).size))
                            clear hb)
                         | (fail))
                       go_ret
                       first
                         | exact ⟨by first | rfl | simp_all,HB1.out⟩
                         | exact ⟨by first | rfl | simp_all,HB.out _ _⟩
                     · have EE:=EN (by omega)
                       clear EB2 EN
                       have hc1:¬ (0:Int)<(c:Int):=by omega
                       rw [EE]
                       clear EE
                       go_enter Tryz.func185,Tryz.ntmps185
                       go_wp2_with fail
                       go_quiet (fail)
                       cases bs <;> cases x1
                       all_goals
                         go_wp2_with (first
                           | (go_at_call 183
                              refine (HN.out _ (HW.out _ _)).mono ?_
                              rintro e w1 ⟨rfl,hb⟩
                              have HB1:=Lib.hid ((HB.out _ _).trans (hb.mono (HB.out _ _).size))
                              clear hb)
                           | (fail))
                         go_ret
                         first
                           | exact ⟨by first | rfl | simp_all,HB1.out⟩
                           | exact ⟨by first | rfl | simp_all,HB.out _ _⟩
                 · rw [decide_eq_false k9] at t9
                   clear E9
                   have EB2:=EB (by omega) (by omega)
                   have EN:=E12 (by omega)
                   clear EB E12 k1 k2 k3 k4 k5 k6 k7 k8 k9
                   by_cases hb0:0<b
                   · have EE:=EB2 (.inl hb0)
                     clear EB2 EN
                     have hb1:(0:Int)<(b:Int):=by omega
                     rw [EE]
                     clear EE
                     go_enter Tryz.func185,Tryz.ntmps185
                     go_wp2_with fail
                     go_quiet (fail)
                     go_wp2_with (first
                       | (go_at_call 183
                          refine (HN.out _ (HW.out _ _)).mono ?_
                          rintro e w1 ⟨rfl,hb⟩
                          have HB1:=Lib.hid ((HB.out _ _).trans (hb.mono (HB.out _ _).size))
                          clear hb)
                       | (fail))
                     go_ret
                     first
                       | exact ⟨by first | rfl | simp_all,HB1.out⟩
                       | exact ⟨by first | rfl | simp_all,HB.out _ _⟩
                   · have hb1:¬ (0:Int)<(b:Int):=by omega
                     by_cases hc0:0<c
                     · have EE:=EB2 (.inr hc0)
                       clear EB2 EN
                       have hc1:(0:Int)<(c:Int):=by omega
                       rw [EE]
                       clear EE
                       go_enter Tryz.func185,Tryz.ntmps185
                       go_wp2_with fail
                       go_quiet (fail)
                       go_wp2_with (first
                         | (go_at_call 183
                            refine (HN.out _ (HW.out _ _)).mono ?_
                            rintro e w1 ⟨rfl,hb⟩
                            have HB1:=Lib.hid ((HB.out _ _).trans (hb.mono (HB.out _ _).size))
                            clear hb)
                         | (fail))
                       go_ret
                       first
                         | exact ⟨by first | rfl | simp_all,HB1.out⟩
                         | exact ⟨by first | rfl | simp_all,HB.out _ _⟩
                     · have EE:=EN (by omega)
                       clear EB2 EN
                       have hc1:¬ (0:Int)<(c:Int):=by omega
                       rw [EE]
                       clear EE
                       go_enter Tryz.func185,Tryz.ntmps185
                       go_wp2_with fail
                       go_quiet (fail)
                       go_wp2_with (first
                         | (go_at_call 183
                            refine (HN.out _ (HW.out _ _)).mono ?_
                            rintro e w1 ⟨rfl,hb⟩
                            have HB1:=Lib.hid ((HB.out _ _).trans (hb.mono (HB.out _ _).size))
                            clear hb)
                         | (fail))
                       go_ret
                       first
                         | exact ⟨by first | rfl | simp_all,HB1.out⟩
                         | exact ⟨by first | rfl | simp_all,HB.out _ _⟩
end Go.Proofs.YtcmopnkldplngabGreatDoor
namespace Go.Proofs.YtcmopnkldplngabGreatDoor
open Go.RowKit
set_option linter.unusedVariables false
def Ct (w:World) (qc:Nat) (z:Int):Prop:=w.heap[qc]?=some (.cells #[.int .i64 z] 234 (0,0))
def OutR (qc:Nat) (w:World) (r:Option Nat) (e:Ending) (w':World):Prop:=e = .returned (.bool r.isSome)∧(∃ z:Int,Ct w' qc z∧∀ c':Nat,r=some c'→z=(c':Int))∧Kp qc w w'
set_option maxHeartbeats 1600000 in
theorem part_any (qc c d:Nat) (w:World) (h:Ct w qc (c:Int)) (hc:c≤1000000) (hd:d≤1000000) :
   Calls Tryz.prog 184 #[at0 qc,.int .i64 (d:Int)] w fun e w'=>e = .returned (.bool (decide (¬ (c=0∨40<d))))∧Ct w' qc ((c:Int)-1)∧Kp qc w w':=by
 have c0:=cell_of_one h
 have f0:=free_block h 0
 have hlt:=lt_heap h
 have hs:Ct (w.setCell ⟨qc,0,none⟩ (.int .i64 ((c:Int)-1))) qc ((c:Int)-1):=by
   have:=heap_set h 0 (.int .i64 ((c:Int)-1))
   unfold Ct
   simpa using this
 have HS:=Lib.hid hs
 have HK:=Lib.hid ((Kp.refl qc w).set (p:=⟨qc,0,none⟩) rfl (.int .i64 ((c:Int)-1)))
 have g1:((c:Int)-1 ≥ 0) ↔ ¬ c=0:=by omega
 unfold at0
 clear hs h
 by_cases h1:c=0
 · have t1:decide (0≤(c:Int)-1)=false:=decide_eq_false (by omega)
   have t2:¬ 0≤(c:Int)-1:=by omega
   rw [decide_eq_false (fun hh=>hh (.inl h1))]
   clear h1 g1
   go_enter Tryz.func184,Tryz.ntmps184
   go_wp2_with fail
   go_ret
   exact ⟨rfl,HS.out,HK.out⟩
 · have t1:0≤(c:Int)-1:=by omega
   have t3:(1:Int)≤(c:Int):=by omega
   have t5:((c:Int)-1 ≥ 0)=True:=eq_true t1
   have t6:decide (0≤(c:Int)-1)=true:=decide_eq_true t1
   by_cases h2:40<d
   · have t2:¬ (d:Int)≤40:=by omega
     rw [decide_eq_false (fun hh=>hh (.inr h2))]
     clear h1 g1 h2
     go_enter Tryz.func184,Tryz.ntmps184
     go_wp2_with fail
     go_ret
     exact ⟨rfl,HS.out,HK.out⟩
   · have t2:(d:Int)≤40:=by omega
     rw [decide_eq_true (show ¬ (c=0∨40<d) by omega)]
     clear h1 g1 h2
     go_enter Tryz.func184,Tryz.ntmps184
     go_wp2_with fail
     go_ret
     exact ⟨rfl,HS.out,HK.out⟩
theorem ct_pred {w:World} {qc c:Nat} (h:Ct w qc ((c:Int)-1)) (hc:¬ c=0):Ct w qc ((c-1:Nat):Int):=by
 rw [show ((c-1:Nat):Int)=(c:Int)-1 by omega]
 exact h
def nxR (d:Nat) (l:List Ex):Option Nat→Option Nat
 | none=>none
 | some c=>exsR d l c
theorem exsR_cons (d:Nat) (x:Ex) (l:List Ex) (c:Nat):exsR d (x :: l) c=nxR d l (exR d x c):=by
 rw [exsR]
 cases exR d x c <;> rfl
theorem exsR_le:∀ (d:Nat) (l:List Ex) (c c':Nat),exsR d l c=some c'→c'≤c:=by
 intro d l
 have key:∀ (n:Nat),(∀ (x:Ex) (d c c':Nat),SizeOf.sizeOf x<n→exR d x c=some c'→c'≤c)∧(∀ (l:List Ex) (d c c':Nat),SizeOf.sizeOf l<n→exsR d l c=some c'→c'≤c):=by
   intro n
   induction n with
   | zero=>exact ⟨fun x d c c' h=>absurd h (by omega),fun x d c c' h=>absurd h (by omega)⟩
   | succ n ih =>
     refine ⟨fun x d c c' hs h=>?_,fun l d c c' hs h=>?_⟩
     · obtain ⟨k,s,m,l⟩:=x
       rw [exR] at h
       split at h
       · cases h
       · split at h
         · cases h
         · have:=ih.2 l (d+1) (c-1) c' (by simp at hs; omega) h
           omega
     · cases l with
       | nil=>rw [exsR] at h; cases h; omega
       | cons x r =>
         rw [exsR] at h
         split at h
         · cases h
         · rename_i c1 h1
           have a:=ih.1 x d c c1 (by simp at hs; omega) h1
           have b:=ih.2 r d c1 c' (by simp at hs; omega) h
           omega
 exact fun c c' h=>(key (SizeOf.sizeOf l+1)).2 l d c c' (by omega) h
set_option maxRecDepth 100000 in
set_option maxHeartbeats 4000000 in
theorem exprs_step (wb:World) (hwb:Wt wb) (qc:Nat) (hqb:wb.heap.size≤qc) (d:Nat) (hd:d≤1000)
   (IH:d≤40→∀ (l:List Ex) (c:Nat) (w:World) (S:Nat→Prop) (v:Value),Below wb.heap.size wb w→(∀ b,S b→b<w.heap.size∧b≠qc)→Rd w S (.row 4 (l.map Ex.nd)) v→Ct w qc (c:Int)→c≤2000→Calls Tryz.prog 186 #[at0 qc,v,.int .i64 ((d:Int)+1)] w (OutR qc w (exsR (d+1) l c)))
   (l:List Ex) (c:Nat) (w:World) (S:Nat→Prop) (v:Value) (hb:Below wb.heap.size wb w) (hS:∀ b,S b→b<w.heap.size∧b≠qc) (hr:Rd w S (.row 4 (l.map Ex.nd)) v) (hc:Ct w qc (c:Int)) (hc2:c≤2000) :
   Calls Tryz.prog 186 #[at0 qc,v,.int .i64 (d:Int)] w (OutR qc w (exsR d l c)):=by
 rw [Rd] at hr
 obtain ⟨A,cp,rfl,hcp,hcpm,hr⟩:=hr
 rw [List.length_map] at hcp ⊢
 have HR:=Lib.hid hr
 have HSS:=Lib.hid hS
 have HWB:=Lib.hid hwb
 have HB:=Lib.hid hb
 have HC:=Lib.hid hc
 have HIH:=Lib.hid IH
 obtain ⟨n,hn⟩:∃ n,Hid (l.length=n):=⟨_,Lib.hid rfl⟩
 rw [hn.out] at hcp ⊢
 obtain ⟨r,hrr⟩:∃ r,Hid (exsR d l c=r):=⟨_,Lib.hid rfl⟩
 rw [hrr.out]
 have HPA:=Lib.hid (fun w' (cc:Nat) (h':Ct w' qc (cc:Int)) (h2:cc≤2000)=>part_any qc cc d w' h' (by omega) (by omega))
 have hqc:=lt_heap hc
 unfold maxLen at hcpm
 clear hr hS hwb hb hc IH
 unfold at0 at *
 go_enter Tryz.func186,Tryz.ntmps186
 go_wp2_with fail
 go_loopg [11] n (fun g i wr=>∃ (j cj:Nat),j+g=n∧i = .int .i64 (j:Int)∧Hid (exsR d (l.drop j) cj=r)∧Hid (cj≤2000)∧Hid (Ct wr qc (cj:Int))∧Hid (Kp qc w wr))
 case atStart=>exact ⟨0,c,by omega,rfl,Lib.hid (by rw [List.drop_zero]; exact hrr.out),Lib.hid hc2,HC,Lib.hid (Kp.refl _ _)⟩
 case round =>
   obtain ⟨j,cj,hj,rfl,HF,HCL,HCJ,HKJ⟩:=hrel
   cases gk with
   | zero =>
     have h1:¬ (j:Int)<(n:Int):=by omega
     have HE:Hid (some cj=r):=Lib.hid (by rw [← HF.out,List.drop_eq_nil_of_le (by rw [hn.out]; omega),exsR])
     clear HF HPA HIH
     go_wp2_with fail
     go_ret
     exact ⟨by rw [← HE.out]; rfl,⟨_,HCJ.out,fun c' h=>by rw [← HE.out] at h; cases h; rfl⟩,HKJ.out⟩
   | succ g =>
     have h1:(j:Int)<(n:Int):=by omega
     have h2:j<n:=by omega
     have hjl:j<l.length:=by rw [hn.out]; exact h2
     obtain ⟨b,o,vs,rfl,hSb,hvl,hrg,hx⟩:=HR.out.at j (Ex.nd l[j]) (by simp [hjl])
     have HD:=Lib.hid (List.drop_eq_getElem_cons hjl)
     generalize l[j]=x at *
     obtain ⟨k,s,m,ks⟩:=x
     obtain ⟨y,hv,h8,hl8,hy⟩:=(Ex.rd k s m ks _).1 hx
     have hy':=hy
     rw [Rd] at hy'
     obtain ⟨A3,c3,rfl,-⟩:=hy'
     have hv2:vs=[.int .u8 (k:Int),.string (strOf s),.int .i64 m,.slice A3 (ks.map Ex.nd).length c3]:=by
       injection hv with hv
       have:=congrArg Array.toList hv
       simpa using this
     subst hv2
     rw [List.length_map] at hrg hy
     have hcell:∀ i u,[Value.int .u8 (k:Int),.string (strOf s),.int .i64 m,.slice A3 ks.length c3][i]?=some u→wr.cell? ⟨b,o+j*4+i,none⟩=some u:=fun i u hu=>by
       have:=hrg i u hu
       rw [Nat.zero_add] at this
       exact (HKJ.out.cellq (p:=⟨b,o+j*4+i,none⟩) (HSS.out b hSb).1 (HSS.out b hSb).2).trans this
     have y0:wr.cell? ⟨b,o+j*4,none⟩=some (.int .u8 (k:Int)):=hcell 0 _ rfl
     have y1:=hcell 1 _ rfl
     have y2:=hcell 2 _ rfl
     have y3:=hcell 3 _ rfl
     have HY:=Lib.hid hy
     have HREX:=Lib.hid (fun w' (h':Wt w')=>rightExpr_any k s m ks.length A3 c3 h8 hl8 w' h')
     have HF2:=Lib.hid (HF.out.symm.trans (by rw [HD.out,exsR_cons]))
     have HP:=Lib.hid (HPA.out (wr.alloc (.cells #[.int .u8 (k:Int),.string (strOf s),.int .i64 m,.slice A3 ks.length c3] 276)) cj (heap_old HCJ.out _) HCL.out)
     have HQ:=Lib.hid (heap_new wr (.cells #[.int .u8 (k:Int),.string (strOf s),.int .i64 m,.slice A3 ks.length c3] 276))
     have hqr:qc<wr.heap.size:=lt_heap HCJ.out
     have hqn:¬ wr.heap.size=qc:=by omega
     have hbr:b<wr.heap.size:=Nat.lt_of_lt_of_le (HSS.out b hSb).1 HKJ.out.size
     obtain ⟨kn,hkn⟩:∃ kn,Hid (ks.length=kn):=⟨_,Lib.hid rfl⟩
     rw [hkn.out] at y3 HREX HP HQ
     clear hrg hx hv h8 hl8 hy HF HD hjl hcell
     by_cases hpt:cj=0∨40<d
     · have HE:Hid (none=r):=Lib.hid (by rw [HF2.out,exR,if_pos hpt]; rfl)
       rw [decide_eq_false (fun hh=>hh hpt)] at HP
       clear hpt HF2 HREX HIH HPA
       go_wp2_with (first
         | (go_at_call 184
            refine HP.out.mono ?_
            rintro e w1 ⟨rfl,hc1,hk1⟩
            have HC1:=Lib.hid hc1
            have HK1:=Lib.hid ((HKJ.out.alloc _).trans hk1)
            clear hc1 hk1)
         | (fail))
       go_ret
       exact ⟨by rw [← HE.out]; rfl,⟨_,HC1.out,fun c' h=>by rw [← HE.out] at h; cases h⟩,HK1.out⟩
     · rw [decide_eq_true hpt] at HP
       have hc0:¬ cj=0:=fun hh=>hpt (.inl hh)
       have hd40:d≤40:=by omega
       cases hrx:rightX k s m kn with
       | false =>
         have HE:Hid (none=r):=Lib.hid (by rw [HF2.out,exR,if_neg hpt,hkn.out,if_pos hrx]; rfl)
         rw [hrx] at HREX
         clear hpt HF2 HIH HPA hrx
         go_wp2_with (first
           | (go_at_call 184
              refine HP.out.mono ?_
              rintro e w1 ⟨rfl,hc1,hk1⟩
              have HC1:=Lib.hid hc1
              have HK1:=Lib.hid ((HKJ.out.alloc _).trans hk1)
              obtain ⟨⟨z0,z1,z2,z3⟩,-⟩:=box4f (hk1.heap HQ.out hqn)
              clear hc1 hk1)
           | (go_at_call 214
              refine (HREX.out _ (HWB.out.below (HB.out.trans (HK1.out.below hqb HB.out.size)))).mono ?_
              rintro e w2 ⟨rfl,hb2⟩
              have HC2:Hid (Ct w2 qc ((cj:Int)-1)):=Lib.hid (heap_below HC1.out hb2)
              have HK2:=Lib.hid (HK1.out.trans (Kp.of_below hb2))
              clear hb2)
           | (fail))
         go_ret
         exact ⟨by rw [← HE.out]; rfl,⟨_,HC2.out,fun c' h=>by rw [← HE.out] at h; cases h⟩,HK2.out⟩
       | true =>
         rw [hrx] at HREX
         have HF3:Hid (r=nxR d (l.drop (j+1)) (exsR (d+1) ks (cj-1))):=Lib.hid (by rw [HF2.out,exR,if_neg hpt,hkn.out,if_neg (by rw [hrx]; simp)])
         have HCC:Hid (¬ cj=0):=Lib.hid hc0
         clear hpt HF2 HPA hrx hc0
         obtain ⟨r2,hr2⟩:∃ r2,Hid (exsR (d+1) ks (cj-1)=r2):=⟨_,Lib.hid rfl⟩
         have HIH2:=Lib.hid (fun w' S' v' a1 a2 a3 a4=>HIH.out hd40 ks (cj-1) w' S' v' a1 a2 a3 a4 (by have:=HCL.out; omega))
         rw [hr2.out] at HF3 HIH2
         clear HIH hd40
         cases hr3:r2 with
         | none =>
           have HE:Hid (none=r):=Lib.hid (by rw [HF3.out,hr3]; rfl)
           rw [hr3] at HIH2
           clear hr3 HF3 hr2
           go_wp2_with (first
             | (go_at_call 184
                refine HP.out.mono ?_
                rintro e w1 ⟨rfl,hc1,hk1⟩
                have HC1:=Lib.hid hc1
                have HK1:=Lib.hid ((HKJ.out.alloc _).trans hk1)
                have hQ1:=hk1.heap HQ.out hqn
                have HQ1:=Lib.hid hQ1
                obtain ⟨⟨z0,z1,z2,z3⟩,-⟩:=box4f hQ1
                clear hc1 hk1 hQ1)
             | (go_at_call 214
                refine (HREX.out _ (HWB.out.below (HB.out.trans (HK1.out.below hqb HB.out.size)))).mono ?_
                rintro e w2 ⟨rfl,hb2⟩
                have HC2:Hid (Ct w2 qc ((cj:Int)-1)):=Lib.hid (heap_below HC1.out hb2)
                have HK2:=Lib.hid (HK1.out.trans (Kp.of_below hb2))
                obtain ⟨⟨x0,x1,x2,x3⟩,-⟩:=box4f (heap_below HQ1.out hb2)
                have HY2:Hid (Rd w2 S (.row 4 (ks.map Ex.nd)) (.slice A3 kn c3)):=Lib.hid (by rw [← hkn.out]; exact Rd.keep (fun p hp=>HK2.out.cellq (HSS.out _ hp).1 (HSS.out _ hp).2) (fun _ h=>h) _ _ HY.out)
                have HS2:=Lib.hid (fun b (hb:S b)=>(And.intro (Nat.lt_of_lt_of_le (HSS.out b hb).1 HK2.out.size) (HSS.out b hb).2))
                clear hb2)
             | (go_at_call 186
                refine (HIH2.out _ S _ (HB.out.trans (HK2.out.below hqb HB.out.size)) HS2.out HY2.out (ct_pred HC2.out HCC.out)).mono ?_
                rintro e w3 ⟨rfl,⟨z,hz,hz2⟩,hk3⟩
                have HZ:=Lib.hid hz
                have HZ2:=Lib.hid hz2
                have HK3:=Lib.hid (HK2.out.trans hk3)
                clear hz hz2 hk3)
             | (fail))
           go_ret
           exact ⟨by rw [← HE.out]; rfl,⟨z,HZ.out,fun c' h=>by rw [← HE.out] at h; cases h⟩,HK3.out⟩
         | some c4 =>
           have HF4:Hid (exsR d (l.drop (j+1)) c4=r):=Lib.hid (by rw [HF3.out,hr3]; rfl)
           have HC4:Hid (c4≤2000):=Lib.hid (by
             have:=exsR_le (d+1) ks (cj-1) c4 (hr2.out.trans hr3)
             have:=HCL.out
             omega)
           rw [hr3] at HIH2
           clear hr3 HF3 hr2
           go_wp2_with (first
             | (go_at_call 184
                refine HP.out.mono ?_
                rintro e w1 ⟨rfl,hc1,hk1⟩
                have HC1:=Lib.hid hc1
                have HK1:=Lib.hid ((HKJ.out.alloc _).trans hk1)
                have hQ1:=hk1.heap HQ.out hqn
                have HQ1:=Lib.hid hQ1
                obtain ⟨⟨z0,z1,z2,z3⟩,-⟩:=box4f hQ1
                clear hc1 hk1 hQ1)
             | (go_at_call 214
                refine (HREX.out _ (HWB.out.below (HB.out.trans (HK1.out.below hqb HB.out.size)))).mono ?_
                rintro e w2 ⟨rfl,hb2⟩
                have HC2:Hid (Ct w2 qc ((cj:Int)-1)):=Lib.hid (heap_below HC1.out hb2)
                have HK2:=Lib.hid (HK1.out.trans (Kp.of_below hb2))
                obtain ⟨⟨x0,x1,x2,x3⟩,-⟩:=box4f (heap_below HQ1.out hb2)
                have HY2:Hid (Rd w2 S (.row 4 (ks.map Ex.nd)) (.slice A3 kn c3)):=Lib.hid (by rw [← hkn.out]; exact Rd.keep (fun p hp=>HK2.out.cellq (HSS.out _ hp).1 (HSS.out _ hp).2) (fun _ h=>h) _ _ HY.out)
                have HS2:=Lib.hid (fun b (hb:S b)=>(And.intro (Nat.lt_of_lt_of_le (HSS.out b hb).1 HK2.out.size) (HSS.out b hb).2))
                clear hb2)
             | (go_at_call 186
                refine (HIH2.out _ S _ (HB.out.trans (HK2.out.below hqb HB.out.size)) HS2.out HY2.out (ct_pred HC2.out HCC.out)).mono ?_
                rintro e w3 ⟨rfl,⟨z,hz,hz2⟩,hk3⟩
                have HZ:=Lib.hid hz
                have HZ2:=Lib.hid hz2
                have HK3:=Lib.hid (HK2.out.trans hk3)
                clear hz hz2 hk3)
             | (fail))
           go_roundg g
           case measure=>omega
           case rel=>exact ⟨j+1,c4,by omega,by go_num,HF4,HC4,Lib.hid (by rw [← HZ2.out c4 rfl]; exact HZ.out),HK3⟩
theorem exprs_any (wb:World) (hwb:Wt wb) (qc:Nat) (hqb:wb.heap.size≤qc):∀ (L d:Nat),d+L=42→∀ (l:List Ex) (c:Nat) (w:World) (S:Nat→Prop) (v:Value),Below wb.heap.size wb w→(∀ b,S b→b<w.heap.size∧b≠qc)→Rd w S (.row 4 (l.map Ex.nd)) v→Ct w qc (c:Int)→c≤2000→Calls Tryz.prog 186 #[at0 qc,v,.int .i64 (d:Int)] w (OutR qc w (exsR d l c))
 | 0,d,hd=>fun l c w S v hb hS hr hc hc2=>exprs_step wb hwb qc hqb d (by omega) (fun h=>absurd h (by omega)) l c w S v hb hS hr hc hc2
 | L+1,d,hd=>fun l c w S v hb hS hr hc hc2=>exprs_step wb hwb qc hqb d (by omega) (fun _ l c w S v hb hS hr hc hc2=>exprs_any wb hwb qc hqb L (d+1) (by omega) l c w S v hb hS hr hc hc2) l c w S v hb hS hr hc hc2
end Go.Proofs.YtcmopnkldplngabGreatDoor
