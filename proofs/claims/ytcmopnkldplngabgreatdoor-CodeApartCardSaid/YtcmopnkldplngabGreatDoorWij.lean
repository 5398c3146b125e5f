/- Texts Wi,Wj of this seat in one: see each part. -/
import Derived.Test.YtcmopnkldplngabGreatDoorWbh
namespace Go.Proofs.YtcmopnkldplngabGreatDoor
open Go.RowKit
set_option linter.unusedVariables false
theorem tokV_form (q:Option Tk):∃ (k n e:Nat) (S:ByteArray) (b:Bool),tokV q = .tuple #[.agg #[.int .u8 (k:Int),.string S,.int .i64 (n:Int),.int .i64 0,.int .i64 0,.int .i64 (e:Int)],.bool b]:=by
 cases q with
 | none=>exact ⟨0,0,0,⟨#[]⟩,false,rfl⟩
 | some t=>exact ⟨t.k,t.n,t.e,strOf t.s,true,rfl⟩
theorem sgnV_tok (q:Option (List Nat)):sgnV q=tokV (q.map fun s=>⟨5,0,s,s.length⟩):=by cases q <;> rfl
theorem ret_first {w X:World} {g:Nat} {y0 y1 y2 y3 y4 y5 z0 z1 z2 z3 z4 z5:Value} {b:Bool} {V:Value} {a:Act} (q:X.heap[g]?=some (.cells #[y0,y1,y2,y3,y4,y5] 225 (0,0))) (hb:Below w.heap.size w X) (hg:w.heap.size≤g) (h2:a.tmps[2]?.getD undef = .pointer (some ⟨g,0,none⟩)) (h3:a.tmps[3]?.getD undef = .bool b) (hd:a.defers=[]) (hV:V = .tuple #[.agg #[z0,z1,z2,z3,z4,z5],.bool b]) :
   bodyPost Tryz.prog Tryz.f207 (fun e w'=>e = .returned V∧Below w.heap.size w w') Exit.ret a ((((((X.setCell ⟨g,0,none⟩ z0).setCell ⟨g,1,none⟩ z1).setCell ⟨g,2,none⟩ z2).setCell ⟨g,3,none⟩ z3).setCell ⟨g,4,none⟩ z4).setCell ⟨g,5,none⟩ z5):=by
 have p:=set6 q z0 z1 z2 z3 z4 z5
 have c0:=cell_block p 0
 have c1:=cell_block p 1
 have c2:=cell_block p 2
 have c3:=cell_block p 3
 have c4:=cell_block p 4
 have c5:=cell_block p 5
 subst hV
 exact bodyPost_ret (v := .tuple #[.agg #[z0,z1,z2,z3,z4,z5],.bool b]) (by simp [results,Tryz.results207,go_sem,h2,h3,c0,c1,c2,c3,c4,c5]) hd ⟨rfl,bel6 hb hg _ _ _ _ _ _⟩
theorem box6 {X:World} {g:Nat} {y0 y1 y2 y3 y4 y5:Value} {E:TypeId} (h:X.heap[g]?=some (.cells #[y0,y1,y2,y3,y4,y5] E (0,0))) :
   X.cell? ⟨g,0,none⟩=some y0∧X.cell? ⟨g,1,none⟩=some y1∧X.cell? ⟨g,2,none⟩=some y2∧X.cell? ⟨g,3,none⟩=some y3∧X.cell? ⟨g,4,none⟩=some y4∧X.cell? ⟨g,5,none⟩=some y5
   ∧ X.frozen? ⟨g,0,none⟩=false∧X.frozen? ⟨g,1,none⟩=false∧X.frozen? ⟨g,2,none⟩=false∧X.frozen? ⟨g,3,none⟩=false∧X.frozen? ⟨g,4,none⟩=false∧X.frozen? ⟨g,5,none⟩=false :=
 ⟨cell_block h 0,cell_block h 1,cell_block h 2,cell_block h 3,cell_block h 4,cell_block h 5,free_block h 0,free_block h 1,free_block h 2,free_block h 3,free_block h 4,free_block h 5⟩
def firstP (F:FuncId) (T:List Nat) (q:Option Tk) (V:World):Prop:=Calls Tryz.prog F #[.string (strOf T)] V fun e w'=>e = .returned (tokV q)∧Below V.heap.size V w'
set_option maxRecDepth 100000 in
set_option maxHeartbeats 4000000 in
theorem first_any (T:List Nat) (h8:∀ x∈T,x<256) (hn:T.length≤1099511627776) (w:World) (hw:Wt w):Calls Tryz.prog 207 #[.string (strOf T)] w fun e w'=>e = .returned (tokV (tok T))∧Below w.heap.size w w':=by
 obtain ⟨V,hV⟩:∃ V,V=w.alloc (.cells #[.int .u8 0,.string ⟨#[]⟩,.int .i64 0,.int .i64 0,.int .i64 0,.int .i64 0] 225):=⟨_,rfl⟩
 have HBV:Hid (Below w.heap.size w V):=Lib.hid (by rw [hV]; exact (Below.refl w.heap.size w).alloc (Nat.le_refl _) _)
 have HVQ:Hid (V.heap[w.heap.size]?=some (.cells #[.int .u8 0,.string ⟨#[]⟩,.int .i64 0,.int .i64 0,.int .i64 0,.int .i64 0] 225 (0,0))):=Lib.hid (by rw [hV]; exact heap_new w _)
 have HWV:=Lib.hid (hw.below HBV.out)
 match T,h8 with
 | [], _ =>
   obtain ⟨S,hS⟩:∃ S,S=strOf []:=⟨_,rfl⟩
   have hemp:(S.toList == ([]:List UInt8))=true:=by rw [hS,toList_strOf]; rfl
   rw [← hS]
   clear hS
   go_enter Tryz.func207,Tryz.ntmps207
   go_upto_region 1 with fail
   rw [← hV]
   obtain ⟨g,hg⟩:∃ g,g=w.heap.size:=⟨_,rfl⟩
   rw [← hg] at HVQ ⊢
   have HGG:Hid (w.heap.size≤g):=Lib.hid (by omega)
   clear hV hg
   obtain ⟨y0,y1,y2,y3,y4,y5,z0,z1,z2,z3,z4,z5⟩:=box6 HVQ.out
   go_wp2_with fail
   exact ret_first HVQ.out HBV.out HGG.out rfl rfl rfl rfl
 | x :: r, h8 =>
   have hx8:x<256:=h8 x (by simp)
   have HS:=Lib.hid (strIs (x :: r) h8)
   have HNUM:Hid (dig x=true→firstP 236 (x :: r) (num (x :: r)) V):=Lib.hid (fun hd=>number_any (x :: r) h8 hn V HWV.out (by simp [hd]))
   have HQUO:Hid (x=34→firstP 237 (x :: r) ((say r).map fun p=>⟨2,0,p.1,p.2+1⟩) V):=Lib.hid (fun e=>by subst e; exact quoted_any r (fun y hy=>h8 y (by simp [hy])) (by simp at hn; omega) V)
   have HSGN:Hid (firstP 240 (x :: r) ((sgn (x :: r)).map fun s=>⟨5,0,s,s.length⟩) V):=Lib.hid (by
     have:=sign_any (x :: r) h8 hn V HWV.out
     rw [sgnV_tok] at this
     exact this)
   have HNAM:=Lib.hid (name_any (x :: r) h8 hn V)
   have HTK:Hid (tok (x :: r)=if dig x then num (x :: r) else if x=34 then (say r).map fun p=>⟨2,0,p.1,p.2+1⟩ else if ltr x then some ⟨if (x :: r).takeWhile wrd∈keys then 4 else 3,0,(x :: r).takeWhile wrd,((x :: r).takeWhile wrd).length⟩ else (sgn (x :: r)).map fun s=>⟨5,0,s,s.length⟩):=Lib.hid rfl
   obtain ⟨R,hR⟩:∃ R,Hid (tokV (tok (x :: r))=R):=⟨_,Lib.hid rfl⟩
   rw [hR.out]
   unfold firstP at HNUM HQUO HSGN
   have HD:=Lib.hid (fun w=>isDigit_any w x)
   have HL:=Lib.hid (fun w=>isLetter_any w x)
   have hz:=HS.out.1
   obtain ⟨S,hS⟩:∃ S,S=strOf (x :: r):=⟨_,rfl⟩
   rw [← hS] at HNUM HQUO HSGN HNAM HS hz ⊢
   have hemp:(S.toList == ([]:List UInt8))=false:=by
     rw [hS,toList_strOf]
     simp
   clear hS
   have k0:0<S.size:=by rw [hz]; simp
   have x0:=HS.out.2 0 (by simp) k0
   simp only [List.getElem_cons_zero] at x0
   clear hz
   go_enter Tryz.func207,Tryz.ntmps207
   go_upto_region 1 with fail
   rw [← hV]
   obtain ⟨g,hg⟩:∃ g,g=w.heap.size:=⟨_,rfl⟩
   rw [← hg] at HVQ ⊢
   have HGG:Hid (w.heap.size≤g):=Lib.hid (by omega)
   clear hV hg
   cases hd:dig x with
   | true =>
     as_aux_lemma =>
     obtain ⟨k,n,e,D,b,hf⟩:=tokV_form (num (x :: r))
     have hN:=HNUM.out hd
     rw [hf] at hN
     have HN:=Lib.hid hN
     have HRR:=Lib.hid (show R = _ by rw [← hR.out,HTK.out,if_pos hd,hf])
     rw [hd] at HD
     clear hd hf hN
     go_wp2_with (first
       | (go_at_call 235
          refine (HD.out _).mono ?_
          rintro e w' ⟨he,hw⟩
          subst hw
          subst he)
       | (go_at_call 236
          refine HN.out.mono ?_
          rintro e w1 ⟨he,hb⟩
          subst he
          have HB1:=Lib.hid hb
          have HV1:=Lib.hid (heap_below HVQ.out hb)
          clear hb
          obtain ⟨y0,y1,y2,y3,y4,y5,z0,z1,z2,z3,z4,z5⟩:=box6 HV1.out)
       | (fail))
     refine ret_first HV1.out (HBV.out.trans (HB1.out.mono HBV.out.size)) HGG.out rfl rfl rfl ?_
     exact HRR.out
   | false =>
     rw [hd] at HD
     by_cases h34:x=34
     · as_aux_lemma =>
       have d34:((x:Int) == 34)=true:=by subst h34; rfl
       obtain ⟨k,n,e,D,b,hf⟩:=tokV_form ((say r).map fun p=>⟨2,0,p.1,p.2+1⟩)
       have hN:=HQUO.out h34
       rw [hf] at hN
       have HN:=Lib.hid hN
       have HRR:=Lib.hid (show R = _ by rw [← hR.out,HTK.out,hd,if_neg (by simp),if_pos h34,hf])
       clear hd hf hN h34
       go_wp2_with (first
         | (go_at_call 235
            refine (HD.out _).mono ?_
            rintro e w' ⟨he,hw⟩
            subst hw
            subst he)
         | (go_at_call 237
            refine HN.out.mono ?_
            rintro e w1 ⟨he,hb⟩
            subst he
            have HB1:=Lib.hid hb
            have HV1:=Lib.hid (heap_below HVQ.out hb)
            clear hb
            obtain ⟨y0,y1,y2,y3,y4,y5,z0,z1,z2,z3,z4,z5⟩:=box6 HV1.out)
         | (fail))
       refine ret_first HV1.out (HBV.out.trans (HB1.out.mono HBV.out.size)) HGG.out rfl rfl rfl ?_
       exact HRR.out
     · have d34:((x:Int) == 34)=false:=beq_eq_false_iff_ne.2 (by omega)
       cases hl:ltr x with
       | true =>
         as_aux_lemma =>
         have HRR:=Lib.hid (show R = _ by rw [← hR.out,HTK.out,hd,if_neg (by simp),if_neg h34,hl,if_pos rfl])
         rw [hl] at HL
         have e0:∃ k:Int,k=(if (x :: r).takeWhile wrd∈keys then 4 else 3:Int):=⟨_,rfl⟩
         obtain ⟨kk,hkk⟩:=e0
         have HKK:=Lib.hid hkk
         rw [← hkk] at HNAM
         clear hd hl h34 hkk
         go_wp2_with (first
           | (go_at_call 235
              refine (HD.out _).mono ?_
              rintro e w' ⟨he,hw⟩
              subst hw
              subst he)
           | (go_at_call 238
              refine (HL.out _).mono ?_
              rintro e w' ⟨he,hw⟩
              subst hw
              subst he)
           | (go_at_call 239
              refine HNAM.out.mono ?_
              rintro e w1 ⟨he,hb⟩
              subst he
              have HB1:=Lib.hid hb
              have HV1:=Lib.hid (heap_below HVQ.out hb)
              clear hb
              obtain ⟨y0,y1,y2,y3,y4,y5,z0,z1,z2,z3,z4,z5⟩:=box6 HV1.out)
           | (fail))
         refine ret_first HV1.out (HBV.out.trans (HB1.out.mono HBV.out.size)) HGG.out rfl rfl rfl ?_
         have e:(((if (x :: r).takeWhile wrd∈keys then 4 else 3:Nat)):Int)=kk:=by rw [HKK.out]; split <;> rfl
         refine HRR.out.trans ?_
         unfold tokV
         simp only
         rw [e]
         rfl
       | false =>
         as_aux_lemma =>
         obtain ⟨k,n,e,D,b,hf⟩:=tokV_form ((sgn (x :: r)).map fun s=>⟨5,0,s,s.length⟩)
         have hN:=HSGN.out
         rw [hf] at hN
         have HN:=Lib.hid hN
         have HRR:=Lib.hid (show R = _ by rw [← hR.out,HTK.out,hd,if_neg (by simp),if_neg h34,hl,if_neg (by simp),hf])
         rw [hl] at HL
         clear hd hf hN hl h34
         go_wp2_with (first
           | (go_at_call 235
              refine (HD.out _).mono ?_
              rintro e w' ⟨he,hw⟩
              subst hw
              subst he)
           | (go_at_call 238
              refine (HL.out _).mono ?_
              rintro e w' ⟨he,hw⟩
              subst hw
              subst he)
           | (go_at_call 240
              refine HN.out.mono ?_
              rintro e w1 ⟨he,hb⟩
              subst he
              have HB1:=Lib.hid hb
              have HV1:=Lib.hid (heap_below HVQ.out hb)
              clear hb
              obtain ⟨y0,y1,y2,y3,y4,y5,z0,z1,z2,z3,z4,z5⟩:=box6 HV1.out)
           | (fail))
         refine ret_first HV1.out (HBV.out.trans (HB1.out.mono HBV.out.size)) HGG.out rfl rfl rfl ?_
         exact HRR.out
end Go.Proofs.YtcmopnkldplngabGreatDoor
namespace Go.Proofs.YtcmopnkldplngabGreatDoor
open Go.RowKit
set_option linter.unusedVariables false
theorem count_map:∀ (l:List Nat) (c:Nat),(∀ x∈l,x<256)→c<256→(l.map UInt8.ofNat).count (UInt8.ofNat c)=l.count c
 | [], _, _, _ => rfl
 | x :: r,c,h,hc=>by
   have hx:=h x (by simp)
   have ih:=count_map r c (fun y hy=>h y (by simp [hy])) hc
   rw [List.map_cons,List.count_cons,List.count_cons,ih]
   congr 1
   have e:(UInt8.ofNat x == UInt8.ofNat c)=(x == c):=by
     rw [Bool.eq_iff_iff,beq_iff_eq,beq_iff_eq]
     refine ⟨fun e=>?_,fun e=>by rw [e]⟩
     have:=congrArg UInt8.toNat e
     rw [UInt8.toNat_ofNat',UInt8.toNat_ofNat',Nat.mod_eq_of_lt hx,Nat.mod_eq_of_lt hc] at this
     exact this
   rw [e]
theorem lines_any (T:List Nat) (h8:∀ x∈T,x<256) (w:World):Calls Tryz.prog 206 #[.string (strOf T),.string ⟨#[10]⟩] w fun e w'=>e = .returned (.int .i64 (T.count 10:Int))∧w'=w:=by
 refine (Tryz.strings_Count_one (strOf T) 10 w).mono ?_
 rintro e w' ⟨rfl,rfl⟩
 refine ⟨?_,rfl⟩
 rw [strOf_data]
 have:=count_map T 10 h8 (by decide)
 show Ending.returned (.int .i64 ((List.count (UInt8.ofNat 10) (T.map UInt8.ofNat):Nat):Int)) = _
 rw [this]
def flt (e l:Int):Value := .agg #[.int .i64 e,.int .i64 l]
def w0:Value := .agg #[.int .u8 0,.string ⟨#[]⟩,.int .i64 0,.int .i64 0,.int .i64 0,.int .i64 0]
def wrdV (k:Nat) (S:ByteArray) (n ln at_ e:Nat):Value := .agg #[.int .u8 (k:Int),.string S,.int .i64 (n:Int),.int .i64 (ln:Int),.int .i64 (at_ : Int),.int .i64 (e:Int)]
def nxtV (T:List Nat) (a:Int):Value :=
 if 32768<T.length then .tuple #[w0,flt 3 0]
 else if a<0∨(T.length:Int)<a then .tuple #[w0,flt 2 0]
 else match tok (T.drop (atW T a.toNat)) with
   | none => .tuple #[w0,flt 100 (lnW T a.toNat)]
   | some t => .tuple #[wrdV t.k (strOf t.s) t.n (lnW T a.toNat) (atW T a.toNat) (atW T a.toNat+t.e),flt 0 0]
theorem set2 {X:World} {g:Nat} {y0 y1:Value} {E:TypeId} (q:X.heap[g]?=some (.cells #[y0,y1] E (0,0))) (z0 z1:Value):((X.setCell ⟨g,0,none⟩ z0).setCell ⟨g,1,none⟩ z1).heap[g]?=some (.cells #[z0,z1] E (0,0)):=by
 have:=heap_set (heap_set q 0 z0) 1 z1
 simpa using this
theorem heap6_ne {X:World} {g k:Nat} {o:Obj} (h:X.heap[k]?=some o) (hk:k≠g) (z0 z1 z2 z3 z4 z5:Value):(((((((X.setCell ⟨g,0,none⟩ z0).setCell ⟨g,1,none⟩ z1).setCell ⟨g,2,none⟩ z2).setCell ⟨g,3,none⟩ z3).setCell ⟨g,4,none⟩ z4).setCell ⟨g,5,none⟩ z5)).heap[k]?=some o :=
 heap_set_ne (heap_set_ne (heap_set_ne (heap_set_ne (heap_set_ne (heap_set_ne h hk 0 z0) hk 1 z1) hk 2 z2) hk 3 z3) hk 4 z4) hk 5 z5
theorem ret_next {w X:World} {g:Nat} {y0 y1 y2 y3 y4 y5 z0 z1 z2 z3 z4 z5 p0 p1 q0 q1:Value} {V:Value} {a:Act} (q:X.heap[g]?=some (.cells #[y0,y1,y2,y3,y4,y5] 225 (0,0))) (q2:X.heap[g+1]?=some (.cells #[p0,p1] 36 (0,0))) (hb:Below w.heap.size w X) (hg:w.heap.size≤g) (h4:a.tmps[4]?.getD undef = .pointer (some ⟨g,0,none⟩)) (h5:a.tmps[5]?.getD undef = .pointer (some ⟨g+1,0,none⟩)) (hd:a.defers=[]) (hV:V = .tuple #[.agg #[z0,z1,z2,z3,z4,z5],.agg #[q0,q1]]) :
   bodyPost Tryz.prog Tryz.f176 (fun e w'=>e = .returned V∧Below w.heap.size w w') Exit.ret a (((((((((X.setCell ⟨g,0,none⟩ z0).setCell ⟨g,1,none⟩ z1).setCell ⟨g,2,none⟩ z2).setCell ⟨g,3,none⟩ z3).setCell ⟨g,4,none⟩ z4).setCell ⟨g,5,none⟩ z5)).setCell ⟨g+1,0,none⟩ q0).setCell ⟨g+1,1,none⟩ q1):=by
 have p:=set6 q z0 z1 z2 z3 z4 z5
 have r:=heap6_ne q2 (show g+1≠g by omega) z0 z1 z2 z3 z4 z5
 have p':=heap_set_ne (heap_set_ne p (show g≠g+1 by omega) 0 q0) (show g≠g+1 by omega) 1 q1
 have r':=set2 r q0 q1
 have c0:=cell_block p' 0
 have c1:=cell_block p' 1
 have c2:=cell_block p' 2
 have c3:=cell_block p' 3
 have c4:=cell_block p' 4
 have c5:=cell_block p' 5
 have d0:=cell_block r' 0
 have d1:=cell_block r' 1
 subst hV
 exact bodyPost_ret (v := .tuple #[.agg #[z0,z1,z2,z3,z4,z5],.agg #[q0,q1]]) (by simp [results,Tryz.results176,go_sem,h4,h5,c0,c1,c2,c3,c4,c5,d0,d1]) hd ⟨rfl,((bel6 hb hg _ _ _ _ _ _).setCell (Nat.le_trans hg (Nat.le_succ g)) _).setCell (Nat.le_trans hg (Nat.le_succ g)) _⟩
theorem ret_nexto {w X:World} {g:Nat} {y0 y1 y2 y3 y4 y5 z0 z1 z2 z3 z4 z5 p0 p1 q0 q1:Value} {V:Value} {a:Act} (o:Obj) (q:X.heap[g]?=some (.cells #[y0,y1,y2,y3,y4,y5] 225 (0,0))) (q2:X.heap[g+1]?=some (.cells #[p0,p1] 36 (0,0))) (hb:Below w.heap.size w X) (hg:w.heap.size≤g) (h4:a.tmps[4]?.getD undef = .pointer (some ⟨g,0,none⟩)) (h5:a.tmps[5]?.getD undef = .pointer (some ⟨g+1,0,none⟩)) (hd:a.defers=[]) (hV:V = .tuple #[.agg #[z0,z1,z2,z3,z4,z5],.agg #[q0,q1]]) :
   bodyPost Tryz.prog Tryz.f176 (fun e w'=>e = .returned V∧Below w.heap.size w w') Exit.ret a ((((((((((X.setCell ⟨g,0,none⟩ z0).setCell ⟨g,1,none⟩ z1).setCell ⟨g,2,none⟩ z2).setCell ⟨g,3,none⟩ z3).setCell ⟨g,4,none⟩ z4).setCell ⟨g,5,none⟩ z5)).setCell ⟨g+1,0,none⟩ q0).setCell ⟨g+1,1,none⟩ q1).alloc o):=by
 have p:=set6 q z0 z1 z2 z3 z4 z5
 have r:=heap6_ne q2 (show g+1≠g by omega) z0 z1 z2 z3 z4 z5
 have p':=heap_old (heap_set_ne (heap_set_ne p (show g≠g+1 by omega) 0 q0) (show g≠g+1 by omega) 1 q1) o
 have r':=heap_old (set2 r q0 q1) o
 have c0:=cell_block p' 0
 have c1:=cell_block p' 1
 have c2:=cell_block p' 2
 have c3:=cell_block p' 3
 have c4:=cell_block p' 4
 have c5:=cell_block p' 5
 have d0:=cell_block r' 0
 have d1:=cell_block r' 1
 subst hV
 exact bodyPost_ret (v := .tuple #[.agg #[z0,z1,z2,z3,z4,z5],.agg #[q0,q1]]) (by simp [results,Tryz.results176,go_sem,h4,h5,c0,c1,c2,c3,c4,c5,d0,d1]) hd ⟨rfl,Below.alloc (((bel6 hb hg _ _ _ _ _ _).setCell (Nat.le_trans hg (Nat.le_succ g)) _).setCell (Nat.le_trans hg (Nat.le_succ g)) _) (((bel6 hb hg _ _ _ _ _ _).setCell (Nat.le_trans hg (Nat.le_succ g)) _).setCell (Nat.le_trans hg (Nat.le_succ g)) _).size _⟩
theorem box2 {X:World} {g:Nat} {y0 y1:Value} {E:TypeId} (h:X.heap[g]?=some (.cells #[y0,y1] E (0,0))) :
   X.cell? ⟨g,0,none⟩=some y0∧X.cell? ⟨g,1,none⟩=some y1∧X.frozen? ⟨g,0,none⟩=false∧X.frozen? ⟨g,1,none⟩=false :=
 ⟨cell_block h 0,cell_block h 1,free_block h 0,free_block h 1⟩
set_option maxRecDepth 100000 in
set_option maxHeartbeats 4000000 in
theorem next_any (T:List Nat) (h8:∀ x∈T,x<256) (hn:T.length≤140737488355328) (a:Int) (w:World) (hw:Wt w):Calls Tryz.prog 176 #[.string (strOf T),.int .i64 a] w fun e w'=>e = .returned (nxtV T a)∧Below w.heap.size w w':=by
 obtain ⟨R,hR⟩:∃ R,Hid (nxtV T a=R):=⟨_,Lib.hid rfl⟩
 rw [hR.out]
 have hS:(strOf T).size=T.length:=strOf_size _
 obtain ⟨V,hV⟩:∃ V,V=(w.alloc (.cells #[.int .u8 0,.string ⟨#[]⟩,.int .i64 0,.int .i64 0,.int .i64 0,.int .i64 0] 225)).alloc (.cells #[.int .i64 0,.int .i64 0] 36):=⟨_,rfl⟩
 have HBV:Hid (Below w.heap.size w V):=Lib.hid (by rw [hV]; exact two w _ _)
 have HVQ:Hid (V.heap[w.heap.size]?=some (.cells #[.int .u8 0,.string ⟨#[]⟩,.int .i64 0,.int .i64 0,.int .i64 0,.int .i64 0] 225 (0,0))):=Lib.hid (by rw [hV]; exact heap_old (heap_new w _) _)
 have HVF:Hid (V.heap[w.heap.size+1]?=some (.cells #[.int .i64 0,.int .i64 0] 36 (0,0))):=Lib.hid (by rw [hV]; exact heap_new' _ _ _ (by simp))
 have HWV:=Lib.hid (hw.below HBV.out)
 have HVS:Hid (V.heap.size=w.heap.size+2):=Lib.hid (by rw [hV]; simp)
 obtain ⟨S,hSS⟩:∃ S,Hid (strOf T=S):=⟨_,Lib.hid rfl⟩
 rw [hSS.out] at hS ⊢
 go_enter Tryz.func176,Tryz.ntmps176
 go_upto_region 1 with fail
 rw [← hV]
 obtain ⟨g,hg⟩:∃ g,g=w.heap.size:=⟨_,rfl⟩
 rw [← hg] at HVQ HVF HVS ⊢
 have HGG:Hid (w.heap.size≤g):=Lib.hid (by omega)
 clear hV hg
 have hg1:g≠g+1:=by omega
 have hg2:g+1≠g:=by omega
 obtain ⟨y0,y1,y2,y3,y4,y5,z0,z1,z2,z3,z4,z5⟩:=box6 HVQ.out
 obtain ⟨p0,p1,q0,q1⟩:=box2 HVF.out
 by_cases hlong:32768<T.length
 · skip
   have d0:decide ((32768:Int)<(S.size:Int))=true:=decide_eq_true (by omega)
   have d0':decide (32768<S.size)=true:=decide_eq_true (by omega)
   have HRR:=Lib.hid (hR.out.symm.trans (show nxtV T a = _ by unfold nxtV; rw [if_pos hlong]))
   clear hlong hS
   go_wp2_with fail
   refine ret_next HVQ.out HVF.out HBV.out HGG.out rfl rfl rfl ?_
   exact HRR.out
 · have d0 : decide ((32768:Int)<(S.size:Int))=false:=decide_eq_false (by omega)
   have d0':decide (32768<S.size)=false:=decide_eq_false (by omega)
   by_cases hneg:a<0
   · skip
     have d1:decide (a<0)=true:=decide_eq_true hneg
     have HRR:=Lib.hid (hR.out.symm.trans (show nxtV T a = _ by unfold nxtV; rw [if_neg hlong,if_pos (.inl hneg)]))
     clear hlong hS
     go_wp2_with fail
     refine ret_next HVQ.out HVF.out HBV.out HGG.out rfl rfl rfl ?_
     exact HRR.out
   · have d1:decide (a<0)=false:=decide_eq_false hneg
     by_cases hpast:(T.length:Int)<a
     · skip
       have d2:decide ((S.size:Int)<a)=true:=decide_eq_true (by omega)
       have HRR:=Lib.hid (hR.out.symm.trans (show nxtV T a = _ by unfold nxtV; rw [if_neg hlong,if_pos (.inr hpast)]))
       clear hlong hpast hS
       go_wp2_with fail
       refine ret_next HVQ.out HVF.out HBV.out HGG.out rfl rfl rfl ?_
       exact HRR.out
     · obtain ⟨at_,rfl⟩:∃ k:Nat,a=(k:Int):=⟨a.toNat,by omega⟩
       have d2:decide ((S.size:Int)<(at_ : Int))=false:=decide_eq_false (by omega)
       have d2':decide (S.size<at_)=false:=decide_eq_false (by omega)
       have d3':decide ((at_ : Int)<0)=false:=decide_eq_false (by omega)
       have hat:at_ ≤ T.length:=by omega
       have hW:=atW_le hat
       have HRR:=Lib.hid (hR.out.symm.trans (show nxtV T (at_ : Int) = _ by unfold nxtV; rw [if_neg hlong,if_neg (by omega),Int.toNat_natCast]))
       have HX:=Lib.hid (fun a b=>strOf_extract T a b)
       rw [hSS.out] at HX
       have e1:S.extract at_ S.size=strOf (T.drop at_):=by rw [HX.out,hS,List.take_length]
       have e2:S.extract 0 (atW T at_)=strOf (T.take (atW T at_)):=by rw [HX.out,List.drop_zero]
       have e3:S.extract (atW T at_) S.size=strOf (T.drop (atW T at_)):=by rw [HX.out,hS,List.take_length]
       have HD8:Hid (∀ k,∀ x∈T.drop k,x<256):=Lib.hid (fun k x hx=>h8 x (List.mem_of_mem_drop hx))
       have HP:=Lib.hid (passedOver_any (T:=T.drop at_) (HD8.out _) (by rw [List.length_drop]; omega) V)
       have HLN:=Lib.hid (fun w=>lines_any (T.take (atW T at_)) (fun x hx=>h8 x (List.mem_of_mem_take hx)) w)
       have HFI:=Lib.hid (fun w hw=>first_any (T.drop (atW T at_)) (HD8.out _) (by rw [List.length_drop]; omega) w hw)
       have hpa:(at_ : Int)+(pas false (T.drop at_):Int)=((atW T at_ : Nat):Int):=by unfold atW; omega
       have HLL:Hid ((1:Int)+((T.take (atW T at_)).count 10:Int)=((lnW T at_ : Nat):Int)):=Lib.hid (by unfold lnW; omega)
       have HLB:Hid ((T.take (atW T at_)).count 10≤T.length):=Lib.hid (Nat.le_trans List.count_le_length (by rw [List.length_take]; omega))
       have HTP:Hid (∀ t,tok (T.drop (atW T at_))=some t→atW T at_ + t.e≤T.length):=Lib.hid (fun t ht=>by have:=(tok_pos ht).1; rw [List.length_drop] at this; omega)
       obtain ⟨m,hm⟩:∃ m,Hid (atW T at_ = m):=⟨_,Lib.hid rfl⟩
       obtain ⟨p,hp⟩:∃ p,Hid (pas false (T.drop at_)=p):=⟨_,Lib.hid rfl⟩
       obtain ⟨c,hc⟩:∃ c,Hid ((T.take m).count 10=c):=⟨_,Lib.hid rfl⟩
       obtain ⟨ln,hln⟩:∃ ln,Hid (lnW T at_ = ln):=⟨_,Lib.hid rfl⟩
       rw [hm.out] at e2 e3 HLN HFI hpa HLL HLB HTP HRR hW
       rw [hp.out] at HP hpa
       rw [hc.out] at HLN HLL HLB
       rw [hln.out] at HLL HRR
       obtain ⟨D1,hD1⟩:∃ D,Hid (strOf (T.drop at_)=D):=⟨_,Lib.hid rfl⟩
       obtain ⟨D2,hD2⟩:∃ D,Hid (strOf (T.take m)=D):=⟨_,Lib.hid rfl⟩
       obtain ⟨D3,hD3⟩:∃ D,Hid (strOf (T.drop m)=D):=⟨_,Lib.hid rfl⟩
       rw [hD1.out] at e1 HP
       rw [hD2.out] at e2 HLN
       rw [hD3.out] at e3 HFI
       have hmS:m≤S.size:=by omega
       have haS:at_ ≤ S.size:=by omega
       have hSb:S.size≤32768:=by omega
       have hcb:c≤32768:=by have:=HLB.out; omega
       have hll:=HLL.out
       clear hlong hpast hneg hat hW hn h8 hw hS
       cases hq:tok (T.drop m) with
       | none =>
         skip
         rw [hq] at HFI HRR
         unfold tokV at HFI
         clear hq
         go_wp2_with (first
           | (go_at_call 205
              refine HP.out.mono ?_
              rintro e w1 ⟨he,hb⟩
              subst he
              have HB1:=Lib.hid (HBV.out.trans (hb.mono HBV.out.size))
              have HQ1:=Lib.hid (heap_below HVQ.out hb)
              have HF1:=Lib.hid (heap_below HVF.out hb)
              have HW1:=Lib.hid (HWV.out.below hb)
              clear hb)
           | (go_at_call 206
              refine (HLN.out _).mono ?_
              rintro e w' ⟨he,hw⟩
              subst hw
              subst he)
           | (go_at_call 207
              refine (HFI.out _ HW1.out).mono ?_
              rintro e w2 ⟨he,hb⟩
              subst he
              have HB2:=Lib.hid (HB1.out.trans (hb.mono HB1.out.size))
              have HQ2:=Lib.hid (heap_below HQ1.out hb)
              have HF2:=Lib.hid (heap_below HF1.out hb)
              have hlt2:=lt_heap HF2.out
              have hne1:g≠w2.heap.size:=by omega
              have hne2:w2.heap.size≠g:=by omega
              have hne3:g+1≠w2.heap.size:=by omega
              have hne4:w2.heap.size≠g+1:=by omega
              obtain ⟨r0,r1,r2,r3,r4,r5,s0,s1,s2,s3,s4,s5⟩:=box6 HQ2.out
              obtain ⟨u0,u1,v0,v1⟩:=box2 HF2.out
              have hlt3:g<w2.heap.size:=by omega
              clear hb)
           | (fail))
         refine ret_nexto (X:=w2) _ HQ2.out HF2.out HB2.out HGG.out rfl rfl rfl ?_
         exact HRR.out
       | some t =>
         skip
         have hte:=HTP.out t hq
         rw [hq] at HFI HRR
         unfold tokV at HFI
         obtain ⟨kk,hkk⟩:∃ k,Hid (t.k=k):=⟨_,Lib.hid rfl⟩
         obtain ⟨nn,hnn⟩:∃ k,Hid (t.n=k):=⟨_,Lib.hid rfl⟩
         obtain ⟨ee,hee⟩:∃ k,Hid (t.e=k):=⟨_,Lib.hid rfl⟩
         obtain ⟨DS,hDS⟩:∃ k,Hid (strOf t.s=k):=⟨_,Lib.hid rfl⟩
         simp only [hkk.out,hnn.out,hee.out,hDS.out] at HFI HRR hte
         have hes:m+ee≤S.size:=by have:=strOf_size T; rw [hSS.out] at this; omega
         clear hq hte
         go_wp2_with (first
           | (go_at_call 205
              refine HP.out.mono ?_
              rintro e w1 ⟨he,hb⟩
              subst he
              have HB1:=Lib.hid (HBV.out.trans (hb.mono HBV.out.size))
              have HQ1:=Lib.hid (heap_below HVQ.out hb)
              have HF1:=Lib.hid (heap_below HVF.out hb)
              have HW1:=Lib.hid (HWV.out.below hb)
              clear hb)
           | (go_at_call 206
              refine (HLN.out _).mono ?_
              rintro e w' ⟨he,hw⟩
              subst hw
              subst he)
           | (go_at_call 207
              refine (HFI.out _ HW1.out).mono ?_
              rintro e w2 ⟨he,hb⟩
              subst he
              have HB2:=Lib.hid (HB1.out.trans (hb.mono HB1.out.size))
              have HQ2:=Lib.hid (heap_below HQ1.out hb)
              have HF2:=Lib.hid (heap_below HF1.out hb)
              have hlt2:=lt_heap HF2.out
              have hne1:g≠w2.heap.size:=by omega
              have hne2:w2.heap.size≠g:=by omega
              have hne3:g+1≠w2.heap.size:=by omega
              have hne4:w2.heap.size≠g+1:=by omega
              obtain ⟨r0,r1,r2,r3,r4,r5,s0,s1,s2,s3,s4,s5⟩:=box6 HQ2.out
              obtain ⟨u0,u1,v0,v1⟩:=box2 HF2.out
              have hlt3:g<w2.heap.size:=by omega
              clear hb)
           | (fail))
         refine ret_nexto (X:=w2) _ HQ2.out HF2.out HB2.out HGG.out rfl rfl rfl ?_
         rw [HRR.out]
         unfold wrdV flt
         rw [Int.natCast_add]
end Go.Proofs.YtcmopnkldplngabGreatDoor
