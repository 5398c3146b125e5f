/- Texts Tq,Tr,Ts,Tt of this seat in one: see each part. -/
import Derived.Test.YtcmopnkldplngabGreatDoorTp
namespace Go.Proofs.YtcmopnkldplngabGreatDoor
open Go.RowKit
set_option linter.unusedVariables false
section
variable {w0:World} {T:List Nat} {R:Ru} {q:Nat}
theorem XC.mono {or:Rr Ex} {m m':Nat} (h:XC w0 T R q or m) (hm:m≤m'):XC w0 T R q or m':=fun w p r hc hg hr=>h w p r hc (by omega) hr
theorem stmt_any (ht:TxtOk w0 T) {or:Rr Ex} {m:Nat} (HX:XC w0 T R q or m) (hG:Gk or) (k:Nat) (hk:k≤100000):∀ j:Nat,SC w0 T R q (stmtF T or k j) (m+j)
 | 0=>fun w p r h hg hr=>by simp [stmtF] at hr
 | j + 1=>fun w p r h hg hr=>by
   rw [stmtF] at hr
   have hs:=stmt_any ht HX hG k hk j
   have gs:=stmtF_g (T:=T) hG k j
   cases hx:stmtK T or (bodyF T (stmtF T or k j) k) k (kindF (p.begin.one T 4 keysS).1) p.ln (p.begin.one T 4 keysS).2 with
   | none=>rw [hx] at hr; cases hr
   | some y =>
     rw [hx] at hr
     obtain ⟨x,p'⟩:=y
     cases hr
     exact stmt_step ht (HX.mono (Nat.le_add_right m j)) hG k hk (body_any ht hs gs k hk) (bodyF_g gs k) w p h (by omega) (x,p') hx
structure HdAt (w X:World) (g0 g3:Nat) (E:TypeId) (sz:Nat) (s:List Nat) (ps:List (List Nat)) (L:List Nd) (ln:Nat) (yp ys:Value):Prop where
 e:X.heap[g3]?=some (.cells #[.string (strOf s),yp,ys,.int .i64 (ln:Int)] E (0,0))
 z:X.heap[g0]?=some (.cells #[.string ⟨#[]⟩,.slice none 0 0,.slice none 0 0,.int .i64 0] E (0,0))
 rp:Rd X (Sg w X g0 g3) (.row 1 (ps.map nmNd)) yp
 rs:Rd X (Sg w X g0 g3) (.row sz L) ys
 ok:Sok s
section
variable {w X Y:World} {g0 g3:Nat} {E:TypeId} {sz:Nat} {s:List Nat} {ps:List (List Nat)} {L:List Nd} {ln:Nat} {yp ys:Value}
theorem HdAt.kp (h:HdAt w X g0 g3 E sz s ps L ln yp ys) (hk:Kp q X Y) (hq:q<w.heap.size) (h0:g0≠q) (h3:g3≠q):HdAt w Y g0 g3 E sz s ps L ln yp ys :=
 ⟨hk.heap h.e h3,hk.heap h.z h0,Sg.keep hk hq h.rp,Sg.keep hk hq h.rs,h.ok⟩
theorem HdAt.alloc (h:HdAt w X g0 g3 E sz s ps L ln yp ys) (o:Obj):HdAt w (X.alloc o) g0 g3 E sz s ps L ln yp ys:=⟨heap_old h.e o,heap_old h.z o,Sg.alloc o h.rp,Sg.alloc o h.rs,h.ok⟩
theorem HdAt.setS (h:HdAt w X g0 g3 E sz s ps L ln yp ys) (hn:g0≠g3) (s':List Nat) (hs:Sok s'):HdAt w (X.setCell ⟨g3,0,none⟩ (.string (strOf s'))) g0 g3 E sz s' ps L ln yp ys :=
 ⟨by simpa using heap_set h.e 0 (.string (strOf s')),heap_set_ne h.z hn _ _,Sg.set _ _ h.rp,Sg.set _ _ h.rs,hs⟩
theorem HdAt.setP (h:HdAt w X g0 g3 E sz s ps L ln yp ys) (hn:g0≠g3) {ps':List (List Nat)} {y:Value} (hx:Rd X (Sg w X g0 g3) (.row 1 (ps'.map nmNd)) y):HdAt w (X.setCell ⟨g3,1,none⟩ y) g0 g3 E sz s ps' L ln y ys :=
 ⟨by simpa using heap_set h.e 1 y,heap_set_ne h.z hn _ _,Sg.set _ _ hx,Sg.set _ _ h.rs,h.ok⟩
theorem HdAt.setR (h:HdAt w X g0 g3 E sz s ps L ln yp ys) (hn:g0≠g3) {L':List Nd} {y:Value} (hx:Rd X (Sg w X g0 g3) (.row sz L') y):HdAt w (X.setCell ⟨g3,2,none⟩ y) g0 g3 E sz s ps L' ln yp y :=
 ⟨by simpa using heap_set h.e 2 y,heap_set_ne h.z hn _ _,Sg.set _ _ h.rp,Sg.set _ _ hx,h.ok⟩
theorem HdAt.start {w:World} (E:TypeId) (sz ln:Nat):HdAt w ((w.alloc (.cells #[.string ⟨#[]⟩,.slice none 0 0,.slice none 0 0,.int .i64 0] E)).alloc (.cells #[.string ⟨#[]⟩,.slice none 0 0,.slice none 0 0,.int .i64 (ln:Int)] E)) w.heap.size (w.heap.size+1) E sz [] [] [] ln (.slice none 0 0) (.slice none 0 0) :=
 ⟨heap_new' _ _ _ (by simp),heap_old (heap_new _ _) _,Rd.nil _,Rd.nil _,⟨by simp,by simp⟩⟩
theorem endH {p0 p:Pst} (h0:Cx w0 T R q w p0) (hc:Cx w0 T R q X p) (hk:Kp q w X) (hg:w.heap.size≤g0) (h:HdAt w X g0 g3 E sz s ps L ln yp ys) :
   OutX w0 T R q w (.st [.str s,.row 1 (ps.map nmNd),.row sz L,.num .i64 (ln:Int)]) p (.returned (.agg #[.string (strOf s),yp,ys,.int .i64 (ln:Int)])) (P4 X g0 (.string (strOf s)) yp ys (.int .i64 (ln:Int))) :=
 endX h0 hc hk hg ((hd_rd s ps sz L (ln:Int) _).2 ⟨yp,ys,rfl,h.ok.1,by have:=h.ok.2; omega,h.rp,h.rs⟩) (fun b hb=>⟨hb.2.1,hb.1⟩)
end
def NC (w0:World) (T:List Nat) (R:Ru) (q:Nat) (n m:Nat):Prop:=∀ w p (r:Bd × Pst) (ln:Nat),Cx w0 T R q w p→p.g+m≤mostG→namedF T n ln p=some r→Calls Tryz.prog 144 #[at0 q,.int .i64 (ln:Int)] w (OutX w0 T R q w r.1.nd r.2)
set_option maxRecDepth 100000 in
set_option maxHeartbeats 4000000 in
theorem named_any (ht:TxtOk w0 T) (n:Nat) (hn:n≤100000):NC w0 T R q n (n*n+n):=by
 intro w p r ln h hg hr
 have HB:=Lib.hid (body_any (R:=R) (q:=q) ht (stmt_any (R:=R) (q:=q) ht (or_any ht n hn) (orF_g (T:=T) n) n hn n) (stmtF_g (T:=T) (orF_g (T:=T) n) n n) n hn)
 have HN:=Lib.hid (name_any' ht ((h.alloc (.cells #[.string ⟨#[]⟩,.slice none 0 0,.slice none 0 0,.int .i64 0] 87)).alloc (.cells #[.string ⟨#[]⟩,.slice none 0 0,.slice none 0 0,.int .i64 (ln:Int)] 87)))
 have hgn:=name_g T p
 have HOK:=Lib.hid (fun s p' (e:p.name T=(s,p'))=>name_sok e h.ok)
 unfold namedF at hr
 obtain ⟨s1,p1,hP1⟩:∃ s1 p1,p.name T=(s1,p1):=⟨_, _,rfl⟩
 have HSO:=Lib.hid (HOK.out _ _ hP1)
 rw [hP1] at HN hr hgn
 dsimp only at HN hr hgn
 clear HOK hP1
 cases hl:listF T (nameP T) n p1 with
 | none=>rw [hl] at hr; cases hr
 | some y =>
   obtain ⟨l,p2⟩:=y
   rw [hl] at hr
   dsimp only at hr
   have hg2:p2.g=p1.g:=listF_g (one:=nameP T) (fun p r hr=>by cases hr; exact name_g T p) n _ _ hl
   cases hb:bodyF T (stmtF T (orF T n) n n) n p2 with
   | none=>rw [hb] at hr; cases hr
   | some y =>
     obtain ⟨b,p3⟩:=y
     rw [hb] at hr
     cases hr
     have HL:=Lib.hid (fun w' (h':Cx w0 T R q w' p1)=>listN_any ht w' p1 (l,p2) h' n hn hl)
     have HBB:=Lib.hid (fun w' (h':Cx w0 T R q w' p2)=>HB.out w' p2 (b,p3) h' (by omega) hb)
     have HSt:=Lib.hid (HdAt.start (w:=w) 87 6 ln)
     have H0:=Lib.hid h
     have hq:=h.lt
     have hqa:¬ w.heap.size=q:=by omega
     have hqb:¬ w.heap.size+1=q:=by omega
     have hne:w.heap.size≠w.heap.size+1:=by omega
     clear h ht hg HB hgn hl hg2 hb
     unfold at0 at *
     go_enter Tryz.func144,Tryz.ntmps144
     go_upto_region 3 with (first
       | (go_at_call 178
          refine HN.out.mono ?_
          rintro e w2 ⟨rfl,h9,hk9⟩
          have HC2:=Lib.hid h9
          have HK2:=Lib.hid ((((Kp.refl q w).alloc _).alloc _).trans hk9)
          have HS2:=Lib.hid (HSt.out.kp hk9 hq hqa hqb)
          obtain ⟨⟨d0,d1,d2,d3⟩,f0,f1,f2,f3⟩:=box4f HS2.out.e
          have hz2:=lt_heap HS2.out.e
          clear h9 hk9)
       | (fail))
     have hs3:=HS2.out.setS hne s1 HSO.out
     have hc3:=Cx.one H0.out HC2.out HK2.out (g3:=w.heap.size+1) (by omega) 0 (.string (strOf s1))
     clear d0 d1 d2 d3 f0 f1 f2 f3 hz2
     obtain ⟨W3,hW3⟩:∃ W,w2.setCell ⟨w.heap.size+1,0,none⟩ (.string (strOf s1))=W:=⟨_,rfl⟩
     rw [hW3] at hs3 hc3 ⊢
     have HS3:=Lib.hid hs3
     have HC3:=Lib.hid hc3.1
     have HK3:=Lib.hid hc3.2
     have HL3:=Lib.hid (And.intro (lt_heap hs3.e) (lt_heap hs3.z))
     clear hs3 hc3 hW3 HS2 HC2 HK2 HSt HN
     go_upto_region 4 with (first
       | (go_at_call 179
          refine (HL.out _ HC3.out).mono ?_
          rintro e w4 ⟨v4,rfl,hx4,h9,hk9⟩
          obtain ⟨A4,n4,c4,rfl⟩:=hx4.row_form
          have HC4:=Lib.hid h9
          have HK4:=Lib.hid (HK3.out.trans hk9)
          have HS4:=Lib.hid (HS3.out.kp hk9 hq hqa hqb)
          have HX4:=Lib.hid hx4
          obtain ⟨⟨d0,d1,d2,d3⟩,f0,f1,f2,f3⟩:=box4f HS4.out.e
          have hz4:=lt_heap HS4.out.e
          clear h9 hk9 hx4)
       | (fail))
     have hs5:=HS4.out.setP hne (ps':=l) (Sg.of HX4.out HK3.out.size HL3.out.2 HL3.out.1)
     have hc5:=Cx.one H0.out HC4.out HK4.out (g3:=w.heap.size+1) (by omega) 1 (.slice A4 n4 c4)
     clear d0 d1 d2 d3 f0 f1 f2 f3 hz4
     obtain ⟨W5,hW5⟩:∃ W,w4.setCell ⟨w.heap.size+1,1,none⟩ (.slice A4 n4 c4)=W:=⟨_,rfl⟩
     rw [hW5] at hs5 hc5 ⊢
     have HS5:=Lib.hid hs5
     have HC5:=Lib.hid hc5.1
     have HK5:=Lib.hid hc5.2
     have HL5:=Lib.hid (And.intro (lt_heap hs5.e) (lt_heap hs5.z))
     clear hs5 hc5 hW5 HS4 HC4 HK4 HS3 HC3 HK3 HL3 HX4 HL
     go_upto_region 5 with (first
       | (go_at_call 180
          refine (HBB.out _ HC5.out).mono ?_
          rintro e w6 ⟨v6,rfl,hx6,h9,hk9⟩
          obtain ⟨A6,n6,c6,rfl⟩:=hx6.row_form
          have HC6:=Lib.hid h9
          have HK6:=Lib.hid (HK5.out.trans hk9)
          have HS6:=Lib.hid (HS5.out.kp hk9 hq hqa hqb)
          have HX6:=Lib.hid hx6
          obtain ⟨⟨d0,d1,d2,d3⟩,f0,f1,f2,f3⟩:=box4f HS6.out.e
          have hz6:=lt_heap HS6.out.e
          clear h9 hk9 hx6)
       | (fail))
     have hs7:=HS6.out.setR hne (L':=b.map Sm.nd) (Sg.of HX6.out HK5.out.size HL5.out.2 HL5.out.1)
     have hc7:=Cx.one H0.out HC6.out HK6.out (g3:=w.heap.size+1) (by omega) 2 (.slice A6 n6 c6)
     clear d0 d1 d2 d3 f0 f1 f2 f3 hz6
     obtain ⟨W7,hW7⟩:∃ W,w6.setCell ⟨w.heap.size+1,2,none⟩ (.slice A6 n6 c6)=W:=⟨_,rfl⟩
     rw [hW7] at hs7 hc7 ⊢
     have HS7:=Lib.hid hs7
     have HC7:=Lib.hid hc7.1
     have HK7:=Lib.hid hc7.2
     obtain ⟨⟨d0,d1,d2,d3⟩,-⟩:=box4f hs7.e
     obtain ⟨⟨i0,i1,i2,i3⟩,f0,f1,f2,f3⟩:=box4f hs7.z
     have hz7:=lt_heap hs7.z
     clear hs7 hc7 hW7 HS6 HC6 HK6 HX6
     go_wp2_with fail
     obtain ⟨⟨e0,e1,e2,e3⟩,-⟩:=box4f (set4 HS7.out.z (.string (strOf s1)) (.slice A4 n4 c4) (.slice A6 n6 c6) (.int .i64 (ln:Int)))
     refine bodyPost_ret (v := .agg #[.string (strOf s1),.slice A4 n4 c4,.slice A6 n6 c6,.int .i64 (ln:Int)]) (by simp [results,Tryz.results144,go_sem,e0,e1,e2,e3]) rfl ?_
     exact endH H0.out HC7.out HK7.out (Nat.le_refl _) HS7.out
end
end Go.Proofs.YtcmopnkldplngabGreatDoor
namespace Go.Proofs.YtcmopnkldplngabGreatDoor
open Go.RowKit
set_option linter.unusedVariables false
def Px (w X:World) (D:Nat→Prop) (nd:Nd) (v:Value):Prop:=Rd X (fun b=>Nw w X b∧¬ D b) nd v
def RowE (w wr:World) (B:Nat) (E:TypeId) (sz:Nat) (v:Value) (l:List Nd) (D:Nat→Prop):Prop :=
 ∃ xs,wr.ownsRow B E sz v l.length xs∧Flat wr (fun b=>Nw w wr b∧¬ (D b∨some b=v.ownBlock)) sz xs l
section
variable {w X Y:World} {B:Nat} {E:TypeId} {sz:Nat} {v v':Value} {l:List Nd} {D D':Nat→Prop} {nd:Nd} {row:Option Nat}
theorem Px.keep (h:Px w X D nd v) (hg:X.grownBy Y row) (hD:∀ g,row=some g→D g) (hD':∀ b,b<X.heap.size→D' b→D b):Px w Y D' nd v :=
 Rd.keep (fun p hp=>World.cell?_of_block (hg.block p.block hp.1.2 (fun e=>hp.2 (hD _ e.symm)))) (fun b hb=>⟨⟨hb.1.1,Nat.lt_of_lt_of_le hb.1.2 hg.size⟩,fun hd=>hb.2 (hD' b hb.1.2 hd)⟩) _ _ h
theorem RowE.nil (w wr:World) (B:Nat) (E:TypeId) (sz:Nat) (D:Nat→Prop):RowE w wr B E sz (.slice none 0 0) [] D:=⟨[],World.ownsRow_nil _ _ _ _,Flat.nil _ _ _⟩
theorem RowE.form (h:RowE w X B E sz v l D):∃ A c,v = .slice A l.length c∧l.length≤c∧c≤maxLen:=by
 obtain ⟨xs,h,-⟩:=h
 rcases h.2 with ⟨h1,h2⟩ | ⟨g,cap,cur,he, _, _,h3,h4, _⟩
 · exact ⟨none,0,by rw [h1,h2],by omega,by unfold maxLen; omega⟩
 · exact ⟨_,cap,he,h3,h4⟩
theorem RowE.own (h:RowE w X B E sz v l D):∀ g,v.ownBlock=some g→B≤g∧g<X.heap.size:=by
 obtain ⟨xs,h,-⟩:=h
 intro g e
 rcases own_ge h with e2 | ⟨g2,e2,h2,h3⟩
 · rw [e2] at e; cases e
 · rw [e2] at e
   have:=Option.some.inj e
   subst this
   exact ⟨h2,h3⟩
theorem RowE.keep (h:RowE w X B E sz v l D) (hg:X.grownBy Y row) (hD:∀ g,row=some g→D g) (hB:∀ g,row=some g→v.ownBlock≠some g) (hD':∀ b,b<X.heap.size→D' b→D b):RowE w Y B E sz v l D':=by
 obtain ⟨xs,h1,h2⟩:=h
 refine ⟨xs,World.ownsRow.kept h1 hg ?_,h2.keep (fun p hp=>World.cell?_of_block (hg.block p.block hp.1.2 (fun e=>hp.2 (.inl (hD _ e.symm))))) (fun b hb=>⟨⟨hb.1.1,Nat.lt_of_lt_of_le hb.1.2 hg.size⟩,?_⟩)⟩
 · cases hv:v.ownBlock with
   | none=>exact .inl rfl
   | some g =>
     right
     intro e
     exact hB g e.symm hv
 · rintro (hd | hd)
   · exact hb.2 (.inl (hD' b hb.1.2 hd))
   · exact hb.2 (.inr hd)
theorem RowE.px (h:RowE w X B E sz v l D) (hB:w.heap.size≤B) (hDB:∀ g,B≤g→g<X.heap.size→¬ D g):Px w X D (.row sz l) v:=by
 obtain ⟨xs,h1,h2⟩:=h
 exact (h2.keep (S':=fun b=>Nw w X b∧¬ D b) (fun _ _ => rfl) (fun b hb=>⟨hb.1,fun hd=>hb.2 (.inl hd)⟩)).row h1 (fun b h3 h4=>⟨⟨Nat.le_trans hB h3,h4⟩,hDB b h3 h4⟩)
theorem RowE.snoc {xs news:List Value} {x:Nd} (h1:X.ownsRow B E sz v l.length xs) (h2:Flat X (fun b=>Nw w X b∧¬ (D b∨some b=v.ownBlock)) sz xs l)
   (hx:Rd X (fun b=>Nw w X b∧¬ (D b∨some b=v.ownBlock)) x (.agg news.toArray)) (hn:news.length=sz) (ho:Y.ownsRow B E sz v' (l.length+1) (xs ++ news)) (hg:X.grownBy Y v.ownBlock) (hor:v'.ownBlock=v.ownBlock∨v'.ownBlock=some X.heap.size):RowE w Y B E sz v' (l ++ [x]) D:=by
 refine ⟨xs ++ news,by simpa using ho,?_⟩
 refine (h2.snoc hn hx).keep (fun p hp=>World.cell?_of_block (hg.block p.block hp.1.2 (fun e=>hp.2 (.inr e)))) (fun b hb=>⟨⟨hb.1.1,Nat.lt_of_lt_of_le hb.1.2 hg.size⟩,?_⟩)
 rintro (hd | hd)
 · exact hb.2 (.inl hd)
 · rcases hor with e | e
   · rw [e] at hd; exact hb.2 (.inr hd)
   · rw [e] at hd
     have:=Option.some.inj hd
     have:=hb.1.2
     omega
end
theorem body_info:(Tryz.prog.info? 87).map (fun i=>(i.zero,i.size,i.bytes))=some (some (.agg #[.string ⟨#[]⟩,.slice none 0 0,.slice none 0 0,.int .i64 0]),4,72):=by kernel_rfl
theorem role_info:(Tryz.prog.info? 90).map (fun i=>(i.zero,i.size,i.bytes))=some (some (.agg #[.string ⟨#[]⟩,.slice none 0 0,.slice none 0 0,.int .i64 0]),4,72):=by kernel_rfl
section
variable {w:World}
theorem step_bd {ops:Array Oper} {o:Oper} {a:Act} {K:Act→World→Prop} {Q:Exit→Act→World→Prop} {E:Prop} (hgd:o.guard=none) (s x:Operand)
   (ho:o.op = .call { callee := .builtin .append,args:=#[s,x],argTypes:=#[22,22] })
   {base:Nat} {v:Value} {n:Nat} {xs:List Value} (hs:a.eval s=v) (hown:w.ownsRow base 87 4 v n xs) {B:Nat} {A:Option Addr} {m c:Nat} {news:List Value} (hx:a.eval x = .slice A m c)
   (hr:At w B A news) (hm:news.length=m*4) (h1:∀ u∈news,u.oneCell'=true) (hn:n+m≤1000000000) (hbase:base≤w.heap.size)
   (h:∀ v' w',w'.ownsRow base 87 4 v' (n+m) (xs ++ news)→w.grownBy w' v.ownBlock→(v'.ownBlock=v.ownBlock∨v'.ownBlock=some w.heap.size)→K (a.put o.dst v') w') :
   if Region.wanted o (yielded ops a.tmps)=true then Oper.wp Tryz.prog o a w K Q else E:=by
 have hw:Region.wanted o (yielded ops a.tmps)=true:=by simp [Region.wanted,hgd]
 rw [if_pos hw]
 obtain ⟨i0,hi0,hz0,hz1,hz2⟩:=info_parts body_info
 exact wp_append_at w s x 22 ho base 87 i0 _ 4 72 Tryz.underlying22 hi0 hz0 hz1 hz2 rfl (by omega) v n xs hs hown B A m c news hx hr hm h1 (by unfold maxLen; omega) (by omega) hbase h
theorem step_rl {ops:Array Oper} {o:Oper} {a:Act} {K:Act→World→Prop} {Q:Exit→Act→World→Prop} {E:Prop} (hgd:o.guard=none) (s x:Operand)
   (ho:o.op = .call { callee := .builtin .append,args:=#[s,x],argTypes:=#[23,23] })
   {base:Nat} {v:Value} {n:Nat} {xs:List Value} (hs:a.eval s=v) (hown:w.ownsRow base 90 4 v n xs) {B:Nat} {A:Option Addr} {m c:Nat} {news:List Value} (hx:a.eval x = .slice A m c)
   (hr:At w B A news) (hm:news.length=m*4) (h1:∀ u∈news,u.oneCell'=true) (hn:n+m≤1000000000) (hbase:base≤w.heap.size)
   (h:∀ v' w',w'.ownsRow base 90 4 v' (n+m) (xs ++ news)→w.grownBy w' v.ownBlock→(v'.ownBlock=v.ownBlock∨v'.ownBlock=some w.heap.size)→K (a.put o.dst v') w') :
   if Region.wanted o (yielded ops a.tmps)=true then Oper.wp Tryz.prog o a w K Q else E:=by
 have hw:Region.wanted o (yielded ops a.tmps)=true:=by simp [Region.wanted,hgd]
 rw [if_pos hw]
 obtain ⟨i0,hi0,hz0,hz1,hz2⟩:=info_parts role_info
 exact wp_append_at w s x 23 ho base 90 i0 _ 4 72 Tryz.underlying23 hi0 hz0 hz1 hz2 rfl (by omega) v n xs hs hown B A m c news hx hr hm h1 (by unfold maxLen; omega) (by omega) hbase h
end
end Go.Proofs.YtcmopnkldplngabGreatDoor
namespace Go.Proofs.YtcmopnkldplngabGreatDoor
open Go.RowKit
set_option linter.unusedVariables false
section
variable {w0:World} {T:List Nat} {R:Ru} {q:Nat}
def Dq (q g0 g3:Nat):Nat→Prop:=fun b=>b=q∨b=g0∨b=g3
structure RlAt (q:Nat) (w X:World) (g0 g3:Nat) (s:List Nat) (ps:List (List Nat)) (ln:Nat) (yp v:Value) (L:List Nd):Prop where
 e:X.heap[g3]?=some (.cells #[.string (strOf s),yp,v,.int .i64 (ln:Int)] 90 (0,0))
 z:X.heap[g0]?=some (.cells #[.string ⟨#[]⟩,.slice none 0 0,.slice none 0 0,.int .i64 0] 90 (0,0))
 pp:Px w X (fun b=>Dq q g0 g3 b∨some b=v.ownBlock) (.row 1 (ps.map nmNd)) yp
 row:RowE w X (w.heap.size+2) 87 4 v L (Dq q g0 g3)
 ok:Sok s
section
variable {w X Y:World} {g0 g3:Nat} {s:List Nat} {ps:List (List Nat)} {ln:Nat} {yp v v':Value} {L:List Nd}
theorem RlAt.kp (h:RlAt q w X g0 g3 s ps ln yp v L) (hk:Kp q X Y) (hq:q<w.heap.size) (h0:g0≠q) (h3:g3≠q):RlAt q w Y g0 g3 s ps ln yp v L :=
 ⟨hk.heap h.e h3,hk.heap h.z h0,h.pp.keep hk (fun g e => .inl (.inl (Option.some.inj e).symm)) (fun _ _ h=>h),h.row.keep hk (fun g e => .inl (Option.some.inj e).symm) (fun g e e2=>by have:=(h.row.own g e2).1; have:=Option.some.inj e; omega) (fun _ _ h=>h),h.ok⟩
theorem RlAt.app {xs news:List Value} {x:Nd} (h:RlAt q w X g0 g3 s ps ln yp v L) (hn:g0≠g3) (hg0:g0<w.heap.size+2) (hg3:g3<w.heap.size+2) (hq:q<w.heap.size+2) (h1:X.ownsRow (w.heap.size+2) 87 4 v L.length xs) (h2:Flat X (fun b=>Nw w X b∧¬ (Dq q g0 g3 b∨some b=v.ownBlock)) 4 xs L)
   (hx:Rd X (fun b=>Nw w X b∧¬ (Dq q g0 g3 b∨some b=v.ownBlock)) x (.agg news.toArray)) (hl:news.length=4) (ho:Y.ownsRow (w.heap.size+2) 87 4 v' (L.length+1) (xs ++ news)) (hg:X.grownBy Y v.ownBlock) (hor:v'.ownBlock=v.ownBlock∨v'.ownBlock=some X.heap.size) :
   RlAt q w (Y.setCell ⟨g3,2,none⟩ v') g0 g3 s ps ln yp v' (L ++ [x]):=by
 have hr:=RowE.snoc (D:=Dq q g0 g3) h1 h2 hx hl ho hg hor
 have hown:∀ g,v.ownBlock=some g→w.heap.size+2≤g∧g<X.heap.size:=h.row.own
 have e3:Y.heap[g3]?=some (.cells #[.string (strOf s),yp,v,.int .i64 (ln:Int)] 90 (0,0)):=(hg.block g3 (lt_heap h.e) (fun e=>by have:=(hown g3 e.symm).1; omega)).trans h.e
 have e0:=(hg.block g0 (lt_heap h.z) (fun e=>by have:=(hown g0 e.symm).1; omega)).trans h.z
 have hset:Y.grownBy (Y.setCell ⟨g3,2,none⟩ v') (some g3):=(Kp.refl g3 Y).set rfl _
 refine ⟨by simpa using heap_set e3 2 v',heap_set_ne e0 hn _ _,?_,hr.keep hset (fun g e => .inr (.inr (Option.some.inj e).symm)) (fun g e e2=>by have:=(hr.own g e2).1; have:=Option.some.inj e; omega) (fun _ _ h=>h),h.ok⟩
 have p1:Px w Y (fun b=>Dq q g0 g3 b∨some b=v'.ownBlock) (.row 1 (ps.map nmNd)) yp:=h.pp.keep hg (fun g e => .inr e.symm) (fun b hb hd=>by
   rcases hd with hd | hd
   · exact .inl hd
   · rcases hor with e | e
     · rw [e] at hd; exact .inr hd
     · rw [e] at hd
       have:=Option.some.inj hd
       omega)
 exact p1.keep hset (fun g e => .inl (.inr (.inr (Option.some.inj e).symm))) (fun _ _ h=>h)
end
def LC (w0:World) (T:List Nat) (R:Ru) (q:Nat) (n m:Nat):Prop:=∀ w p (r:Rl × Pst) (ln:Nat),Cx w0 T R q w p→p.g+m≤mostG→roleF T n ln p=some r→Calls Tryz.prog 145 #[at0 q,.int .i64 (ln:Int)] w (OutX w0 T R q w r.1.nd r.2)
theorem namedF_g (n ln:Nat):Gk (namedF T n ln):=by
 intro p r hr
 unfold namedF at hr
 split at hr
 · cases hr
 · rename_i l u hl
   split at hr
   · cases hr
   · rename_i b u2 hb
     cases hr
     show u2.g = _
     rw [show u2.g = _ from bodyF_g (stmtF_g (T:=T) (orF_g (T:=T) n) n n) n _ _ hb,show u.g = _ from listF_g (one:=nameP T) (fun p r hr=>by cases hr; exact name_g T p) n _ _ hl,name_g]
set_option maxRecDepth 100000 in
set_option maxHeartbeats 8000000 in
theorem role_any (ht:TxtOk w0 T) (n:Nat) (hn:n≤100000):LC w0 T R q n (n*n+n):=by
 intro w p r ln h hg hr
 have HN:=Lib.hid (name_any' ht ((h.alloc (.cells #[.string ⟨#[]⟩,.slice none 0 0,.slice none 0 0,.int .i64 0] 90)).alloc (.cells #[.string ⟨#[]⟩,.slice none 0 0,.slice none 0 0,.int .i64 (ln:Int)] 90)))
 have hgn:=name_g T p
 have HOK:=Lib.hid (fun s p' (e:p.name T=(s,p'))=>name_sok e h.ok)
 unfold roleF at hr
 obtain ⟨s1,p1,hP1⟩:∃ s1 p1,p.name T=(s1,p1):=⟨_, _,rfl⟩
 have HSO:=Lib.hid (HOK.out _ _ hP1)
 rw [hP1] at HN hr hgn
 dsimp only at HN hr hgn
 clear HOK hP1
 cases hl:listF T (nameP T) n p1 with
 | none=>rw [hl] at hr; cases hr
 | some y =>
   obtain ⟨l,p2⟩:=y
   rw [hl] at hr
   dsimp only at hr
   have hg2:p2.g=p1.g:=listF_g (one:=nameP T) (fun p r hr=>by cases hr; exact name_g T p) n _ _ hl
   have HMB:=Lib.hid (fun w' (h':Cx w0 T R q w' p2)=>must_any ht h' [123] ⟨#[123]⟩ rfl (by decide))
   have hgm:=must_g T [123] p2
   obtain ⟨b3,p3,hP3⟩:∃ b3 p3,p2.must T [123]=(b3,p3):=⟨_, _,rfl⟩
   rw [hP3] at hr HMB hgm
   dsimp only at hr HMB hgm
   clear hP3
   cases ho:onsF T n n [] p3 with
   | none=>rw [ho] at hr; cases hr
   | some y =>
     obtain ⟨bs,p4⟩:=y
     rw [ho] at hr
     cases hr
     have HL:=Lib.hid (fun w' (h':Cx w0 T R q w' p1)=>listN_any ht w' p1 (l,p2) h' n hn hl)
     have HNA:=Lib.hid (fun w' p' (rr:Bd × Pst) (ln':Nat) (h':Cx w0 T R q w' p') (hg':p'.g=p.g) (hr':namedF T n ln' p'=some rr)=>named_any (R:=R) (q:=q) ht n hn w' p' rr ln' h' (by omega) hr')
     have HG0:=Lib.hid (show p3.g=p.g by rw [hgm,hg2,hgn])
     have HSt:=Lib.hid (HdAt.start (w:=w) 90 4 ln)
     have H0:=Lib.hid h
     have hq:=h.lt
     have hqa:¬ w.heap.size=q:=by omega
     have hqb:¬ w.heap.size+1=q:=by omega
     have hne:w.heap.size≠w.heap.size+1:=by omega
     have HR:=Lib.hid ho
     have HSS:=Lib.hid (fun p' w' (h':Cx w0 T R q w' p')=>sign_made ht h' [[125]] #[.string ⟨#[125]⟩] 9 1 1 rfl rfl (by decide) (by decide))
     have HKK:=Lib.hid (fun p' w' (h':Cx w0 T R q w' p')=>key_made ht h' [[111,110]] #[.string ⟨#[111,110]⟩] 9 1 1 rfl rfl (by decide) (by decide))
     have HFF:=Lib.hid (fun p' w' (h':Cx w0 T R q w' p')=>fail_any h' 101)
     have HOO:=Lib.hid (fun p' w' (h':Cx w0 T R q w' p')=>ok_at h')
     clear h ht hg hgn hl hg2 ho hgm
     unfold at0 at *
     go_enter Tryz.func145,Tryz.ntmps145
     go_upto_region 3 with (first
       | (go_at_call 178
          refine HN.out.mono ?_
          rintro e w2 ⟨rfl,h9,hk9⟩
          have HC2:=Lib.hid h9
          have HK2:=Lib.hid ((((Kp.refl q w).alloc _).alloc _).trans hk9)
          have HS2:=Lib.hid (HSt.out.kp hk9 hq hqa hqb)
          obtain ⟨⟨d0,d1,d2,d3⟩,f0,f1,f2,f3⟩:=box4f HS2.out.e
          have hz2:=lt_heap HS2.out.e
          clear h9 hk9)
       | (fail))
     have hs3:=HS2.out.setS hne s1 HSO.out
     have hc3:=Cx.one H0.out HC2.out HK2.out (g3:=w.heap.size+1) (by omega) 0 (.string (strOf s1))
     clear d0 d1 d2 d3 f0 f1 f2 f3 hz2
     obtain ⟨W3,hW3⟩:∃ W,w2.setCell ⟨w.heap.size+1,0,none⟩ (.string (strOf s1))=W:=⟨_,rfl⟩
     rw [hW3] at hs3 hc3 ⊢
     have HS3:=Lib.hid hs3
     have HC3:=Lib.hid hc3.1
     have HK3:=Lib.hid hc3.2
     have HL3:=Lib.hid (And.intro (lt_heap hs3.e) (lt_heap hs3.z))
     clear hs3 hc3 hW3 HS2 HC2 HK2 HSt HN
     go_upto_region 4 with (first
       | (go_at_call 179
          refine (HL.out _ HC3.out).mono ?_
          rintro e w4 ⟨v4,rfl,hx4,h9,hk9⟩
          obtain ⟨A4,n4,c4,rfl⟩:=hx4.row_form
          have HC4:=Lib.hid h9
          have HK4:=Lib.hid (HK3.out.trans hk9)
          have HS4:=Lib.hid (HS3.out.kp hk9 hq hqa hqb)
          have HX4:=Lib.hid hx4
          obtain ⟨⟨d0,d1,d2,d3⟩,f0,f1,f2,f3⟩:=box4f HS4.out.e
          have hz4:=lt_heap HS4.out.e
          clear h9 hk9 hx4)
       | (fail))
     have hs5:=HS4.out.setP hne (ps':=l) (Sg.of HX4.out HK3.out.size HL3.out.2 HL3.out.1)
     have hc5:=Cx.one H0.out HC4.out HK4.out (g3:=w.heap.size+1) (by omega) 1 (.slice A4 n4 c4)
     clear d0 d1 d2 d3 f0 f1 f2 f3 hz4
     obtain ⟨W5,hW5⟩:∃ W,w4.setCell ⟨w.heap.size+1,1,none⟩ (.slice A4 n4 c4)=W:=⟨_,rfl⟩
     rw [hW5] at hs5 hc5 ⊢
     have hrl:RlAt q w W5 w.heap.size (w.heap.size+1) s1 l ln (.slice A4 n4 c4) (.slice none 0 0) []:=⟨hs5.e,hs5.z,Rd.keep (fun _ _ => rfl) (fun b hb=>⟨hb.1,by
       rintro (⟨hd | hd | hd⟩ | hd)
       · have:=hb.1.1; omega
       · exact hb.2.1 hd
       · exact hb.2.2 hd
       · cases hd⟩) _ _ hs5.rp,RowE.nil _ _ _ _ _ _,hs5.ok⟩
     have HS5:=Lib.hid hrl
     have HC5:=Lib.hid hc5.1
     have HK5:=Lib.hid hc5.2
     clear hs5 hc5 hW5 hrl HS4 HC4 HK4 HS3 HC3 HK3 HL3 HX4 HL
     go_upto_region 5 with (first
       | (go_at_call 181
          refine (HMB.out _ HC5.out).mono ?_
          rintro e w6 ⟨rfl,h9,hk9⟩
          have HC6:=Lib.hid h9
          have HK6:=Lib.hid (HK5.out.trans hk9)
          have HS6:=Lib.hid (HS5.out.kp hk9 hq hqa hqb)
          clear h9 hk9)
       | (fail))
     clear HS5 HC5 HK5 HMB
     go_loopg [] n (fun g wr=>∃ (bl:List Bd) (L:List Nd) (pj:Pst) (v:Value),Hid (onsF T n g bl pj=some (bs,p4)∧bl.map Bd.nd=L)∧L.length+g≤200000∧Hid (pj.g=p.g)∧Hid (RlAt q w wr w.heap.size (w.heap.size+1) s1 l ln (.slice A4 n4 c4) v L)∧Hid (Cx w0 T R q wr pj)∧Hid (Kp q w wr))
     case atStart=>exact ⟨[],[],p3, _,Lib.hid ⟨HR.out,rfl⟩,by simp; omega,HG0,HS6,HC6,HK6⟩
     case round =>
       obtain ⟨bl,L,pj,v,HF,hlen,HGJ,HS,HCj,HKj⟩:=hrel
       obtain ⟨Av,cv,rfl,hcv,hcmv⟩:=HS.out.row.form
       cases gk with
       | zero=>exact absurd HF.out.1 (by simp [onsF])
       | succ g =>
         have hF:=HF.out.1
         have HLL:=Lib.hid HF.out.2
         rw [onsF] at hF
         have HS4:=Lib.hid (HSS.out pj wr HCj.out)
         have HO4:=Lib.hid (HOO.out pj wr HCj.out)
         have hg4:=one_g T 5 [[125]] pj
         obtain ⟨s5,p5,hP5⟩:∃ s5 p5,pj.one T 5 [[125]]=(s5,p5):=⟨_, _,rfl⟩
         rw [hP5] at hF HS4 hg4
         dsimp only at hF HS4 hg4
         have he4:(strOf s5).toList.isEmpty=decide (s5=[]):=one_empty _
         clear hP5 HF HR HS6 HC6 HK6
         by_cases her:pj.er=0
         · rw [if_neg (fun hh=>hh her)] at hF
           rw [decide_eq_true her] at HO4
           clear her
           by_cases h4:s5=[]
           · rw [if_neg (fun hh=>hh h4)] at hF
             rw [decide_eq_true h4] at he4
             have HK7:=Lib.hid (HKK.out p5)
             have hg7:=one_g T 4 [[111,110]] p5
             obtain ⟨s7,p7,hP7⟩:∃ s7 p7,p5.one T 4 [[111,110]]=(s7,p7):=⟨_, _,rfl⟩
             rw [hP7] at hF HK7 hg7
             dsimp only at hF HK7 hg7
             have he7:(strOf s7).toList.isEmpty=decide (s7=[]):=one_empty _
             clear hP7
             obtain ⟨p8,hp8⟩:∃ p8,(if s7=[] then p7.fail 101 else p7)=p8:=⟨_,rfl⟩
             rw [hp8] at hF
             have hg8:p8.g=p.g:=by
               rw [← hp8]
               split
               · rw [fail_g,hg7,hg4,HGJ.out]
               · rw [hg7,hg4,HGJ.out]
             cases ho4:namedF T n p5.ln p8 with
             | none=>rw [ho4] at hF; cases hF
             | some y4 =>
               obtain ⟨x4,p9⟩:=y4
               rw [ho4] at hF
               dsimp only at hF
               have HF5:=Lib.hid hF
               have HG5:Hid (p9.g=p.g):=Lib.hid (by have:=namedF_g n p5.ln _ _ ho4; rw [show p9.g = _ from this,hg8])
               have HX4:=Lib.hid (fun w' (h':Cx w0 T R q w' p8)=>HNA.out w' p8 _ p5.ln h' hg8 ho4)
               clear hF h4 hg4 hg7 hg8 ho4 HSS HKK HOO HNA
               by_cases h7:s7=[]
               · rw [if_pos h7] at hp8
                 rw [decide_eq_true h7] at he7
                 have HFA:=Lib.hid (HFF.out p7)
                 rw [hp8] at HFA
                 clear h7 hp8 HFF
                 go_upto_region 9 with (first
                   | (go_at_call 142
                      refine HO4.out.mono ?_
                      rintro e w5 ⟨rfl,rfl⟩)
                   | (go_at_call 172
                      refine HS4.out.mono ?_
                      rintro e w5 ⟨rfl,h5,hk5⟩
                      have HH5:=Lib.hid h5
                      have HK5:=Lib.hid (HKj.out.trans hk5)
                      have HS5:=Lib.hid (HS.out.kp hk5 hq hqa hqb)
                      obtain ⟨⟨-,-,-,-,c4',-⟩,-⟩:=box11 h5.hp
                      have hlt5:=h5.lt
                      clear h5 hk5)
                   | (go_at_call 143
                      refine (HK7.out _ HH5.out).mono ?_
                      rintro e w7 ⟨rfl,h5,hk5⟩
                      have HH7:=Lib.hid h5
                      have HKx:=Lib.hid (HK5.out.trans hk5)
                      have HS7:=Lib.hid (HS5.out.kp hk5 hq hqa hqb)
                      clear h5 hk5)
                   | (go_at_call 146
                      refine (HFA.out _ HH7.out).mono ?_
                      rintro e w8 ⟨rfl,h5,hk5⟩
                      have HH8:=Lib.hid h5
                      have HK8:=Lib.hid (HKx.out.trans hk5)
                      have HS8:=Lib.hid (HS7.out.kp hk5 hq hqa hqb)
                      clear h5 hk5)
                   | (fail))
                 clear HS4 HO4 HK7 HS5 HH5 HK5 HS7 HH7 HKx HS HCj HKj
                 obtain ⟨⟨d0,d1,d2,d3⟩,-⟩:=box4f HS8.out.e
                 have hlt8:=HH8.out.lt
                 have hz8:=lt_heap HS8.out.e
                 have hsz8:w.heap.size≤w8.heap.size:=HK8.out.size
                 have HZ8:=Lib.hid (And.intro (lt_heap HS8.out.e) (lt_heap HS8.out.z))
                 go_region_law (first
                   | (go_simp
                      go_at_call 144
                      refine (HX4.out _ HH8.out.drew).mono ?_
                      rintro e w10 ⟨v10,rfl,hx10,h10,hk10⟩
                      have hk10':Kp q w8 w10:=((Kp.refl q w8).drew).trans hk10
                      obtain ⟨s6,l6,b6,ln6⟩:=x4
                      obtain ⟨y1,y2,rfl,-,-,hy1,hy2⟩:=(hd_rd s6 l6 6 (b6.map Sm.nd) ln6 v10).1 hx10
                      obtain ⟨A1,n1,c1,rfl⟩:=hy1.row_form
                      obtain ⟨A2,n2,c2,rfl⟩:=hy2.row_form
                      have HX10:=Lib.hid hx10
                      have HC10:=Lib.hid h10
                      have HK10:=Lib.hid (HK8.out.trans hk10')
                      have HS10:=Lib.hid (HS8.out.kp hk10' hq hqa hqb)
                      have HZ10:=Lib.hid hk10'.size
                      obtain ⟨⟨i0,i1,i2,i3⟩,f0,f1,f2,f3⟩:=box4f HS10.out.e
                      have hz10:=lt_heap HS10.out.e
                      clear h10 hk10 hk10' hx10 hy1 hy2)
                   | (obtain ⟨xs,ho5,hf5⟩:=((HS10.out.kp ((Kp.refl q w10).alloc (.cells #[.string (strOf s6),.slice A1 n1 c1,.slice A2 n2 c2,.int .i64 ln6] 87)) hq hqa hqb).row)
                      refine step_bd rfl (.tmp 39) (.tmp 43) rfl (by simp [Act.eval]) ho5 (A:=some ⟨w10.heap.size,0,none⟩) (m:=1) (c:=1) (news:=[.string (strOf s6),.slice A1 n1 c1,.slice A2 n2 c2,.int .i64 ln6]) (by simp [Act.eval]) (At.made w10 #[.string (strOf s6),.slice A1 n1 c1,.slice A2 n2 c2,.int .i64 ln6] 87) rfl (by intro u hu; simp at hu; rcases hu with rfl | rfl | rfl | rfl <;> rfl) (by omega) (by have:=HZ10.out; have:=HZ8.out; simp; omega) ?_
                      intro v' w11 ho11 hg11 hor11
                      have hown:=HS10.out.row.own
                      have hz8':=HZ8.out
                      have hz10':=HZ10.out
                      have hx5:Rd (w10.alloc (.cells #[.string (strOf s6),.slice A1 n1 c1,.slice A2 n2 c2,.int .i64 ln6] 87)) (fun b=>Nw w (w10.alloc (.cells #[.string (strOf s6),.slice A1 n1 c1,.slice A2 n2 c2,.int .i64 ln6] 87)) b∧¬ (Dq q w.heap.size (w.heap.size+1) b∨some b=(Value.slice Av L.length cv).ownBlock)) (Bd.nd ⟨s6,l6,b6,ln6⟩) (.agg #[.string (strOf s6),.slice A1 n1 c1,.slice A2 n2 c2,.int .i64 ln6]):=by
                        refine Rd.keep (fun p hp=>((Below.refl _ w10).alloc (Nat.le_refl _) _).cell hp.2) (fun b hb=>?_) _ _ HX10.out
                        have h1:=hb.1
                        have h2:=hb.2
                        simp at h1
                        refine ⟨⟨by omega,by simp; omega⟩,?_⟩
                        rintro ((hd | hd | hd) | hd)
                        · omega
                        · omega
                        · omega
                        · have h8:=HS8.out.row.own b hd.symm
                          omega
                      have hap:=RlAt.app (x:=Bd.nd ⟨s6,l6,b6,ln6⟩) (HS10.out.kp ((Kp.refl q w10).alloc (.cells #[.string (strOf s6),.slice A1 n1 c1,.slice A2 n2 c2,.int .i64 ln6] 87)) hq hqa hqb) hne (by omega) (by omega) (by omega) ho5 hf5 hx5 rfl ho11 hg11 hor11
                      have hcg:=Cx.grown H0.out (HC10.out.alloc _) (HK10.out.alloc _) hg11 (fun g' e0=>by
                        have:=(hown g' e0).1
                        omega)
                      have hlt11:w.heap.size+1<w11.heap.size:=by have:=hg11.size; simp at this; omega
                      have e11:w11.heap[w.heap.size+1]?=some (.cells #[.string (strOf s1),.slice A4 n4 c4,.slice Av L.length cv,.int .i64 (ln:Int)] 90 (0,0)):=(hg11.block _ (by simp; omega) (fun e=>by have:=(hown _ e.symm).1; omega)).trans (heap_old HS10.out.e _)
                      have hrow11:=RowE.snoc (D:=Dq q w.heap.size (w.heap.size+1)) ho5 hf5 hx5 rfl ho11 hg11 hor11
                      obtain ⟨A',c',rfl,-,-⟩:=hrow11.form
                      obtain ⟨⟨j0,j1,j2,j3⟩,k0,k1,k2,k3⟩:=box4f e11
                      have HAP:=Lib.hid hap
                      have hcs:=Cx.one H0.out hcg.1 hcg.2 (g3:=w.heap.size+1) (by omega) 2 (.slice A' (L ++ [Bd.nd ⟨s6,l6,b6,ln6⟩]).length c')
                      have HCS:=Lib.hid hcs.1
                      have HKS:=Lib.hid hcs.2
                      obtain ⟨nL,hnL⟩:∃ k,(L ++ [Bd.nd ⟨s6,l6,b6,ln6⟩]).length=k:=⟨_,rfl⟩
                      rw [hnL] at HAP HCS HKS ⊢
                      clear hcg hcs ho5 hf5 ho11 hg11 hor11 hx5 hap hown hz8' hz10' e11 hrow11 hnL)
                   | (fail))
                 all_goals
                   go_wp2_with fail
                   go_roundg g
                   case measure=>omega
                   case rel=>exact ⟨bl ++ [_],L ++ [_],p9, _,Lib.hid ⟨HF5.out,by rw [List.map_append,HLL.out]; rfl⟩,by simp; omega,HG5,HAP,HCS,HKS⟩
               · rw [if_neg h7] at hp8
                 rw [decide_eq_false h7] at he7
                 subst hp8
                 clear h7 HFF
                 go_upto_region 9 with (first
                   | (go_at_call 142
                      refine HO4.out.mono ?_
                      rintro e w5 ⟨rfl,rfl⟩)
                   | (go_at_call 172
                      refine HS4.out.mono ?_
                      rintro e w5 ⟨rfl,h5,hk5⟩
                      have HH5:=Lib.hid h5
                      have HK5:=Lib.hid (HKj.out.trans hk5)
                      have HS5:=Lib.hid (HS.out.kp hk5 hq hqa hqb)
                      obtain ⟨⟨-,-,-,-,c4',-⟩,-⟩:=box11 h5.hp
                      have hlt5:=h5.lt
                      clear h5 hk5)
                   | (go_at_call 143
                      refine (HK7.out _ HH5.out).mono ?_
                      rintro e w7 ⟨rfl,h5,hk5⟩
                      have HH7:=Lib.hid h5
                      have HKx:=Lib.hid (HK5.out.trans hk5)
                      have HS7:=Lib.hid (HS5.out.kp hk5 hq hqa hqb)
                      clear h5 hk5)
                   | (fail))
                 have HH8:=HH7
                 have HK8:=HKx
                 have HS8:=HS7
                 obtain ⟨w8,hw8⟩:∃ w8,w7=w8:=⟨_,rfl⟩
                 rw [hw8] at HH8 HK8 HS8 ⊢
                 clear HS4 HO4 HK7 HS5 HH5 HK5 HS7 HH7 HKx HS HCj HKj
                 obtain ⟨⟨d0,d1,d2,d3⟩,-⟩:=box4f HS8.out.e
                 have hlt8:=HH8.out.lt
                 have hz8:=lt_heap HS8.out.e
                 have hsz8:w.heap.size≤w8.heap.size:=HK8.out.size
                 have HZ8:=Lib.hid (And.intro (lt_heap HS8.out.e) (lt_heap HS8.out.z))
                 go_region_law (first
                   | (go_simp
                      go_at_call 144
                      refine (HX4.out _ HH8.out.drew).mono ?_
                      rintro e w10 ⟨v10,rfl,hx10,h10,hk10⟩
                      have hk10':Kp q w8 w10:=((Kp.refl q w8).drew).trans hk10
                      obtain ⟨s6,l6,b6,ln6⟩:=x4
                      obtain ⟨y1,y2,rfl,-,-,hy1,hy2⟩:=(hd_rd s6 l6 6 (b6.map Sm.nd) ln6 v10).1 hx10
                      obtain ⟨A1,n1,c1,rfl⟩:=hy1.row_form
                      obtain ⟨A2,n2,c2,rfl⟩:=hy2.row_form
                      have HX10:=Lib.hid hx10
                      have HC10:=Lib.hid h10
                      have HK10:=Lib.hid (HK8.out.trans hk10')
                      have HS10:=Lib.hid (HS8.out.kp hk10' hq hqa hqb)
                      have HZ10:=Lib.hid hk10'.size
                      obtain ⟨⟨i0,i1,i2,i3⟩,f0,f1,f2,f3⟩:=box4f HS10.out.e
                      have hz10:=lt_heap HS10.out.e
                      clear h10 hk10 hk10' hx10 hy1 hy2)
                   | (obtain ⟨xs,ho5,hf5⟩:=((HS10.out.kp ((Kp.refl q w10).alloc (.cells #[.string (strOf s6),.slice A1 n1 c1,.slice A2 n2 c2,.int .i64 ln6] 87)) hq hqa hqb).row)
                      refine step_bd rfl (.tmp 39) (.tmp 43) rfl (by simp [Act.eval]) ho5 (A:=some ⟨w10.heap.size,0,none⟩) (m:=1) (c:=1) (news:=[.string (strOf s6),.slice A1 n1 c1,.slice A2 n2 c2,.int .i64 ln6]) (by simp [Act.eval]) (At.made w10 #[.string (strOf s6),.slice A1 n1 c1,.slice A2 n2 c2,.int .i64 ln6] 87) rfl (by intro u hu; simp at hu; rcases hu with rfl | rfl | rfl | rfl <;> rfl) (by omega) (by have:=HZ10.out; have:=HZ8.out; simp; omega) ?_
                      intro v' w11 ho11 hg11 hor11
                      have hown:=HS10.out.row.own
                      have hz8':=HZ8.out
                      have hz10':=HZ10.out
                      have hx5:Rd (w10.alloc (.cells #[.string (strOf s6),.slice A1 n1 c1,.slice A2 n2 c2,.int .i64 ln6] 87)) (fun b=>Nw w (w10.alloc (.cells #[.string (strOf s6),.slice A1 n1 c1,.slice A2 n2 c2,.int .i64 ln6] 87)) b∧¬ (Dq q w.heap.size (w.heap.size+1) b∨some b=(Value.slice Av L.length cv).ownBlock)) (Bd.nd ⟨s6,l6,b6,ln6⟩) (.agg #[.string (strOf s6),.slice A1 n1 c1,.slice A2 n2 c2,.int .i64 ln6]):=by
                        refine Rd.keep (fun p hp=>((Below.refl _ w10).alloc (Nat.le_refl _) _).cell hp.2) (fun b hb=>?_) _ _ HX10.out
                        have h1:=hb.1
                        have h2:=hb.2
                        simp at h1
                        refine ⟨⟨by omega,by simp; omega⟩,?_⟩
                        rintro ((hd | hd | hd) | hd)
                        · omega
                        · omega
                        · omega
                        · have h8:=HS8.out.row.own b hd.symm
                          omega
                      have hap:=RlAt.app (x:=Bd.nd ⟨s6,l6,b6,ln6⟩) (HS10.out.kp ((Kp.refl q w10).alloc (.cells #[.string (strOf s6),.slice A1 n1 c1,.slice A2 n2 c2,.int .i64 ln6] 87)) hq hqa hqb) hne (by omega) (by omega) (by omega) ho5 hf5 hx5 rfl ho11 hg11 hor11
                      have hcg:=Cx.grown H0.out (HC10.out.alloc _) (HK10.out.alloc _) hg11 (fun g' e0=>by
                        have:=(hown g' e0).1
                        omega)
                      have hlt11:w.heap.size+1<w11.heap.size:=by have:=hg11.size; simp at this; omega
                      have e11:w11.heap[w.heap.size+1]?=some (.cells #[.string (strOf s1),.slice A4 n4 c4,.slice Av L.length cv,.int .i64 (ln:Int)] 90 (0,0)):=(hg11.block _ (by simp; omega) (fun e=>by have:=(hown _ e.symm).1; omega)).trans (heap_old HS10.out.e _)
                      have hrow11:=RowE.snoc (D:=Dq q w.heap.size (w.heap.size+1)) ho5 hf5 hx5 rfl ho11 hg11 hor11
                      obtain ⟨A',c',rfl,-,-⟩:=hrow11.form
                      obtain ⟨⟨j0,j1,j2,j3⟩,k0,k1,k2,k3⟩:=box4f e11
                      have HAP:=Lib.hid hap
                      have hcs:=Cx.one H0.out hcg.1 hcg.2 (g3:=w.heap.size+1) (by omega) 2 (.slice A' (L ++ [Bd.nd ⟨s6,l6,b6,ln6⟩]).length c')
                      have HCS:=Lib.hid hcs.1
                      have HKS:=Lib.hid hcs.2
                      obtain ⟨nL,hnL⟩:∃ k,(L ++ [Bd.nd ⟨s6,l6,b6,ln6⟩]).length=k:=⟨_,rfl⟩
                      rw [hnL] at HAP HCS HKS ⊢
                      clear hcg hcs ho5 hf5 ho11 hg11 hor11 hx5 hap hown hz8' hz10' e11 hrow11 hnL)
                   | (fail))
                 all_goals
                   go_wp2_with fail
                   go_roundg g
                   case measure=>omega
                   case rel=>exact ⟨bl ++ [_],L ++ [_],p9, _,Lib.hid ⟨HF5.out,by rw [List.map_append,HLL.out]; rfl⟩,by simp; omega,HG5,HAP,HCS,HKS⟩
           · rw [if_pos h4] at hF
             rw [decide_eq_false h4] at he4
             cases hF
             clear h4 HNA hg4 HKK HFF HOO HSS
             go_wp2_with (first
               | (go_at_call 142
                  refine HO4.out.mono ?_
                  rintro e w5 ⟨rfl,rfl⟩)
               | (go_at_call 172
                  refine HS4.out.mono ?_
                  rintro e w5 ⟨rfl,h5,hk5⟩
                  have HH5:=Lib.hid h5
                  have HK5:=Lib.hid (HKj.out.trans hk5)
                  have HS5:=Lib.hid (HS.out.kp hk5 hq hqa hqb)
                  obtain ⟨⟨d0,d1,d2,d3⟩,-⟩:=box4f HS5.out.e
                  obtain ⟨⟨i0,i1,i2,i3⟩,f0,f1,f2,f3⟩:=box4f HS5.out.z
                  have hz5:=lt_heap HS5.out.z
                  clear h5 hk5)
               | (fail))
             obtain ⟨⟨e0,e1,e2,e3⟩,-⟩:=box4f (set4 HS5.out.z (.string (strOf s1)) (.slice A4 n4 c4) (.slice Av L.length cv) (.int .i64 (ln:Int)))
             refine bodyPost_ret (v := .agg #[.string (strOf s1),.slice A4 n4 c4,.slice Av L.length cv,.int .i64 (ln:Int)]) (by simp [results,Tryz.results145,go_sem,e0,e1,e2,e3]) rfl ?_
             have hpx:Px w w5 (Dq q w.heap.size (w.heap.size+1)) (.row 4 (bs.map Bd.nd)) (.slice Av L.length cv):=by
               rw [HLL.out]
               exact HS5.out.row.px (by omega) (fun g h1 _ hd=>by rcases hd with hd | hd | hd <;> omega)
             have hpp:Px w w5 (Dq q w.heap.size (w.heap.size+1)) (.row 1 (l.map nmNd)) (.slice A4 n4 c4):=Rd.keep (fun _ _ => rfl) (fun b hb=>⟨hb.1,fun hd=>hb.2 (.inl hd)⟩) _ _ HS5.out.pp
             exact endX (S:=fun b=>Nw w w5 b∧¬ Dq q w.heap.size (w.heap.size+1) b) H0.out HH5.out HK5.out (Nat.le_refl _) ((hd_rd s1 l 4 (bs.map Bd.nd) (ln:Int) _).2 ⟨_, _,rfl,HS5.out.ok.1,by have:=HS5.out.ok.2; omega,hpp,hpx⟩) (fun b hb=>⟨fun e=>hb.2 (.inr (.inl e)),hb.1⟩)
         · rw [if_pos her] at hF
           rw [decide_eq_false her] at HO4
           cases hF
           clear her HNA hg4 HS4 he4 HKK HFF HOO HSS
           have HS5:=Lib.hid HS.out
           obtain ⟨⟨d0,d1,d2,d3⟩,-⟩:=box4f HS5.out.e
           obtain ⟨⟨i0,i1,i2,i3⟩,f0,f1,f2,f3⟩:=box4f HS5.out.z
           have hz5:=lt_heap HS5.out.z
           go_wp2_with (first
             | (go_at_call 142
                refine HO4.out.mono ?_
                rintro e w5 ⟨rfl,rfl⟩)
             | (fail))
           obtain ⟨⟨e0,e1,e2,e3⟩,-⟩:=box4f (set4 HS5.out.z (.string (strOf s1)) (.slice A4 n4 c4) (.slice Av L.length cv) (.int .i64 (ln:Int)))
           refine bodyPost_ret (v := .agg #[.string (strOf s1),.slice A4 n4 c4,.slice Av L.length cv,.int .i64 (ln:Int)]) (by simp [results,Tryz.results145,go_sem,e0,e1,e2,e3]) rfl ?_
           have hpx:Px w w5 (Dq q w.heap.size (w.heap.size+1)) (.row 4 (bs.map Bd.nd)) (.slice Av L.length cv):=by
             rw [HLL.out]
             exact HS5.out.row.px (by omega) (fun g h1 _ hd=>by rcases hd with hd | hd | hd <;> omega)
           have hpp:Px w w5 (Dq q w.heap.size (w.heap.size+1)) (.row 1 (l.map nmNd)) (.slice A4 n4 c4):=Rd.keep (fun _ _ => rfl) (fun b hb=>⟨hb.1,fun hd=>hb.2 (.inl hd)⟩) _ _ HS5.out.pp
           exact endX (S:=fun b=>Nw w w5 b∧¬ Dq q w.heap.size (w.heap.size+1) b) H0.out HCj.out HKj.out (Nat.le_refl _) ((hd_rd s1 l 4 (bs.map Bd.nd) (ln:Int) _).2 ⟨_, _,rfl,HS5.out.ok.1,by have:=HS5.out.ok.2; omega,hpp,hpx⟩) (fun b hb=>⟨fun e=>hb.2 (.inr (.inl e)),hb.1⟩)
end
end Go.Proofs.YtcmopnkldplngabGreatDoor
namespace Go.Proofs.YtcmopnkldplngabGreatDoor
open Go.RowKit
set_option linter.unusedVariables false
theorem RowE.ne {w X:World} {B B':Nat} {E E':TypeId} {sz sz':Nat} {v v':Value} {l l':List Nd} {D D':Nat→Prop} (h:RowE w X B E sz v l D) (h':RowE w X B' E' sz' v' l' D') (hE:E≠E'):∀ g,v.ownBlock=some g→v'.ownBlock≠some g:=by
 obtain ⟨xs,h1,-⟩:=h
 obtain ⟨xs',h2,-⟩:=h'
 intro g e e'
 rcases h1.2 with ⟨rfl,-⟩ | ⟨g1,c1,cur1,rfl,-,hh1,-⟩
 · cases e
 · rcases h2.2 with ⟨rfl,-⟩ | ⟨g2,c2,cur2,rfl,-,hh2,-⟩
   · cases e'
   · have i1:g1=g:=Option.some.inj e
     have i2:g2=g:=Option.some.inj e'
     rw [i1] at hh1
     rw [i2,hh1] at hh2
     have:=Option.some.inj hh2
     injection this with _ h3 _
     exact hE h3
section
variable {w0:World} {T:List Nat} {R:Ru} {q:Nat}
structure PgAt (q:Nat) (w X:World) (g0 g3:Nat) (vF vR:Value) (LF LR:List Nd):Prop where
 e:X.heap[g3]?=some (.cells #[vF,vR] 25 (0,0))
 z:X.heap[g0]?=some (.cells #[.slice none 0 0,.slice none 0 0] 25 (0,0))
 rf:RowE w X (w.heap.size+2) 87 4 vF LF (fun b=>Dq q g0 g3 b∨some b=vR.ownBlock)
 rr:RowE w X (w.heap.size+2) 90 4 vR LR (fun b=>Dq q g0 g3 b∨some b=vF.ownBlock)
section
variable {w X Y:World} {g0 g3:Nat} {vF vR v':Value} {LF LR:List Nd}
theorem PgAt.kp (h:PgAt q w X g0 g3 vF vR LF LR) (hk:Kp q X Y) (hq:q<w.heap.size) (h0:g0≠q) (h3:g3≠q):PgAt q w Y g0 g3 vF vR LF LR :=
 ⟨hk.heap h.e h3,hk.heap h.z h0,h.rf.keep hk (fun g e => .inl (.inl (Option.some.inj e).symm)) (fun g e e2=>by have:=(h.rf.own g e2).1; have:=Option.some.inj e; omega) (fun _ _ h=>h),
  h.rr.keep hk (fun g e => .inl (.inl (Option.some.inj e).symm)) (fun g e e2=>by have:=(h.rr.own g e2).1; have:=Option.some.inj e; omega) (fun _ _ h=>h)⟩
theorem PgAt.appF {xs news:List Value} {x:Nd} (h:PgAt q w X g0 g3 vF vR LF LR) (hn:g0≠g3) (hg0:g0<w.heap.size+2) (hg3:g3<w.heap.size+2) (h1:X.ownsRow (w.heap.size+2) 87 4 vF LF.length xs) (h2:Flat X (fun b=>Nw w X b∧¬ ((Dq q g0 g3 b∨some b=vR.ownBlock)∨some b=vF.ownBlock)) 4 xs LF)
   (hx:Rd X (fun b=>Nw w X b∧¬ ((Dq q g0 g3 b∨some b=vR.ownBlock)∨some b=vF.ownBlock)) x (.agg news.toArray)) (hl:news.length=4) (ho:Y.ownsRow (w.heap.size+2) 87 4 v' (LF.length+1) (xs ++ news)) (hg:X.grownBy Y vF.ownBlock) (hor:v'.ownBlock=vF.ownBlock∨v'.ownBlock=some X.heap.size) :
   PgAt q w (Y.setCell ⟨g3,0,none⟩ v') g0 g3 v' vR (LF ++ [x]) (LR):=by
 have hr:=RowE.snoc (D:=fun b=>Dq q g0 g3 b∨some b=vR.ownBlock) h1 h2 hx hl ho hg hor
 have hown:∀ g,vF.ownBlock=some g→w.heap.size+2≤g∧g<X.heap.size:=h.rf.own
 have hne:∀ g,vF.ownBlock=some g→vR.ownBlock≠some g:=RowE.ne h.rf h.rr (by decide)
 have e3:=(hg.block g3 (lt_heap h.e) (fun e=>by have:=(hown g3 e.symm).1; omega)).trans h.e
 have e0:=(hg.block g0 (lt_heap h.z) (fun e=>by have:=(hown g0 e.symm).1; omega)).trans h.z
 have hset:Y.grownBy (Y.setCell ⟨g3,0,none⟩ v') (some g3):=(Kp.refl g3 Y).set rfl _
 have hr2:=hr.keep hset (fun g e => .inl (.inr (.inr (Option.some.inj e).symm))) (fun g e e2=>by have:=(hr.own g e2).1; have:=Option.some.inj e; omega) (fun _ _ h=>h)
 have ho1:=h.rr.keep (D':=fun b=>Dq q g0 g3 b∨some b=v'.ownBlock) hg (fun g e => .inr e.symm) (fun g e=>hne g e) (fun b hb hd=>by
   rcases hd with hd | hd
   · exact .inl hd
   · rcases hor with e | e
     · rw [e] at hd; exact .inr hd
     · rw [e] at hd
       have:=Option.some.inj hd
       omega)
 have ho2:=ho1.keep hset (fun g e => .inl (.inr (.inr (Option.some.inj e).symm))) (fun g e e2=>by have:=(ho1.own g e2).1; have:=Option.some.inj e; omega) (fun _ _ h=>h)
 exact ⟨by simpa using heap_set e3 0 v',heap_set_ne e0 hn _ _,hr2,ho2⟩
theorem PgAt.appR {xs news:List Value} {x:Nd} (h:PgAt q w X g0 g3 vF vR LF LR) (hn:g0≠g3) (hg0:g0<w.heap.size+2) (hg3:g3<w.heap.size+2) (h1:X.ownsRow (w.heap.size+2) 90 4 vR LR.length xs) (h2:Flat X (fun b=>Nw w X b∧¬ ((Dq q g0 g3 b∨some b=vF.ownBlock)∨some b=vR.ownBlock)) 4 xs LR)
   (hx:Rd X (fun b=>Nw w X b∧¬ ((Dq q g0 g3 b∨some b=vF.ownBlock)∨some b=vR.ownBlock)) x (.agg news.toArray)) (hl:news.length=4) (ho:Y.ownsRow (w.heap.size+2) 90 4 v' (LR.length+1) (xs ++ news)) (hg:X.grownBy Y vR.ownBlock) (hor:v'.ownBlock=vR.ownBlock∨v'.ownBlock=some X.heap.size) :
   PgAt q w (Y.setCell ⟨g3,1,none⟩ v') g0 g3 vF v' (LF) (LR ++ [x]):=by
 have hr:=RowE.snoc (D:=fun b=>Dq q g0 g3 b∨some b=vF.ownBlock) h1 h2 hx hl ho hg hor
 have hown:∀ g,vR.ownBlock=some g→w.heap.size+2≤g∧g<X.heap.size:=h.rr.own
 have hne:∀ g,vR.ownBlock=some g→vF.ownBlock≠some g:=RowE.ne h.rr h.rf (by decide)
 have e3:=(hg.block g3 (lt_heap h.e) (fun e=>by have:=(hown g3 e.symm).1; omega)).trans h.e
 have e0:=(hg.block g0 (lt_heap h.z) (fun e=>by have:=(hown g0 e.symm).1; omega)).trans h.z
 have hset:Y.grownBy (Y.setCell ⟨g3,1,none⟩ v') (some g3):=(Kp.refl g3 Y).set rfl _
 have hr2:=hr.keep hset (fun g e => .inl (.inr (.inr (Option.some.inj e).symm))) (fun g e e2=>by have:=(hr.own g e2).1; have:=Option.some.inj e; omega) (fun _ _ h=>h)
 have ho1:=h.rf.keep (D':=fun b=>Dq q g0 g3 b∨some b=v'.ownBlock) hg (fun g e => .inr e.symm) (fun g e=>hne g e) (fun b hb hd=>by
   rcases hd with hd | hd
   · exact .inl hd
   · rcases hor with e | e
     · rw [e] at hd; exact .inr hd
     · rw [e] at hd
       have:=Option.some.inj hd
       omega)
 have ho2:=ho1.keep hset (fun g e => .inl (.inr (.inr (Option.some.inj e).symm))) (fun g e e2=>by have:=(ho1.own g e2).1; have:=Option.some.inj e; omega) (fun _ _ h=>h)
 exact ⟨by simpa using heap_set e3 1 v',heap_set_ne e0 hn _ _,ho2,hr2⟩
end
theorem roleF_g (n ln:Nat):Gk (roleF T n ln):=by
 have ho : ∀ (m:Nat) (l:List Bd),Gk (onsF T n m l):=by
   intro m
   induction m with
   | zero=>intro l p r hr; simp [onsF] at hr
   | succ m ih =>
     intro l p r hr
     rw [onsF] at hr
     split at hr
     · cases hr; rfl
     · split at hr
       · cases hr; exact one_g _ _ _ _
       · split at hr
         · cases hr
         · rename_i x u hx
           rw [ih _ _ _ hr,show u.g = _ from namedF_g n _ _ _ hx]
           split
           · rw [fail_g,one_g,one_g]
           · rw [one_g,one_g]
 intro p r hr
 unfold roleF at hr
 split at hr
 · cases hr
 · rename_i l u hl
   split at hr
   · cases hr
   · rename_i b u2 hb
     cases hr
     show u2.g = _
     rw [show u2.g = _ from ho n _ _ _ hb,must_g,show u.g = _ from listF_g (one:=nameP T) (fun p r hr=>by cases hr; exact name_g T p) n _ _ hl,name_g]
def P2 (X:World) (g:Nat) (z0 z1:Value):World:=(X.setCell ⟨g,0,none⟩ z0).setCell ⟨g,1,none⟩ z1
set_option maxRecDepth 100000 in
set_option maxHeartbeats 8000000 in
theorem program_any (ht:TxtOk w0 T) (n:Nat) (hn:n≤100000) (w:World) (p:Pst) (r:Pg × Pst) (h:Cx w0 T R q w p) (hg:p.g+(n*n+n)≤mostG) (hr:progF T n n ⟨[],[]⟩ p=some r) :
   Calls Tryz.prog 100 #[at0 q] w (OutX w0 T R q w r.1.nd r.2):=by
 have HNA:=Lib.hid (fun w' p' (rr:Bd × Pst) (ln':Nat) (h':Cx w0 T R q w' p') (hg':p'.g=p.g) (hr':namedF T n ln' p'=some rr)=>named_any (R:=R) (q:=q) ht n hn w' p' rr ln' h' (by omega) hr')
 have HRA:=Lib.hid (fun w' p' (rr:Rl × Pst) (ln':Nat) (h':Cx w0 T R q w' p') (hg':p'.g=p.g) (hr':roleF T n ln' p'=some rr)=>role_any (R:=R) (q:=q) ht n hn w' p' rr ln' h' (by omega) hr')
 have HKK:=Lib.hid (fun p' w' (h':Cx w0 T R q w' p')=>key_made ht h' [kFn,kAc] #[.string ⟨#[102,117,110,99]⟩,.string ⟨#[97,99,116,111,114]⟩] 9 2 2 rfl rfl (by decide) (by decide))
 have HFF:=Lib.hid (fun p' w' (h':Cx w0 T R q w' p')=>fail_any h' 101)
 have HOO:=Lib.hid (fun p' w' (h':Cx w0 T R q w' p')=>ok_at h')
 have HSK:=Lib.hid (fun p' w' (h':Cx w0 T R q w' p')=>(one_sok ht 4 [kFn,kAc] h'.ok).1)
 have H0:=Lib.hid h
 have hq:=h.lt
 have hqa:¬ w.heap.size=q:=by omega
 have hqb:¬ w.heap.size+1=q:=by omega
 have hne:w.heap.size≠w.heap.size+1:=by omega
 have HR:=Lib.hid hr
 have hS2:PgAt q w ((w.alloc (.cells #[.slice none 0 0,.slice none 0 0] 25)).alloc (.cells #[.slice none 0 0,.slice none 0 0] 25)) w.heap.size (w.heap.size+1) (.slice none 0 0) (.slice none 0 0) [] [] :=
   ⟨heap_new' _ _ _ (by simp),heap_old (heap_new _ _) _,RowE.nil _ _ _ _ _ _,RowE.nil _ _ _ _ _ _⟩
 have HS2:=Lib.hid hS2
 have HC2:=Lib.hid ((h.alloc (.cells #[.slice none 0 0,.slice none 0 0] 25)).alloc (.cells #[.slice none 0 0,.slice none 0 0] 25))
 have HK2:=Lib.hid (((Kp.refl q w).alloc (.cells #[.slice none 0 0,.slice none 0 0] 25)).alloc (.cells #[.slice none 0 0,.slice none 0 0] 25))
 clear h ht hg hr hS2
 unfold at0 at *
 go_enter Tryz.func100,Tryz.ntmps100
 go_wp2_with fail
 go_loopg [] n (fun g wr=>∃ (G:Pg) (LF LR:List Nd) (pj:Pst) (vF vR:Value),Hid (progF T n g G pj=some r∧G.fns.map Bd.nd=LF∧G.roles.map Rl.nd=LR)∧LF.length+LR.length+g≤200000∧Hid (pj.g=p.g)∧Hid (PgAt q w wr w.heap.size (w.heap.size+1) vF vR LF LR)∧Hid (Cx w0 T R q wr pj)∧Hid (Kp q w wr))
 case atStart=>exact ⟨⟨[],[]⟩,[],[],p, _, _,Lib.hid ⟨HR.out,rfl,rfl⟩,by simp; omega,Lib.hid rfl,HS2,HC2,HK2⟩
 case round =>
   obtain ⟨G,LF,LR,pj,vF,vR,HF,hlen,HGJ,HS,HCj,HKj⟩:=hrel
   obtain ⟨Af,cf,rfl,-,-⟩:=HS.out.rf.form
   obtain ⟨Ar,cr,rfl,-,-⟩:=HS.out.rr.form
   cases gk with
   | zero=>exact absurd HF.out.1 (by simp [progF])
   | succ g =>
     have hF:=HF.out.1
     have HLF:=Lib.hid HF.out.2
     rw [progF] at hF
     have HO4:=Lib.hid (HOO.out pj wr HCj.out)
     obtain ⟨⟨-,c1,-,-,c4,-⟩,-⟩:=box11 HCj.out.hp
     have hltj:=HCj.out.lt
     obtain ⟨⟨d0,d1⟩,-⟩:=bx2 HS.out.e
     obtain ⟨⟨i0,i1⟩,f0,f1⟩:=bx2 HS.out.z
     have hz0:=lt_heap HS.out.z
     clear HF HS2 HC2 HK2 HR
     by_cases hstop:pj.er≠0∨pj.k=6
     · rw [if_pos hstop] at hF
       cases hF
       have hend:∀ (u:Unit),OutX w0 T R q w (Pg.nd G) pj (.returned (.agg #[.slice Af LF.length cf,.slice Ar LR.length cr])) (P2 wr w.heap.size (.slice Af LF.length cf) (.slice Ar LR.length cr)):=fun _ => by
         have hs1:wr.grownBy (wr.setCell ⟨w.heap.size,0,none⟩ (.slice Af LF.length cf)) (some w.heap.size):=(Kp.refl w.heap.size wr).set rfl _
         have hs2:(wr.setCell ⟨w.heap.size,0,none⟩ (.slice Af LF.length cf)).grownBy (P2 wr w.heap.size (.slice Af LF.length cf) (.slice Ar LR.length cr)) (some w.heap.size):=(Kp.refl w.heap.size (wr.setCell ⟨w.heap.size,0,none⟩ (.slice Af LF.length cf))).set rfl _
         have hf1:=HS.out.rf.keep (D':=Dq q w.heap.size (w.heap.size+1)) hs1 (fun g e => .inl (.inr (.inl (Option.some.inj e).symm))) (fun g e e2=>by have:=(HS.out.rf.own g e2).1; have:=Option.some.inj e; omega) (fun _ _ h => .inl h)
         have hf2:=hf1.keep hs2 (fun g e => .inr (.inl (Option.some.inj e).symm)) (fun g e e2=>by have:=(hf1.own g e2).1; have:=Option.some.inj e; omega) (fun _ _ h=>h)
         have hr1:=HS.out.rr.keep (D':=Dq q w.heap.size (w.heap.size+1)) hs1 (fun g e => .inl (.inr (.inl (Option.some.inj e).symm))) (fun g e e2=>by have:=(HS.out.rr.own g e2).1; have:=Option.some.inj e; omega) (fun _ _ h => .inl h)
         have hr2:=hr1.keep hs2 (fun g e => .inr (.inl (Option.some.inj e).symm)) (fun g e e2=>by have:=(hr1.own g e2).1; have:=Option.some.inj e; omega) (fun _ _ h=>h)
         have pf:=hf2.px (by omega) (fun g h1 _ hd=>by rcases hd with hd | hd | hd <;> omega)
         have pr:=hr2.px (by omega) (fun g h1 _ hd=>by rcases hd with hd | hd | hd <;> omega)
         have c1:=Cx.one H0.out HCj.out HKj.out (g3:=w.heap.size) (Nat.le_refl _) 0 (.slice Af LF.length cf)
         have c2:=Cx.one H0.out c1.1 c1.2 (g3:=w.heap.size) (Nat.le_refl _) 1 (.slice Ar LR.length cr)
         refine ⟨_,rfl,(Pg.rd G _).2 ⟨_, _,rfl,?_,?_⟩,c2.1,c2.2⟩
         · rw [HLF.out.1]
           exact Rd.keep (fun _ _ => rfl) (fun b hb=>hb.1) _ _ pf
         · rw [HLF.out.2]
           exact Rd.keep (fun _ _ => rfl) (fun b hb=>hb.1) _ _ pr
       have HE:=Lib.hid (hend ())
       have HQ:=Lib.hid (st2 HS.out.z (.slice Af LF.length cf) (.slice Ar LR.length cr))
       clear hend HNA HRA HKK HFF HOO HSK
       by_cases her:pj.er=0
       · have hk6:pj.k=6:=by
           rcases hstop with hh | hh
           · exact absurd her hh
           · exact hh
         have t1:((pj.k:Int) != 6)=false:=by rw [hk6]; rfl
         rw [decide_eq_true her] at HO4
         clear hstop her hk6
         go_wp2_with (first
           | (go_at_call 142
              refine HO4.out.mono ?_
              rintro e w5 ⟨rfl,rfl⟩)
           | (fail))
         obtain ⟨⟨e0,e1⟩,-⟩:=bx2 HQ.out
         refine bodyPost_ret (v := .agg #[.slice Af LF.length cf,.slice Ar LR.length cr]) (by simp [results,Tryz.results100,go_sem,e0,e1]) rfl ?_
         exact HE.out
       · rw [decide_eq_false her] at HO4
         clear hstop her
         go_wp2_with (first
           | (go_at_call 142
              refine HO4.out.mono ?_
              rintro e w5 ⟨rfl,rfl⟩)
           | (fail))
         obtain ⟨⟨e0,e1⟩,-⟩:=bx2 HQ.out
         refine bodyPost_ret (v := .agg #[.slice Af LF.length cf,.slice Ar LR.length cr]) (by simp [results,Tryz.results100,go_sem,e0,e1]) rfl ?_
         exact HE.out
     · rw [if_neg hstop] at hF
       have her:pj.er=0:=Classical.byContradiction fun hh=>hstop (.inl hh)
       have hk6:pj.k≠6:=fun hh=>hstop (.inr hh)
       have t1:((pj.k:Int) != 6)=true:=bne_iff_ne.2 (by omega)
       rw [decide_eq_true her] at HO4
       have HK7:=Lib.hid (HKK.out pj wr HCj.out)
       have hg7:=one_g T 4 [kFn,kAc] pj
       have hsk:=HSK.out pj wr HCj.out
       obtain ⟨s7,p7,hP7⟩:∃ s7 p7,pj.one T 4 [kFn,kAc]=(s7,p7):=⟨_, _,rfl⟩
       rw [hP7] at hF HK7 hg7 hsk
       dsimp only at hF HK7 hg7 hsk
       have q0:=key_eq' s7 kFn hsk.1 [102,117,110,99] rfl (by decide)
       have q1:=key_eq' s7 kAc hsk.1 [97,99,116,111,114] rfl (by decide)
       clear hP7 hstop her hk6 hsk HSK HOO HKK i0 i1 f0 f1 hz0
       by_cases hfn:s7=kFn
       · rw [if_pos hfn] at hF
         rw [decide_eq_true hfn] at q0
         clear hfn q1
         cases ho4:namedF T n pj.ln p7 with
         | none=>rw [ho4] at hF; cases hF
         | some y4 =>
           obtain ⟨x4,p9⟩:=y4
           rw [ho4] at hF
           dsimp only at hF
           have HF5:=Lib.hid hF
           have HG5:Hid (p9.g=p.g):=Lib.hid (by have:=namedF_g n pj.ln _ _ ho4; rw [show p9.g = _ from this,hg7,HGJ.out])
           have HX4:=Lib.hid (fun w' (h':Cx w0 T R q w' p7)=>HNA.out w' p7 _ pj.ln h' (by rw [hg7,HGJ.out]) ho4)
           clear hF hg7 ho4 HNA HRA HFF
           generalize strOf s7=S7 at *
           go_upto_region 7 with (first
             | (go_at_call 142
                refine HO4.out.mono ?_
                rintro e w5 ⟨rfl,rfl⟩)
             | (go_at_call 143
                refine HK7.out.mono ?_
                rintro e w7 ⟨rfl,h5,hk5⟩
                have HH8:=Lib.hid h5
                have HK8:=Lib.hid (HKj.out.trans hk5)
                have HS8:=Lib.hid (HS.out.kp hk5 hq hqa hqb)
                clear h5 hk5)
             | (fail))
           clear HO4 HK7 c1 c4 d0 d1 t1
           obtain ⟨⟨d0,d1⟩,-⟩:=bx2 HS8.out.e
           have hlt8:=HH8.out.lt
           have hz8:=lt_heap HS8.out.e
           have hsz8:w.heap.size≤w7.heap.size:=HK8.out.size
           have HZ8:=Lib.hid (And.intro (lt_heap HS8.out.e) (lt_heap HS8.out.z))
           go_region_law (first
             | (go_simp
                go_at_call 144
                refine (HX4.out _ HH8.out.drew).mono ?_
                rintro e w10 ⟨v10,rfl,hx10,h10,hk10⟩
                have hk10':Kp q w7 w10:=((Kp.refl q w7).drew).trans hk10
                obtain ⟨s6,l6,b6,ln6⟩:=x4
                obtain ⟨y1,y2,rfl,-,-,hy1,hy2⟩:=(hd_rd s6 l6 6 (b6.map Sm.nd) ln6 v10).1 hx10
                obtain ⟨A1,n1,c1,rfl⟩:=hy1.row_form
                obtain ⟨A2,n2,c2,rfl⟩:=hy2.row_form
                have HX10:=Lib.hid hx10
                have HC10:=Lib.hid h10
                have HK10:=Lib.hid (HK8.out.trans hk10')
                have HS10:=Lib.hid (HS8.out.kp hk10' hq hqa hqb)
                have HZ10:=Lib.hid hk10'.size
                obtain ⟨⟨i0,i1⟩,f0,f1⟩:=bx2 HS10.out.e
                have hz10:=lt_heap HS10.out.e
                clear h10 hk10 hk10' hx10 hy1 hy2)
             | (obtain ⟨xs,ho5,hf5⟩:=((HS10.out.kp ((Kp.refl q w10).alloc (.cells #[.string (strOf s6),.slice A1 n1 c1,.slice A2 n2 c2,.int .i64 ln6] 87)) hq hqa hqb).rf)
                refine step_bd rfl (.tmp 28) (.tmp 32) rfl (by simp [Act.eval]) ho5 (A:=some ⟨w10.heap.size,0,none⟩) (m:=1) (c:=1) (news:=[.string (strOf s6),.slice A1 n1 c1,.slice A2 n2 c2,.int .i64 ln6]) (by simp [Act.eval]) (At.made w10 #[.string (strOf s6),.slice A1 n1 c1,.slice A2 n2 c2,.int .i64 ln6] 87) rfl (by intro u hu; simp at hu; rcases hu with rfl | rfl | rfl | rfl <;> rfl) (by omega) (by have:=HZ10.out; have:=HZ8.out; simp; omega) ?_
                intro v' w11 ho11 hg11 hor11
                have hown:=HS10.out.rf.own
                have hz8':=HZ8.out
                have hz10':=HZ10.out
                have hx5:Rd (w10.alloc (.cells #[.string (strOf s6),.slice A1 n1 c1,.slice A2 n2 c2,.int .i64 ln6] 87)) (fun b=>Nw w (w10.alloc (.cells #[.string (strOf s6),.slice A1 n1 c1,.slice A2 n2 c2,.int .i64 ln6] 87)) b∧¬ ((Dq q w.heap.size (w.heap.size+1) b∨some b=(Value.slice Ar LR.length cr).ownBlock)∨some b=(Value.slice Af LF.length cf).ownBlock)) (Bd.nd ⟨s6,l6,b6,ln6⟩) (.agg #[.string (strOf s6),.slice A1 n1 c1,.slice A2 n2 c2,.int .i64 ln6]):=by
                  refine Rd.keep (fun p hp=>((Below.refl _ w10).alloc (Nat.le_refl _) _).cell hp.2) (fun b hb=>?_) _ _ HX10.out
                  have h1:=hb.1
                  have h2:=hb.2
                  simp at h1
                  refine ⟨⟨by omega,by simp; omega⟩,?_⟩
                  rintro (((hd | hd | hd) | hd) | hd)
                  · omega
                  · omega
                  · omega
                  · have h8:=HS8.out.rr.own b hd.symm
                    omega
                  · have h8:=HS8.out.rf.own b hd.symm
                    omega
                have hap:=PgAt.appF (x:=Bd.nd ⟨s6,l6,b6,ln6⟩) (HS10.out.kp ((Kp.refl q w10).alloc (.cells #[.string (strOf s6),.slice A1 n1 c1,.slice A2 n2 c2,.int .i64 ln6] 87)) hq hqa hqb) hne (by omega) (by omega) ho5 hf5 hx5 rfl ho11 hg11 hor11
                have hcg:=Cx.grown H0.out (HC10.out.alloc _) (HK10.out.alloc _) hg11 (fun g' e0=>by
                  have:=(hown g' e0).1
                  omega)
                have hlt11:w.heap.size+1<w11.heap.size:=by have:=hg11.size; simp at this; omega
                have e11:w11.heap[w.heap.size+1]?=some (.cells #[.slice Af LF.length cf,.slice Ar LR.length cr] 25 (0,0)):=(hg11.block _ (by simp; omega) (fun e=>by have:=(hown _ e.symm).1; omega)).trans (heap_old HS10.out.e _)
                have hrow11:=RowE.snoc (D:=fun b=>Dq q w.heap.size (w.heap.size+1) b∨some b=(Value.slice Ar LR.length cr).ownBlock) ho5 hf5 hx5 rfl ho11 hg11 hor11
                obtain ⟨A',c',rfl,-,-⟩:=hrow11.form
                obtain ⟨⟨j0,j1⟩,k0,k1⟩:=bx2 e11
                have HAP:=Lib.hid hap
                have hcs:=Cx.one H0.out hcg.1 hcg.2 (g3:=w.heap.size+1) (by omega) 0 (.slice A' (LF ++ [Bd.nd ⟨s6,l6,b6,ln6⟩]).length c')
                have HCS:=Lib.hid hcs.1
                have HKS:=Lib.hid hcs.2
                obtain ⟨nL,hnL⟩:∃ k,(LF ++ [Bd.nd ⟨s6,l6,b6,ln6⟩]).length=k:=⟨_,rfl⟩
                rw [hnL] at HAP HCS HKS ⊢
                clear hcg hcs ho5 hf5 ho11 hg11 hor11 hx5 hap hown hz8' hz10' e11 hrow11 hnL)
             | (fail))
           all_goals
             go_wp2_with fail
             go_roundg g
             case measure=>omega
             case rel=>exact ⟨{ G with fns:=G.fns ++ [_] },LF ++ [_],LR,p9, _, _,Lib.hid ⟨HF5.out,by rw [List.map_append,HLF.out.1]; rfl,HLF.out.2⟩,by simp; omega,HG5,HAP,HCS,HKS⟩
       · rw [if_neg hfn] at hF
         rw [decide_eq_false hfn] at q0
         clear hfn
         by_cases hac:s7=kAc
         · rw [if_pos hac] at hF
           rw [decide_eq_true hac] at q1
           clear hac
           cases ho4:roleF T n pj.ln p7 with
           | none=>rw [ho4] at hF; cases hF
           | some y4 =>
             obtain ⟨x4,p9⟩:=y4
             rw [ho4] at hF
             dsimp only at hF
             have HF5:=Lib.hid hF
             have HG5:Hid (p9.g=p.g):=Lib.hid (by have:=roleF_g n pj.ln _ _ ho4; rw [show p9.g = _ from this,hg7,HGJ.out])
             have HX4:=Lib.hid (fun w' (h':Cx w0 T R q w' p7)=>HRA.out w' p7 _ pj.ln h' (by rw [hg7,HGJ.out]) ho4)
             clear hF hg7 ho4 HNA HRA HFF
             generalize strOf s7=S7 at *
             go_upto_region 9 with (first
               | (go_at_call 142
                  refine HO4.out.mono ?_
                  rintro e w5 ⟨rfl,rfl⟩)
               | (go_at_call 143
                  refine HK7.out.mono ?_
                  rintro e w7 ⟨rfl,h5,hk5⟩
                  have HH8:=Lib.hid h5
                  have HK8:=Lib.hid (HKj.out.trans hk5)
                  have HS8:=Lib.hid (HS.out.kp hk5 hq hqa hqb)
                  clear h5 hk5)
               | (fail))
             clear HO4 HK7 c1 c4 d0 d1 t1
             obtain ⟨⟨d0,d1⟩,-⟩:=bx2 HS8.out.e
             have hlt8:=HH8.out.lt
             have hz8:=lt_heap HS8.out.e
             have hsz8:w.heap.size≤w7.heap.size:=HK8.out.size
             have HZ8:=Lib.hid (And.intro (lt_heap HS8.out.e) (lt_heap HS8.out.z))
             go_region_law (first
               | (go_simp
                  go_at_call 145
                  refine (HX4.out _ HH8.out.drew).mono ?_
                  rintro e w10 ⟨v10,rfl,hx10,h10,hk10⟩
                  have hk10':Kp q w7 w10:=((Kp.refl q w7).drew).trans hk10
                  obtain ⟨s6,l6,b6,ln6⟩:=x4
                  obtain ⟨y1,y2,rfl,-,-,hy1,hy2⟩:=(hd_rd s6 l6 4 (b6.map Bd.nd) ln6 v10).1 hx10
                  obtain ⟨A1,n1,c1,rfl⟩:=hy1.row_form
                  obtain ⟨A2,n2,c2,rfl⟩:=hy2.row_form
                  have HX10:=Lib.hid hx10
                  have HC10:=Lib.hid h10
                  have HK10:=Lib.hid (HK8.out.trans hk10')
                  have HS10:=Lib.hid (HS8.out.kp hk10' hq hqa hqb)
                  have HZ10:=Lib.hid hk10'.size
                  obtain ⟨⟨i0,i1⟩,f0,f1⟩:=bx2 HS10.out.e
                  have hz10:=lt_heap HS10.out.e
                  clear h10 hk10 hk10' hx10 hy1 hy2)
               | (obtain ⟨xs,ho5,hf5⟩:=((HS10.out.kp ((Kp.refl q w10).alloc (.cells #[.string (strOf s6),.slice A1 n1 c1,.slice A2 n2 c2,.int .i64 ln6] 90)) hq hqa hqb).rr)
                  refine step_rl rfl (.tmp 38) (.tmp 42) rfl (by simp [Act.eval]) ho5 (A:=some ⟨w10.heap.size,0,none⟩) (m:=1) (c:=1) (news:=[.string (strOf s6),.slice A1 n1 c1,.slice A2 n2 c2,.int .i64 ln6]) (by simp [Act.eval]) (At.made w10 #[.string (strOf s6),.slice A1 n1 c1,.slice A2 n2 c2,.int .i64 ln6] 90) rfl (by intro u hu; simp at hu; rcases hu with rfl | rfl | rfl | rfl <;> rfl) (by omega) (by have:=HZ10.out; have:=HZ8.out; simp; omega) ?_
                  intro v' w11 ho11 hg11 hor11
                  have hown:=HS10.out.rr.own
                  have hz8':=HZ8.out
                  have hz10':=HZ10.out
                  have hx5:Rd (w10.alloc (.cells #[.string (strOf s6),.slice A1 n1 c1,.slice A2 n2 c2,.int .i64 ln6] 90)) (fun b=>Nw w (w10.alloc (.cells #[.string (strOf s6),.slice A1 n1 c1,.slice A2 n2 c2,.int .i64 ln6] 90)) b∧¬ ((Dq q w.heap.size (w.heap.size+1) b∨some b=(Value.slice Af LF.length cf).ownBlock)∨some b=(Value.slice Ar LR.length cr).ownBlock)) (Rl.nd ⟨s6,l6,b6,ln6⟩) (.agg #[.string (strOf s6),.slice A1 n1 c1,.slice A2 n2 c2,.int .i64 ln6]):=by
                    refine Rd.keep (fun p hp=>((Below.refl _ w10).alloc (Nat.le_refl _) _).cell hp.2) (fun b hb=>?_) _ _ HX10.out
                    have h1:=hb.1
                    have h2:=hb.2
                    simp at h1
                    refine ⟨⟨by omega,by simp; omega⟩,?_⟩
                    rintro (((hd | hd | hd) | hd) | hd)
                    · omega
                    · omega
                    · omega
                    · have h8:=HS8.out.rf.own b hd.symm
                      omega
                    · have h8:=HS8.out.rr.own b hd.symm
                      omega
                  have hap:=PgAt.appR (x:=Rl.nd ⟨s6,l6,b6,ln6⟩) (HS10.out.kp ((Kp.refl q w10).alloc (.cells #[.string (strOf s6),.slice A1 n1 c1,.slice A2 n2 c2,.int .i64 ln6] 90)) hq hqa hqb) hne (by omega) (by omega) ho5 hf5 hx5 rfl ho11 hg11 hor11
                  have hcg:=Cx.grown H0.out (HC10.out.alloc _) (HK10.out.alloc _) hg11 (fun g' e0=>by
                    have:=(hown g' e0).1
                    omega)
                  have hlt11:w.heap.size+1<w11.heap.size:=by have:=hg11.size; simp at this; omega
                  have e11:w11.heap[w.heap.size+1]?=some (.cells #[.slice Af LF.length cf,.slice Ar LR.length cr] 25 (0,0)):=(hg11.block _ (by simp; omega) (fun e=>by have:=(hown _ e.symm).1; omega)).trans (heap_old HS10.out.e _)
                  have hrow11:=RowE.snoc (D:=fun b=>Dq q w.heap.size (w.heap.size+1) b∨some b=(Value.slice Af LF.length cf).ownBlock) ho5 hf5 hx5 rfl ho11 hg11 hor11
                  obtain ⟨A',c',rfl,-,-⟩:=hrow11.form
                  obtain ⟨⟨j0,j1⟩,k0,k1⟩:=bx2 e11
                  have HAP:=Lib.hid hap
                  have hcs:=Cx.one H0.out hcg.1 hcg.2 (g3:=w.heap.size+1) (by omega) 1 (.slice A' (LR ++ [Rl.nd ⟨s6,l6,b6,ln6⟩]).length c')
                  have HCS:=Lib.hid hcs.1
                  have HKS:=Lib.hid hcs.2
                  obtain ⟨nL,hnL⟩:∃ k,(LR ++ [Rl.nd ⟨s6,l6,b6,ln6⟩]).length=k:=⟨_,rfl⟩
                  rw [hnL] at HAP HCS HKS ⊢
                  clear hcg hcs ho5 hf5 ho11 hg11 hor11 hx5 hap hown hz8' hz10' e11 hrow11 hnL)
               | (fail))
             all_goals
               go_wp2_with fail
               go_roundg g
               case measure=>omega
               case rel=>exact ⟨{ G with roles:=G.roles ++ [_] },LF,LR ++ [_],p9, _, _,Lib.hid ⟨HF5.out,HLF.out.1,by rw [List.map_append,HLF.out.2]; rfl⟩,by simp; omega,HG5,HAP,HCS,HKS⟩
         · rw [if_neg hac] at hF
           rw [decide_eq_false hac] at q1
           clear hac
           have HF5:=Lib.hid hF
           have HG5:Hid ((p7.fail 101).g=p.g):=Lib.hid (by rw [fail_g,hg7,HGJ.out])
           have HFA:=Lib.hid (HFF.out p7)
           clear hF hg7 HNA HRA
           generalize strOf s7=S7 at *
           go_wp2_with (first
             | (go_at_call 142
                refine HO4.out.mono ?_
                rintro e w5 ⟨rfl,rfl⟩)
             | (go_at_call 143
                refine HK7.out.mono ?_
                rintro e w7 ⟨rfl,h5,hk5⟩
                have HH7:=Lib.hid h5
                have HKx:=Lib.hid (HKj.out.trans hk5)
                have HS7:=Lib.hid (HS.out.kp hk5 hq hqa hqb)
                clear h5 hk5)
             | (go_at_call 146
                refine (HFA.out _ HH7.out).mono ?_
                rintro e w8 ⟨rfl,h5,hk5⟩
                have HH8:=Lib.hid h5
                have HK8:=Lib.hid (HKx.out.trans hk5)
                have HS8:=Lib.hid (HS7.out.kp hk5 hq hqa hqb)
                clear h5 hk5)
             | (fail))
           go_roundg g
           case measure=>omega
           case rel=>exact ⟨G,LF,LR, _, _, _,Lib.hid ⟨HF5.out,HLF.out⟩,by omega,HG5,HS8,HH8,HK8⟩
end
end Go.Proofs.YtcmopnkldplngabGreatDoor
