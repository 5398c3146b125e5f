/- Texts Tf,Tg,Th,Ti,Tj,Tk of this seat in one: see each part. -/
import Derived.Deep.LoopGhost
import Derived.Deep.RegionLaw
import Derived.Test.YtcmopnkldplngabGreatDoorTbe
namespace Go.Proofs.YtcmopnkldplngabGreatDoor
open Go.RowKit
set_option linter.unusedVariables false
def RowX (w wr:World) (E:TypeId) (sz:Nat) (v:Value) (l:List Nd):Prop :=
 ∃ xs,wr.ownsRow w.heap.size E sz v l.length xs∧Flat wr (fun b=>Nw w wr b∧some b≠v.ownBlock) sz xs l
section
variable {w wr w':World} {E:TypeId} {sz q:Nat} {v:Value} {l:List Nd}
theorem RowX.nil (w wr:World) (E:TypeId) (sz:Nat):RowX w wr E sz (.slice none 0 0) []:=⟨[],World.ownsRow_nil _ _ _ _,Flat.nil _ _ _⟩
theorem RowX.form (h:RowX w wr E sz v l):∃ A c,v = .slice A l.length c∧l.length≤c∧c≤maxLen:=by
 obtain ⟨xs,h,-⟩:=h
 rcases h.2 with ⟨h1,h2⟩ | ⟨g,cap,cur,he, _, _,h3,h4, _⟩
 · exact ⟨none,0,by rw [h1,h2],by omega,by unfold maxLen; omega⟩
 · exact ⟨_,cap,he,h3,h4⟩
theorem RowX.rd (h:RowX w wr E sz v l):Rd wr (Nw w wr) (.row sz l) v:=by
 obtain ⟨xs,h1,h2⟩:=h
 exact (h2.keep (S':=Nw w wr) (fun _ _ => rfl) (fun b hb=>hb.1)).row h1 (fun b h3 h4=>⟨h3,h4⟩)
theorem own_ge {base:Nat} {xs:List Value} {n:Nat} (h:wr.ownsRow base E sz v n xs):v.ownBlock=none∨∃ g,v.ownBlock=some g∧base≤g∧g<wr.heap.size:=by
 rcases h.2 with ⟨h1, _⟩ | ⟨g,cap,cur,he,hg,hh, _⟩
 · subst h1; exact .inl rfl
 · subst he; exact .inr ⟨g,rfl,hg,lt_heap hh⟩
theorem RowX.kp (h:RowX w wr E sz v l) (k:Kp q wr w') (hq:q<w.heap.size):RowX w w' E sz v l:=by
 obtain ⟨xs,h1,h2⟩:=h
 refine ⟨xs,World.ownsRow.kept (row:=some q) h1 k ?_,h2.keep (fun p hp=>k.cellq hp.1.2 (by have:=hp.1.1; omega)) (fun b hb=>⟨⟨hb.1.1,Nat.lt_of_lt_of_le hb.1.2 k.size⟩,hb.2⟩)⟩
 rcases own_ge h1 with h3 | ⟨g,h3,h4, _⟩
 · exact .inl h3
 · right
   rw [h3]
   intro e
   have:=Option.some.inj e
   omega
theorem RowX.lit (w wr:World) (E:TypeId) (arr:Array Value) (x:Nd) (n:Nat) (hs:arr.size=n) (hw:w.heap.size≤wr.heap.size) (hx:Rd wr (Nw w wr) x (.agg arr)):RowX w (wr.alloc (.cells arr E)) E n (.slice (some ⟨wr.heap.size,0,none⟩) 1 1) [x]:=by
 have h1:=World.ownsRow_lit (e:=E) (size:=n) (base:=w.heap.size) wr arr 1 hw (by unfold maxLen; omega) (by omega)
 refine ⟨arr.toList,h1,?_⟩
 have h2:Rd (wr.alloc (.cells arr E)) (fun b=>Nw w (wr.alloc (.cells arr E)) b∧some b≠(Value.slice (some ⟨wr.heap.size,0,none⟩) 1 1).ownBlock) x (.agg arr):=by
   refine Rd.keep (fun p hp=>((Below.refl _ wr).alloc (Nat.le_refl _) _).cell hp.2) (fun b hb=>⟨⟨hb.1,?_⟩,?_⟩) _ _ hx
   · have:=hb.2
     simp
     omega
   · intro e
     have e:some b=some wr.heap.size:=e
     have:=Option.some.inj e
     have:=hb.2
     omega
 have h3:=(Flat.nil (wr.alloc (.cells arr E)) (fun b=>Nw w (wr.alloc (.cells arr E)) b∧some b≠(Value.slice (some ⟨wr.heap.size,0,none⟩) 1 1).ownBlock) n).snoc (vs:=arr.toList) (x:=x) (by simpa using hs) (by simpa using h2)
 simpa using h3
theorem RowX.snoc {w5 w6:World} {v':Value} {xs news:List Value} {x:Nd} (h1:w5.ownsRow w.heap.size E sz v l.length xs) (h2:Flat w5 (fun b=>Nw w w5 b∧some b≠v.ownBlock) sz xs l)
   (hx:Rd w5 (fun b=>Nw w w5 b∧some b≠v.ownBlock) x (.agg news.toArray)) (hn:news.length=sz) (ho:w6.ownsRow w.heap.size E sz v' (l.length+1) (xs ++ news)) (hg:w5.grownBy w6 v.ownBlock) (hor:v'.ownBlock=v.ownBlock∨v'.ownBlock=some w5.heap.size):RowX w w6 E sz v' (l ++ [x]):=by
 refine ⟨xs ++ news,by simpa using ho,?_⟩
 refine (h2.snoc hn hx).keep (fun p hp=>?_) (fun b hb=>⟨⟨hb.1.1,Nat.lt_of_lt_of_le hb.1.2 hg.size⟩,?_⟩)
 · exact World.cell?_of_block (hg.block p.block hp.1.2 hp.2)
 · rcases hor with e | e
   · rw [e]; exact hb.2
   · rw [e]
     intro e2
     have:=Option.some.inj e2
     have:=hb.1.2
     omega
end
section
variable {T:List Nat} {p:Pst}
theorem step_g (T:List Nat) (p:Pst):(p.step T).g=p.g:=by unfold Pst.step; split <;> (try split) <;> (try split) <;> rfl
theorem fail_g (e:Nat) (p:Pst):(p.fail e).g=p.g:=by unfold Pst.fail; split <;> rfl
theorem one_g (T:List Nat) (k:Nat) (l:List (List Nat)) (p:Pst):(p.one T k l).2.g=p.g:=by
 unfold Pst.one
 split
 · exact step_g T p
 · rfl
theorem must_g (T:List Nat) (s:List Nat) (p:Pst):(p.must T s).2.g=p.g:=by
 unfold Pst.must
 split
 · show (Pst.fail 101 _).g = _
   rw [fail_g,one_g]
 · exact one_g _ _ _ _
theorem name_g (T:List Nat) (p:Pst):(p.name T).2.g=p.g:=by
 unfold Pst.name
 split
 · exact step_g T p
 · exact fail_g _ p
theorem begin_g (p:Pst):p.begin.g=p.g+1:=by
 unfold Pst.begin
 split
 · show (p.fail 102).g+1 = _
   rw [fail_g]
 · rfl
def Gk {α:Type} (R:Rr α):Prop:=∀ p r,R p=some r→r.2.g=p.g
theorem moreF_g {α:Type} {one:Rr α} (h:Gk one):∀ (m:Nat) (l:List α),Gk (moreF T one m l)
 | 0,l,p,r,hr=>by simp [moreF] at hr
 | m + 1,l,p,r,hr=>by
   rw [moreF] at hr
   split at hr
   · cases hr
     show ((p.one T 5 [[44]]).2.must T [41]).2.g=p.g
     rw [must_g,one_g]
   · cases ho:one (p.one T 5 [[44]]).2 with
     | none=>rw [ho] at hr; cases hr
     | some y =>
       obtain ⟨x,q⟩:=y
       rw [ho] at hr
       have:=moreF_g h m _ _ _ hr
       rw [this]
       have:=h _ _ ho
       rw [show q.g = _ from this,one_g]
theorem listF_g {α:Type} {one:Rr α} (h:Gk one) (m:Nat):Gk (listF T one m):=by
 intro p r hr
 unfold listF at hr
 split at hr
 · cases hr
   exact must_g _ _ _
 · split at hr
   · cases hr
     show (Pst.one _ _ _ _).2.g = _
     rw [one_g,must_g]
   · split at hr
     · cases hr
     · rename_i x q ho
       have h1:=moreF_g h m _ _ _ hr
       have h2:=h _ _ ho
       rw [h1,show q.g = _ from h2,one_g,must_g]
theorem withF_g {or:Rr Ex} (h:Gk or) (m k:Nat):Gk (withF T or m k):=by
 intro p r hr
 unfold withF at hr
 split at hr
 · cases hr
 · rename_i l q ho
   cases hr
   show q.g = _
   rw [show q.g = _ from listF_g h m _ _ ho,name_g]
theorem keyedF_g {or:Rr Ex} (h:Gk or) (m:Nat):Gk (keyedF T or m):=by
 intro p r hr
 unfold keyedF at hr
 split at hr
 · cases hr; exact one_g _ _ _ _
 · split at hr
   · cases hr; exact one_g _ _ _ _
   · split at hr
     · cases hr; exact one_g _ _ _ _
     · split at hr
       · split at hr
         · cases hr
         · rename_i x q ho
           cases hr
           show (q.must T [41]).2.g = _
           rw [must_g,show q.g = _ from h _ _ ho,must_g,one_g]
       · split at hr
         · rw [withF_g h m 10 _ _ hr,one_g]
         · split at hr
           · rw [withF_g h m 11 _ _ hr,one_g]
           · cases hr
             show (Pst.fail _ _).g = _
             rw [fail_g,one_g]
theorem primaryF_g {or:Rr Ex} (h:Gk or) (m:Nat):Gk (primaryF T or m):=by
 intro p r hr
 unfold primaryF at hr
 split at hr
 · cases hr; exact step_g _ _
 · split at hr
   · cases hr; exact step_g _ _
   · split at hr
     · cases hr; exact step_g _ _
     · split at hr
       · exact keyedF_g h m _ _ hr
       · split at hr
         · cases hr
         · rename_i l q ho
           cases hr
           exact listF_g h m _ _ ho
theorem placesF_g {or:Rr Ex} (h:Gk or):∀ (m:Nat) (x:Ex),Gk (placesF T or m x)
 | 0,x,p,r,hr=>by simp [placesF] at hr
 | m + 1,x,p,r,hr=>by
   rw [placesF] at hr
   split at hr
   · cases hr; exact one_g _ _ _ _
   · split at hr
     · cases hr
     · rename_i y q ho
       rw [placesF_g h m _ _ _ hr,must_g,show q.g = _ from h _ _ ho,one_g]
theorem postF_g {or:Rr Ex} (h:Gk or) (m:Nat):Gk (postF T or m):=by
 intro p r hr
 unfold postF at hr
 split at hr
 · cases hr
 · rename_i x q ho
   rw [placesF_g h m _ _ _ hr,show q.g = _ from primaryF_g h m _ _ ho]
theorem unaryF_g {or:Rr Ex} (h:Gk or) (m:Nat):∀ j:Nat,Gk (unaryF T or m j)
 | 0,p,r,hr=>by simp [unaryF] at hr
 | j + 1,p,r,hr=>by
   rw [unaryF] at hr
   split at hr
   · split at hr
     · cases hr
     · rename_i x q ho
       cases hr
       show q.g-1 = _
       rw [show q.g = _ from unaryF_g h m j _ _ ho,one_g,begin_g]
       omega
   · split at hr
     · cases hr
     · rename_i x q ho
       cases hr
       show q.g-1 = _
       rw [show q.g = _ from postF_g h m _ _ ho,one_g,begin_g]
       omega
theorem twoF_g {below:Rr Ex} (h:Gk below) (sg:List (List Nat)):∀ (m:Nat) (x:Ex),Gk (twoF T below sg m x)
 | 0,x,p,r,hr=>by cases hr; rfl
 | m + 1,x,p,r,hr=>by
   rw [twoF] at hr
   split at hr
   · cases hr; exact one_g _ _ _ _
   · split at hr
     · cases hr
     · rename_i y q ho
       rw [twoF_g h sg m _ _ _ hr,show q.g = _ from h _ _ ho,one_g]
theorem twosF_g {below:Rr Ex} (h:Gk below) (most:Nat) (sg:List (List Nat)):Gk (twosF T below most sg):=by
 intro p r hr
 unfold twosF at hr
 split at hr
 · cases hr
 · rename_i x q ho
   rw [twoF_g h sg most _ _ _ hr,show q.g = _ from h _ _ ho]
theorem orF_g:∀ n:Nat,Gk (orF T n)
 | 0,p,r,hr=>by simp [orF] at hr
 | n+1,p,r,hr=>by
   rw [orF] at hr
   exact twosF_g (twosF_g (twosF_g (twosF_g (twosF_g (unaryF_g (orF_g n) n n) _ _) _ _) _ _) _ _) _ _ _ _ hr
theorem stmtsF_g {stmt:Rr Sm} (h:Gk stmt):∀ (m:Nat) (l:List Sm),Gk (stmtsF T stmt m l)
 | 0,l,p,r,hr=>by simp [stmtsF] at hr
 | m + 1,l,p,r,hr=>by
   rw [stmtsF] at hr
   split at hr
   · cases hr; rfl
   · split at hr
     · cases hr; exact one_g _ _ _ _
     · split at hr
       · cases hr
       · rename_i y q ho
         rw [stmtsF_g h m _ _ _ hr,show q.g = _ from h _ _ ho,one_g]
theorem bodyF_g {stmt:Rr Sm} (h:Gk stmt) (m:Nat):Gk (bodyF T stmt m):=by
 intro p r hr
 unfold bodyF at hr
 rw [stmtsF_g h m _ _ _ hr,must_g]
theorem branchF_g {or:Rr Ex} {body:Rr (List Sm)} (h:Gk or) (hb:Gk body) (k ln:Nat):Gk (branchF T or body k ln):=by
 intro p r hr
 unfold branchF at hr
 split at hr
 · cases hr
 · rename_i x q ho
   split at hr
   · cases hr
   · rename_i b u hb1
     have e1:u.g=p.g:=by rw [show u.g = _ from hb _ _ hb1,must_g,show q.g = _ from h _ _ ho,must_g]
     split at hr
     · split at hr
       · split at hr
         · cases hr
         · rename_i c u2 hb2
           cases hr
           show u2.g = _
           rw [show u2.g = _ from hb _ _ hb2,one_g,e1]
       · cases hr
         show (Pst.one _ _ _ _).2.g = _
         rw [one_g,e1]
     · cases hr
       exact e1
theorem stmtK_g {or:Rr Ex} {body:Rr (List Sm)} (h:Gk or) (hb:Gk body) (m k ln:Nat):Gk (stmtK T or body m k ln):=by
 intro p r hr
 unfold stmtK at hr
 split at hr
 · split at hr
   · cases hr
   · rename_i x q ho
     cases hr
     show (q.must T [59]).2.g = _
     rw [must_g,show q.g = _ from h _ _ ho,must_g,name_g]
 · split at hr
   · exact branchF_g h hb k ln _ _ hr
   · split at hr
     · split at hr
       · cases hr
       · rename_i x q ho
         cases hr
         show (q.must T [59]).2.g = _
         rw [must_g,show q.g = _ from h _ _ ho]
     · split at hr
       · split at hr
         · cases hr
         · rename_i x q ho
           split at hr
           · cases hr
           · rename_i l u hl
             cases hr
             show (u.must T [59]).2.g = _
             rw [must_g,show u.g = _ from listF_g h m _ _ hl,name_g,show q.g = _ from postF_g h m _ _ ho]
       · split at hr
         · split at hr
           · cases hr
           · rename_i l u hl
             cases hr
             show (u.must T [59]).2.g = _
             rw [must_g,show u.g = _ from listF_g h m _ _ hl,name_g]
         · cases hr
           exact must_g _ _ _
theorem stmtF_g {or:Rr Ex} (h:Gk or) (m:Nat):∀ n:Nat,Gk (stmtF T or m n)
 | 0,p,r,hr=>by simp [stmtF] at hr
 | n + 1,p,r,hr=>by
   rw [stmtF] at hr
   split at hr
   · cases hr
   · rename_i x q ho
     cases hr
     show q.g-1 = _
     rw [show q.g = _ from stmtK_g h (bodyF_g (stmtF_g h m n) m) m _ _ _ _ ho,one_g,begin_g]
     omega
end
end Go.Proofs.YtcmopnkldplngabGreatDoor
namespace Go.Proofs.YtcmopnkldplngabGreatDoor
open Go.RowKit
set_option linter.unusedVariables false
abbrev mostG:Nat:=1000000000000000
section
variable {w0:World} {T:List Nat} {R:Ru} {q:Nat}
def OutX (w0:World) (T:List Nat) (R:Ru) (q:Nat) (w:World) (nd:Nd) (p':Pst) (e:Ending) (w':World):Prop :=
 ∃ v,e = .returned v∧Rd w' (Nw w w') nd v∧Cx w0 T R q w' p'∧Kp q w w'
def XC (w0:World) (T:List Nat) (R:Ru) (q:Nat) (or:Rr Ex) (m:Nat):Prop:=∀ w p (r:Ex × Pst),Cx w0 T R q w p→p.g+m≤mostG→or p=some r →
 Calls Tryz.prog 171 #[at0 R.or.bb,at0 R.or.bm,at0 R.or.bp,at0 R.or.bs] w (OutX w0 T R q w r.1.nd r.2)
theorem Cx.grown {w w5 w7:World} {p0 p:Pst} {row:Option Nat} (h0:Cx w0 T R q w p0) (hc:Cx w0 T R q w5 p) (hk:Kp q w w5) (hg:w5.grownBy w7 row) (hrow:∀ g,row=some g→w.heap.size≤g):Cx w0 T R q w7 p∧Kp q w w7:=by
 have hk7:Kp q w w7:=⟨hg.os.trans hk.os,hg.tape.trans hk.tape,hg.output.trans hk.output,Nat.le_trans hk.size hg.size,fun i hi hb=>(hg.block i (Nat.lt_of_lt_of_le hi hk.size) (fun e=>by have:=hrow i e.symm; omega)).trans (hk.block i hi hb)⟩
 have h1:=h0.lt
 exact ⟨h0.on hk7 ((hg.block q hc.lt (fun e=>by have:=hrow q e.symm; omega)).trans hc.hp) hc.ok,hk7⟩
theorem name_sok {p p':Pst} {s:List Nat} (h:p.name T=(s,p')) (ok:Sok p.s):Sok s:=by
 unfold Pst.name at h
 split at h
 · cases h; exact ok
 · cases h; exact ⟨by simp,by simp⟩
theorem expr_info:(Tryz.prog.info? 276).map (fun i=>(i.zero,i.size,i.bytes))=some (some (.agg #[.int .u8 0,.string ⟨#[]⟩,.int .i64 0,.slice none 0 0]),4,56):=by kernel_rfl
theorem str_info:(Tryz.prog.info? 9).map (fun i=>(i.zero,i.size,i.bytes))=some (some (.string ⟨#[]⟩),1,16):=by kernel_rfl
set_option maxRecDepth 100000 in
set_option maxHeartbeats 4000000 in
theorem listX_any (ht : TxtOk w0 T) {or:Rr Ex} {m:Nat} (HX:XC w0 T R q or m) (hG:Gk or) (w:World) (p:Pst) (r:List (Ex) × Pst) (h:Cx w0 T R q w p) (k:Nat) (hk:k≤100000) (hg:p.g+m≤mostG) (hr:listF T or k p=some r) :
   Calls Tryz.prog 228 #[at0 q,lvF R.or] w (OutX w0 T R q w (.row 4 (r.1.map Ex.nd)) r.2):=by
 have HM:=Lib.hid (must_any ht h [40] ⟨#[40]⟩ rfl (by decide))
 have HS:=Lib.hid (fun w1 (h1:Cx w0 T R q w1 (p.must T [40]).2)=>sign_made ht h1 [[41]] #[.string ⟨#[41]⟩] 9 1 1 rfl rfl (by decide) (by decide))
 have hgm:=must_g T [40] p
 have hq:=h.lt
 have H0:=Lib.hid h
 unfold listF at hr
 have he:((strOf ((p.must T [40]).2.one T 5 [[41]]).1).toList.isEmpty)=decide (((p.must T [40]).2.one T 5 [[41]]).1=[]):=one_empty _
 have hgs:=one_g T 5 [[41]] (p.must T [40]).2
 obtain ⟨b1,p1,hP1⟩:∃ b1 p1,p.must T [40]=(b1,p1):=⟨_, _,rfl⟩
 rw [hP1] at HM HS hr hgm he hgs
 dsimp only at HM HS hr hgm he hgs
 obtain ⟨s2,p2,hP2⟩:∃ s2 p2,p1.one T 5 [[41]]=(s2,p2):=⟨_, _,rfl⟩
 rw [hP2] at HS hr he hgs
 dsimp only at HS hr he hgs
 clear hP1 hP2
 cases b1 with
 | false =>
   rw [if_pos rfl] at hr
   cases hr
   clear HS he hgm hgs HX hG hg ht h
   unfold at0 lvF at *
   go_enter Tryz.func228,Tryz.ntmps228
   go_wp2_with (first
     | (go_at_call 181
        refine HM.out.mono ?_
        rintro e w1 ⟨rfl,h1,hk1⟩)
     | (fail))
   go_ret
   exact ⟨_,rfl,Rd.nil _,h1,hk1⟩
 | true =>
   rw [if_neg (by decide)] at hr
   by_cases hs2:s2=[]
   · rw [if_neg (fun hh => hh hs2)] at hr
     rw [decide_eq_true hs2] at he
     subst hs2
     cases ho:or p2 with
     | none=>rw [ho] at hr; cases hr
     | some y =>
       obtain ⟨x,p3⟩:=y
       rw [ho] at hr
       dsimp only at hr
       have hg3:p3.g=p.g:=by have:=hG _ _ ho; rw [show p3.g = _ from this,hgs,hgm]
       have HX1:=Lib.hid (fun w' (h':Cx w0 T R q w' p2)=>HX w' p2 _ h' (by omega) ho)
       have HXX:=Lib.hid (fun w' p' (rr:Ex × Pst) (h':Cx w0 T R q w' p') (hg':p'.g=p.g) (ho':or p'=some rr)=>HX w' p' rr h' (by omega) ho')
       clear HX
       have HR:=Lib.hid hr
       have HG3:=Lib.hid hg3
       have HMM:=Lib.hid (fun p' w' (h':Cx w0 T R q w' p')=>must_any ht h' [41] ⟨#[41]⟩ rfl (by decide))
       have HSS:=Lib.hid (fun p' w' (h':Cx w0 T R q w' p')=>sign_made ht h' [[44]] #[.string ⟨#[44]⟩] 9 1 1 rfl rfl (by decide) (by decide))
       have HGG:=Lib.hid (fun p':Pst=>one_g T 5 [[44]] p')
       clear h hr ho hgm hgs ht hg3
       obtain ⟨i0,hi0,hz0,hz1,hz2⟩:=info_parts expr_info
       unfold at0 lvF at *
       go_enter Tryz.func228,Tryz.ntmps228
       go_wp2_with (first
         | (go_at_call 181
            refine HM.out.mono ?_
            rintro e w1 ⟨rfl,h1,hk1⟩
            have HH1:=Lib.hid h1
            have HK1:=Lib.hid hk1
            clear h1 hk1)
         | (go_at_call 172
            refine (HS.out _ HH1.out).mono ?_
            rintro e w2 ⟨rfl,h2,hk2⟩
            have HH2:=Lib.hid h2
            have HK2:=Lib.hid (HK1.out.trans hk2)
            clear h2 hk2)
         | (go_at_call 171
            refine (HX1.out _ HH2.out).mono ?_
            rintro e w3 ⟨v3,rfl,hx3,hc3,hk3⟩
            have HC3:=Lib.hid hc3
            have HK3:=Lib.hid (HK2.out.trans hk3)
            have HX3:=Lib.hid (hx3.early HK2.out.size)
            obtain ⟨k0,s0,n0,l0⟩:=x
            obtain ⟨y,rfl,-,-,-⟩:=(Ex.rd k0 s0 n0 l0 v3).1 hx3
            clear hc3 hk3 hx3)
         | (fail))
       have hsz2:w.heap.size≤w3.heap.size:=HK3.out.size
       go_loopg [5] k (fun g v wr=>∃ (l:List (Ex)) (L:List Nd) (pj:Pst),Hid (moreF T or g l pj=some r∧l.map Ex.nd=L)∧L.length+g≤200000∧Hid (pj.g=p.g)∧Hid (RowX w wr 276 4 v L)∧Hid (Cx w0 T R q wr pj)∧Hid (Kp q w wr))
       case atStart =>
         refine ⟨[_],[Ex.nd _],p3,Lib.hid ⟨HR.out,rfl⟩,by simp; omega,HG3,Lib.hid ?_,Lib.hid (HC3.out.alloc _),Lib.hid (HK3.out.alloc _)⟩
         exact RowX.lit w w3 _ _ _ 4 rfl hsz2 HX3.out
       case round =>
         obtain ⟨l,L,pj,HF,hlen,HGJ,HRow,HCj,HKj⟩:=hrel
         obtain ⟨Av,cv,rfl,hcv,hcmv⟩:=HRow.out.form
         cases gk with
         | zero=>exact absurd HF.out.1 (by simp [moreF])
         | succ g =>
           have hF:=HF.out.1
           have HLL:=Lib.hid HF.out.2
           rw [moreF] at hF
           have HS4:=Lib.hid (HSS.out pj wr HCj.out)
           have hg4:=HGG.out pj
           obtain ⟨s4,p4,hP4⟩:∃ s4 p4,pj.one T 5 [[44]]=(s4,p4):=⟨_, _,rfl⟩
           rw [hP4] at hF HS4 hg4
           dsimp only at hF HS4 hg4
           have he4:(strOf s4).toList.isEmpty=decide (s4=[]):=one_empty _
           have hszr:w.heap.size≤wr.heap.size:=HKj.out.size
           clear hP4
           by_cases h4:s4=[]
           · rw [if_pos h4] at hF
             rw [decide_eq_true h4] at he4
             cases hF
             clear HF h4 HXX HX1 HX3 HM HS HH1 HK1 HH2 HK2 HR hg4
             go_wp2_with (first
               | (go_at_call 172
                  refine HS4.out.mono ?_
                  rintro e w5 ⟨rfl,h5,hk5⟩
                  have HH5:=Lib.hid h5
                  have HK5:=Lib.hid hk5
                  clear h5 hk5)
               | (go_at_call 181
                  refine (HMM.out _ _ HH5.out).mono ?_
                  rintro e w6 ⟨rfl,h6,hk6⟩
                  have HH6:=Lib.hid h6
                  have HK6:=Lib.hid (HK5.out.trans hk6)
                  clear h6 hk6)
               | (fail))
             go_ret
             refine ⟨_,rfl,?_,HH6.out,HKj.out.trans HK6.out⟩
             show Rd _ _ (.row 4 (l.map Ex.nd)) _
             rw [HLL.out]
             exact (HRow.out.kp HK6.out hq).rd
           · rw [if_neg h4] at hF
             rw [decide_eq_false h4] at he4
             cases ho4:or p4 with
             | none=>rw [ho4] at hF; cases hF
             | some y4 =>
               obtain ⟨x4,p5⟩:=y4
               rw [ho4] at hF
               dsimp only at hF
               have HF5:=Lib.hid hF
               have HG5:Hid (p5.g=p.g):=Lib.hid (by have:=hG _ _ ho4; rw [show p5.g = _ from this,hg4,HGJ.out])
               have HX4:=Lib.hid (fun w' (h':Cx w0 T R q w' p4)=>HXX.out w' p4 _ h' (by rw [hg4,HGJ.out]) ho4)
               clear HF hF h4 HX1 HX3 HM HS HH1 HK1 HH2 HK2 HR hg4 ho4 HSS HMM HXX HGG
               go_wp2_with (first
                 | (go_at_call 172
                    refine HS4.out.mono ?_
                    rintro e w5 ⟨rfl,h5,hk5⟩
                    have HH5:=Lib.hid h5
                    have HK5:=Lib.hid hk5
                    clear h5 hk5)
                 | (go_at_call 171
                    refine (HX4.out _ HH5.out).mono ?_
                    rintro e w6 ⟨v6,rfl,hx6,hc6,hk6⟩
                    have HC6:=Lib.hid hc6
                    have HK6:=Lib.hid (HK5.out.trans hk6)
                    have HX6:=Lib.hid (hx6.early HK5.out.size)
                    obtain ⟨k4,s5,n4,l4⟩:=x4
                    obtain ⟨y5,rfl,-,-,hy5⟩:=(Ex.rd k4 s5 n4 l4 v6).1 hx6
                    have Y5:Hid (y5.oneCell'=true):=Lib.hid (by rw [Rd] at hy5; obtain ⟨A,c,rfl,-⟩:=hy5; rfl)
                    have HRA:=Lib.hid (fun o=>(HRow.out.kp HK6.out hq).kp ((Kp.refl q w6).alloc o) hq)
                    clear hc6 hk6 hx6 hy5)
                 | (at_builtin
                    obtain ⟨xs,ho5,hf5⟩:=HRA.out (.cells #[.int .u8 (k4:Int),.string (strOf s5),.int .i64 n4,y5] 276)
                    have hs6:w.heap.size≤w6.heap.size:=Nat.le_trans hszr HK6.out.size
                    refine wpList_append_at _ rfl (.tmp 22) (.tmp 25) 216 rfl w.heap.size 276 i0 _ 4 56 Tryz.underlying216 hi0 hz0 hz1 hz2 rfl (by omega) _ _ xs rfl ho5 _ _ 1 1 [.int .u8 (k4:Int),.string (strOf s5),.int .i64 n4,y5] rfl (At.made _ _ _) rfl (by intro u hu; simp at hu; rcases hu with rfl | rfl | rfl | rfl <;> first | rfl | exact Y5.out) (by unfold maxLen; omega) (by omega) (by simp; omega) ?_
                    intro v' w7 ho7 hg7 hor7
                    have hx5:Rd (w6.alloc (.cells #[.int .u8 (k4:Int),.string (strOf s5),.int .i64 n4,y5] 276)) (fun b=>Nw w (w6.alloc (.cells #[.int .u8 (k4:Int),.string (strOf s5),.int .i64 n4,y5] 276)) b∧some b≠(Value.slice Av L.length cv).ownBlock) (Ex.nd (.mk k4 s5 n4 l4)) (.agg #[.int .u8 (k4:Int),.string (strOf s5),.int .i64 n4,y5]):=by
                      refine Rd.keep (fun p hp=>((Below.refl _ w6).alloc (Nat.le_refl _) _).cell hp.2) (fun b hb=>⟨⟨Nat.le_trans hszr hb.1,by have:=hb.2; simp; omega⟩,?_⟩) _ _ HX6.out
                      rcases own_ge HRow.out.choose_spec.1 with e | ⟨g',e,-,e2⟩
                      · rw [e]; simp
                      · rw [e]
                        intro e3
                        have:=Option.some.inj e3
                        have:=hb.1
                        omega
                    have HR7:=Lib.hid (RowX.snoc (x:=Ex.nd (.mk k4 s5 n4 l4)) (news:=[.int .u8 (k4:Int),.string (strOf s5),.int .i64 n4,y5]) ho5 hf5 hx5 rfl ho7 hg7 hor7)
                    have hcg:=Cx.grown H0.out (HC6.out.alloc _) ((HKj.out.trans HK6.out).alloc _) hg7 (fun g' e0=>by
                      have e:(Value.slice Av L.length cv).ownBlock=some g':=e0
                      rcases own_ge HRow.out.choose_spec.1 with e2 | ⟨g2,e2,e3,-⟩
                      · rw [e2] at e; cases e
                      · rw [e2] at e
                        have:=Option.some.inj e
                        omega)
                    have HC7:=Lib.hid hcg.1
                    have HK7:=Lib.hid hcg.2
                    clear hcg
                    clear ho5 hf5 hx5 ho7 hg7 hor7)
                 | (fail))
               go_roundg g
               case measure=>omega
               case rel=>exact ⟨l ++ [_],L ++ [_],p5,Lib.hid ⟨HF5.out,by rw [List.map_append,HLL.out]; rfl⟩,by simp; omega,HG5,HR7,HC7,HK7⟩
   · rw [if_pos hs2] at hr
     rw [decide_eq_false hs2] at he
     cases hr
     clear hgm hgs ht h HX hG hg
     unfold at0 lvF at *
     go_enter Tryz.func228,Tryz.ntmps228
     go_wp2_with (first
       | (go_at_call 181
          refine HM.out.mono ?_
          rintro e w1 ⟨rfl,h1,hk1⟩
          have HH1:=Lib.hid h1
          have HK1:=Lib.hid hk1
          clear h1 hk1)
       | (go_at_call 172
          refine (HS.out _ HH1.out).mono ?_
          rintro e w2 ⟨rfl,h2,hk2⟩
          have HH2:=Lib.hid h2
          have HK2:=Lib.hid (HK1.out.trans hk2)
          clear h2 hk2)
       | (fail))
     go_ret
     exact ⟨_,rfl,Rd.nil _,HH2.out,HK2.out⟩
set_option maxRecDepth 100000 in
set_option maxHeartbeats 4000000 in
theorem listN_any (ht : TxtOk w0 T) (w:World) (p:Pst) (r:List (List Nat) × Pst) (h:Cx w0 T R q w p) (k:Nat) (hk:k≤100000) (hr:listF T (nameP T) k p=some r) :
   Calls Tryz.prog 179 #[at0 q,.func (.func 178) #[at0 q] #[]] w (OutX w0 T R q w (.row 1 (r.1.map nmNd)) r.2):=by
 have HM:=Lib.hid (must_any ht h [40] ⟨#[40]⟩ rfl (by decide))
 have HS:=Lib.hid (fun w1 (h1:Cx w0 T R q w1 (p.must T [40]).2)=>sign_made ht h1 [[41]] #[.string ⟨#[41]⟩] 9 1 1 rfl rfl (by decide) (by decide))
 have hgm:=must_g T [40] p
 have hq:=h.lt
 have H0:=Lib.hid h
 unfold listF at hr
 have he:((strOf ((p.must T [40]).2.one T 5 [[41]]).1).toList.isEmpty)=decide (((p.must T [40]).2.one T 5 [[41]]).1=[]):=one_empty _
 have hgs:=one_g T 5 [[41]] (p.must T [40]).2
 obtain ⟨b1,p1,hP1⟩:∃ b1 p1,p.must T [40]=(b1,p1):=⟨_, _,rfl⟩
 rw [hP1] at HM HS hr hgm he hgs
 dsimp only at HM HS hr hgm he hgs
 obtain ⟨s2,p2,hP2⟩:∃ s2 p2,p1.one T 5 [[41]]=(s2,p2):=⟨_, _,rfl⟩
 rw [hP2] at HS hr he hgs
 dsimp only at HS hr he hgs
 clear hP1 hP2
 cases b1 with
 | false =>
   rw [if_pos rfl] at hr
   cases hr
   clear HS he hgm hgs ht h
   unfold at0 at *
   go_enter Tryz.func179,Tryz.ntmps179
   go_wp2_with (first
     | (go_at_call 181
        refine HM.out.mono ?_
        rintro e w1 ⟨rfl,h1,hk1⟩)
     | (fail))
   go_ret
   exact ⟨_,rfl,Rd.nil _,h1,hk1⟩
 | true =>
   rw [if_neg (by decide)] at hr
   by_cases hs2:s2=[]
   · rw [if_neg (fun hh => hh hs2)] at hr
     rw [decide_eq_true hs2] at he
     subst hs2
     cases ho:(nameP T) p2 with
     | none=>rw [ho] at hr; cases hr
     | some y =>
       obtain ⟨x,p3⟩:=y
       rw [ho] at hr
       dsimp only at hr
       have hg3:p3.g=p.g:=by have:=(show p3.g=p2.g by have e:=name_g T p2; rw [show p2.name T=(x,p3) from Option.some.inj ho] at e; exact e); rw [show p3.g = _ from this,hgs,hgm]
       have HX1:=Lib.hid (fun w' (h':Cx w0 T R q w' p2)=>name_any' ht h')
       have HXX:=Lib.hid (fun w' p' (h':Cx w0 T R q w' p')=>name_any' ht h')
       have hx1:(p2.name T)=(x,p3):=Option.some.inj ho
       rw [hx1] at HX1
       have NXX:=Lib.hid hx1
       clear hx1
       have HR:=Lib.hid hr
       have HG3:=Lib.hid hg3
       have HMM:=Lib.hid (fun p' w' (h':Cx w0 T R q w' p')=>must_any ht h' [41] ⟨#[41]⟩ rfl (by decide))
       have HSS:=Lib.hid (fun p' w' (h':Cx w0 T R q w' p')=>sign_made ht h' [[44]] #[.string ⟨#[44]⟩] 9 1 1 rfl rfl (by decide) (by decide))
       have HGG:=Lib.hid (fun p':Pst=>one_g T 5 [[44]] p')
       clear h hr ho hgm hgs ht hg3
       obtain ⟨i0,hi0,hz0,hz1,hz2⟩:=info_parts str_info
       unfold at0 at *
       go_enter Tryz.func179,Tryz.ntmps179
       go_wp2_with (first
         | (go_at_call 181
            refine HM.out.mono ?_
            rintro e w1 ⟨rfl,h1,hk1⟩
            have HH1:=Lib.hid h1
            have HK1:=Lib.hid hk1
            clear h1 hk1)
         | (go_at_call 172
            refine (HS.out _ HH1.out).mono ?_
            rintro e w2 ⟨rfl,h2,hk2⟩
            have HH2:=Lib.hid h2
            have HK2:=Lib.hid (HK1.out.trans hk2)
            clear h2 hk2)
         | (go_at_call 178
            refine (HX1.out _ HH2.out).mono ?_
            rintro e w3 ⟨rfl,hc3,hk3⟩
            have NOK:=Lib.hid (name_sok NXX.out HH2.out.ok)
            have HC3:=Lib.hid hc3
            have HK3:=Lib.hid (HK2.out.trans hk3)
            have HX3:Hid (Rd w3 (Nw w w3) (nmNd x) (.agg #[.string (strOf x)])):=Lib.hid ((nm_rd x _).2 ⟨rfl,NOK.out.1,by have:=NOK.out.2; omega⟩)
            clear hc3 hk3)
         | (fail))
       have hsz2:w.heap.size≤w3.heap.size:=HK3.out.size
       go_loopg [5] k (fun g v wr=>∃ (l:List (List Nat)) (L:List Nd) (pj:Pst),Hid (moreF T (nameP T) g l pj=some r∧l.map nmNd=L)∧L.length+g≤200000∧Hid (pj.g=p.g)∧Hid (RowX w wr 9 1 v L)∧Hid (Cx w0 T R q wr pj)∧Hid (Kp q w wr))
       case atStart =>
         refine ⟨[_],[nmNd _],p3,Lib.hid ⟨HR.out,rfl⟩,by simp; omega,HG3,Lib.hid ?_,Lib.hid (HC3.out.alloc _),Lib.hid (HK3.out.alloc _)⟩
         exact RowX.lit w w3 _ _ _ 1 rfl hsz2 HX3.out
       case round =>
         obtain ⟨l,L,pj,HF,hlen,HGJ,HRow,HCj,HKj⟩:=hrel
         obtain ⟨Av,cv,rfl,hcv,hcmv⟩:=HRow.out.form
         cases gk with
         | zero=>exact absurd HF.out.1 (by simp [moreF])
         | succ g =>
           have hF:=HF.out.1
           have HLL:=Lib.hid HF.out.2
           rw [moreF] at hF
           have HS4:=Lib.hid (HSS.out pj wr HCj.out)
           have hg4:=HGG.out pj
           obtain ⟨s4,p4,hP4⟩:∃ s4 p4,pj.one T 5 [[44]]=(s4,p4):=⟨_, _,rfl⟩
           rw [hP4] at hF HS4 hg4
           dsimp only at hF HS4 hg4
           have he4:(strOf s4).toList.isEmpty=decide (s4=[]):=one_empty _
           have hszr:w.heap.size≤wr.heap.size:=HKj.out.size
           clear hP4
           by_cases h4:s4=[]
           · rw [if_pos h4] at hF
             rw [decide_eq_true h4] at he4
             cases hF
             clear HF h4 HXX HX1 HX3 HM HS HH1 HK1 HH2 HK2 HR hg4
             go_wp2_with (first
               | (go_at_call 172
                  refine HS4.out.mono ?_
                  rintro e w5 ⟨rfl,h5,hk5⟩
                  have HH5:=Lib.hid h5
                  have HK5:=Lib.hid hk5
                  clear h5 hk5)
               | (go_at_call 181
                  refine (HMM.out _ _ HH5.out).mono ?_
                  rintro e w6 ⟨rfl,h6,hk6⟩
                  have HH6:=Lib.hid h6
                  have HK6:=Lib.hid (HK5.out.trans hk6)
                  clear h6 hk6)
               | (fail))
             go_ret
             refine ⟨_,rfl,?_,HH6.out,HKj.out.trans HK6.out⟩
             show Rd _ _ (.row 1 (l.map nmNd)) _
             rw [HLL.out]
             exact (HRow.out.kp HK6.out hq).rd
           · rw [if_neg h4] at hF
             rw [decide_eq_false h4] at he4
             cases ho4:(nameP T) p4 with
             | none=>rw [ho4] at hF; cases hF
             | some y4 =>
               obtain ⟨x4,p5⟩:=y4
               rw [ho4] at hF
               dsimp only at hF
               have HF5:=Lib.hid hF
               have HG5:Hid (p5.g=p.g):=Lib.hid (by have:=(show p5.g=p4.g by have e:=name_g T p4; rw [show p4.name T=(x4,p5) from Option.some.inj ho4] at e; exact e); rw [show p5.g = _ from this,hg4,HGJ.out])
               have hx4:p4.name T=(x4,p5):=Option.some.inj ho4
               have HX4:=Lib.hid (fun w' (h':Cx w0 T R q w' p4)=>HXX.out w' p4 h')
               rw [hx4] at HX4
               have NX4:=Lib.hid hx4
               clear hx4
               clear HF hF h4 HX1 HX3 HM HS HH1 HK1 HH2 HK2 HR hg4 ho4 HSS HMM HXX HGG
               go_wp2_with (first
                 | (go_at_call 172
                    refine HS4.out.mono ?_
                    rintro e w5 ⟨rfl,h5,hk5⟩
                    have HH5:=Lib.hid h5
                    have HK5:=Lib.hid hk5
                    clear h5 hk5)
                 | (go_at_call 178
                    refine (HX4.out _ HH5.out).mono ?_
                    rintro e w6 ⟨rfl,hc6,hk6⟩
                    have NOK4:=Lib.hid (name_sok NX4.out HH5.out.ok)
                    have HC6:=Lib.hid hc6
                    have HK6:=Lib.hid (HK5.out.trans hk6)
                    have HX6:Hid (Rd w6 (Nw wr w6) (nmNd x4) (.agg #[.string (strOf x4)])):=Lib.hid ((nm_rd x4 _).2 ⟨rfl,NOK4.out.1,by have:=NOK4.out.2; omega⟩)
                    have HRA:=Lib.hid (fun o=>(HRow.out.kp HK6.out hq).kp ((Kp.refl q w6).alloc o) hq)
                    clear hc6 hk6)
                 | (at_builtin
                    obtain ⟨xs,ho5,hf5⟩:=HRA.out (.cells #[.string (strOf x4)] 9)
                    have hs6:w.heap.size≤w6.heap.size:=Nat.le_trans hszr HK6.out.size
                    refine wpList_append_at _ rfl (.tmp 22) (.tmp 25) 29 rfl w.heap.size 9 i0 _ 1 16 Tryz.underlying29 hi0 hz0 hz1 hz2 rfl (by omega) _ _ xs rfl ho5 _ _ 1 1 [.string (strOf x4)] rfl (At.made _ _ _) rfl (by intro u hu; simp at hu; subst hu; rfl) (by unfold maxLen; omega) (by omega) (by simp; omega) ?_
                    intro v' w7 ho7 hg7 hor7
                    have hx5:Rd (w6.alloc (.cells #[.string (strOf x4)] 9)) (fun b=>Nw w (w6.alloc (.cells #[.string (strOf x4)] 9)) b∧some b≠(Value.slice Av L.length cv).ownBlock) (nmNd x4) (.agg #[.string (strOf x4)]):=by
                      refine Rd.keep (fun p hp=>((Below.refl _ w6).alloc (Nat.le_refl _) _).cell hp.2) (fun b hb=>⟨⟨Nat.le_trans hszr hb.1,by have:=hb.2; simp; omega⟩,?_⟩) _ _ HX6.out
                      rcases own_ge HRow.out.choose_spec.1 with e | ⟨g',e,-,e2⟩
                      · rw [e]; simp
                      · rw [e]
                        intro e3
                        have:=Option.some.inj e3
                        have:=hb.1
                        omega
                    have HR7:=Lib.hid (RowX.snoc (x:=nmNd x4) (news:=[.string (strOf x4)]) ho5 hf5 hx5 rfl ho7 hg7 hor7)
                    have hcg:=Cx.grown H0.out (HC6.out.alloc _) ((HKj.out.trans HK6.out).alloc _) hg7 (fun g' e0=>by
                      have e:(Value.slice Av L.length cv).ownBlock=some g':=e0
                      rcases own_ge HRow.out.choose_spec.1 with e2 | ⟨g2,e2,e3,-⟩
                      · rw [e2] at e; cases e
                      · rw [e2] at e
                        have:=Option.some.inj e
                        omega)
                    have HC7:=Lib.hid hcg.1
                    have HK7:=Lib.hid hcg.2
                    clear hcg
                    clear ho5 hf5 hx5 ho7 hg7 hor7)
                 | (fail))
               go_roundg g
               case measure=>omega
               case rel=>exact ⟨l ++ [_],L ++ [_],p5,Lib.hid ⟨HF5.out,by rw [List.map_append,HLL.out]; rfl⟩,by simp; omega,HG5,HR7,HC7,HK7⟩
   · rw [if_pos hs2] at hr
     rw [decide_eq_false hs2] at he
     cases hr
     clear hgm hgs ht h
     unfold at0 at *
     go_enter Tryz.func179,Tryz.ntmps179
     go_wp2_with (first
       | (go_at_call 181
          refine HM.out.mono ?_
          rintro e w1 ⟨rfl,h1,hk1⟩
          have HH1:=Lib.hid h1
          have HK1:=Lib.hid hk1
          clear h1 hk1)
       | (go_at_call 172
          refine (HS.out _ HH1.out).mono ?_
          rintro e w2 ⟨rfl,h2,hk2⟩
          have HH2:=Lib.hid h2
          have HK2:=Lib.hid (HK1.out.trans hk2)
          clear h2 hk2)
       | (fail))
     go_ret
     exact ⟨_,rfl,Rd.nil _,HH2.out,HK2.out⟩
end
end Go.Proofs.YtcmopnkldplngabGreatDoor
namespace Go.Proofs.YtcmopnkldplngabGreatDoor
open Go.RowKit
set_option linter.unusedVariables false
def P4 (X:World) (g:Nat) (z0 z1 z2 z3:Value):World:=(((X.setCell ⟨g,0,none⟩ z0).setCell ⟨g,1,none⟩ z1).setCell ⟨g,2,none⟩ z2).setCell ⟨g,3,none⟩ z3
theorem cell_ne {w:World} {g i:Nat} {v:Value} {p:Addr} (h:p.block≠g):(w.setCell ⟨g,i,none⟩ v).cell? p=w.cell? p:=by
 unfold World.cell? World.setCell
 dsimp only
 rw [Array.getElem?_modify,if_neg (fun e=>h e.symm)]
def exZ:Obj := .cells #[.int .u8 0,.string ⟨#[]⟩,.int .i64 0,.slice none 0 0] 276
section
variable {w0 w X:World} {T:List Nat} {R:Ru} {q g:Nat} {p0 p:Pst} {z0 z1 z2 z3:Value} {S:Nat→Prop} {nd:Nd} {v:Value}
theorem Rd.row_form {sz:Nat} {l:List Nd} (h:Rd X S (.row sz l) v):∃ A n c,v = .slice A n c:=by
 rw [Rd] at h
 obtain ⟨A,c,rfl,-⟩:=h
 exact ⟨A, _,c,rfl⟩
theorem p4_size:(P4 X g z0 z1 z2 z3).heap.size=X.heap.size:=by unfold P4; simp
theorem p4_cell {a:Addr} (h:a.block≠g):(P4 X g z0 z1 z2 z3).cell? a=X.cell? a:=by
 unfold P4
 rw [cell_ne h,cell_ne h,cell_ne h,cell_ne h]
theorem p4_heap {k:Nat} {o:Obj} (h:X.heap[k]?=some o) (hk:k≠g):(P4 X g z0 z1 z2 z3).heap[k]?=some o:=heap_set_ne (heap_set_ne (heap_set_ne (heap_set_ne h hk 0 z0) hk 1 z1) hk 2 z2) hk 3 z3
theorem Rd.p4 (h:Rd X S nd v) (hS:∀ b,S b→b≠g):Rd (P4 X g z0 z1 z2 z3) S nd v:=Rd.keep (fun a ha=>p4_cell (hS _ ha)) (fun _ h=>h) _ _ h
theorem Kp.p4 (h:Kp q w X) (hg:w.heap.size≤g):Kp q w (P4 X g z0 z1 z2 z3):=(((h.setNew (p:=⟨g,0,none⟩) hg z0).setNew (p:=⟨g,1,none⟩) hg z1).setNew (p:=⟨g,2,none⟩) hg z2).setNew (p:=⟨g,3,none⟩) hg z3
theorem Cx.p4 (h0:Cx w0 T R q w p0) (hc:Cx w0 T R q X p) (hk:Kp q w X) (hg:w.heap.size≤g):Cx w0 T R q (P4 X g z0 z1 z2 z3) p:=by
 have:=h0.lt
 exact h0.on (hk.p4 hg) (p4_heap hc.hp (by omega)) hc.ok
theorem endX (h0:Cx w0 T R q w p0) (hc:Cx w0 T R q X p) (hk:Kp q w X) (hg:w.heap.size≤g) (hx:Rd X S nd (.agg #[z0,z1,z2,z3])) (hS:∀ b,S b→b≠g∧Nw w X b) :
   OutX w0 T R q w nd p (.returned (.agg #[z0,z1,z2,z3])) (P4 X g z0 z1 z2 z3) :=
 ⟨_,rfl,Rd.keep (fun _ _ => rfl) (fun b hb=>⟨(hS b hb).2.1,by rw [p4_size]; exact (hS b hb).2.2⟩) _ _ (hx.p4 fun b hb=>(hS b hb).1),h0.p4 hc hk hg,hk.p4 hg⟩
theorem p4_alloc_heap (o:Obj) (hg:g<X.heap.size) {k:Nat} (hk:k≠g):((P4 X g z0 z1 z2 z3).alloc o).heap[k]?=(X.alloc o).heap[k]?:=by
 have hs:(P4 X g z0 z1 z2 z3).heap.size=X.heap.size:=p4_size
 by_cases h1:k<X.heap.size
 · rw [Below.heap_alloc _ o k (by omega),Below.heap_alloc _ o k h1]
   unfold P4 World.setCell
   simp only [Array.getElem?_modify]
   rw [if_neg (fun e=>hk e.symm),if_neg (fun e=>hk e.symm),if_neg (fun e=>hk e.symm),if_neg (fun e=>hk e.symm)]
 · by_cases h2:k=X.heap.size
   · subst h2
     rw [heap_new X o,← hs]
     exact heap_new _ o
   · rw [Array.getElem?_eq_none (by simp; omega),Array.getElem?_eq_none (by simp; omega)]
theorem p4_alloc_cell (o:Obj) (hg:g<X.heap.size) {a:Addr} (ha:a.block≠g):((P4 X g z0 z1 z2 z3).alloc o).cell? a=(X.alloc o).cell? a:=by
 have:=p4_alloc_heap (z0:=z0) (z1:=z1) (z2:=z2) (z3:=z3) o hg ha
 unfold World.cell?
 rw [this]
theorem endXo (o:Obj) (h0:Cx w0 T R q w p0) (hc:Cx w0 T R q X p) (hk:Kp q w X) (hg:w.heap.size≤g) (hgX:g<X.heap.size) (hx:Rd (X.alloc o) S nd (.agg #[z0,z1,z2,z3])) (hS:∀ b,S b→b≠g∧Nw w (X.alloc o) b) :
   OutX w0 T R q w nd p (.returned (.agg #[z0,z1,z2,z3])) ((P4 X g z0 z1 z2 z3).alloc o) :=
 ⟨_,rfl,Rd.keep (fun a ha=>p4_alloc_cell o hgX (hS _ ha).1) (fun b hb=>⟨(hS b hb).2.1,by have:=(hS b hb).2.2; simp at this ⊢; rw [p4_size]; exact this⟩) _ _ hx,(h0.p4 hc hk hg).alloc o,(hk.p4 hg).alloc o⟩
end
section
variable {w0:World} {T:List Nat} {R:Ru} {q:Nat} {or:Rr Ex} {m:Nat}
set_option maxRecDepth 100000 in
set_option maxHeartbeats 1600000 in
theorem withX_any (ht:TxtOk w0 T) (HX:XC w0 T R q or m) (hG:Gk or) (w:World) (p:Pst) (r:Ex × Pst) (h:Cx w0 T R q w p) (k kind:Nat) (hk:k≤100000) (hg:p.g+m≤mostG) (hr:withF T or k kind p=some r) :
   Calls Tryz.prog 254 #[at0 q,.int .u8 (kind:Int)] w (OutX w0 T R q w r.1.nd r.2):=by
 have HN:=Lib.hid (name_any' ht (h.alloc exZ))
 have hgn:=name_g T p
 unfold withF at hr
 have HOK:=Lib.hid (fun s p' (e:p.name T=(s,p'))=>name_sok e h.ok)
 obtain ⟨s,p1,hP⟩:∃ s p1,p.name T=(s,p1):=⟨_, _,rfl⟩
 have HSK:=Lib.hid (HOK.out _ _ hP)
 rw [hP] at HN hr hgn
 dsimp only at HN hr hgn
 cases hl:listF T or k p1 with
 | none=>rw [hl] at hr; cases hr
 | some y =>
   obtain ⟨l,p2⟩:=y
   rw [hl] at hr
   cases hr
   have HL:=Lib.hid (fun w' (h':Cx w0 T R q w' p1)=>listX_any ht HX hG w' p1 (l,p2) h' k hk (by omega) hl)
   have H0:=Lib.hid h
   have HZ:=Lib.hid (heap_new w exZ)
   have hq:=h.lt
   have hqa:¬ w.heap.size=q:=by omega
   clear h ht HX hG hl hP hgn hg HOK
   unfold at0 lvF exZ at *
   go_enter Tryz.func254,Tryz.ntmps254
   go_wp2_with (first
     | (go_at_call 178
        refine HN.out.mono ?_
        rintro e w2 ⟨rfl,h2,hk2⟩
        have HC2:=Lib.hid h2
        have HK2:=Lib.hid (((Kp.refl q w).alloc _).trans hk2)
        have HZ2:=Lib.hid (hk2.heap HZ.out hqa)
        have hlt2:=h2.lt
        obtain ⟨⟨-,-,-,-,-,-,-,-,-,-,c10⟩,-⟩:=box11 h2.hp
        unfold lvF at0 at c10
        clear h2 hk2)
     | (go_at_call 228
        refine (HL.out _ HC2.out).mono ?_
        rintro e w3 ⟨v3,rfl,hx3,h3,hk3⟩
        have HC3:=Lib.hid h3
        have HK3:=Lib.hid (HK2.out.trans hk3)
        have HZ3:=Lib.hid (hk3.heap HZ2.out hqa)
        have hz3:=lt_heap HZ3.out
        obtain ⟨A3,n3,c3,rfl⟩:=hx3.row_form
        have HX3:=Lib.hid hx3
        have HE2:=Lib.hid (lt_heap HZ2.out)
        obtain ⟨⟨d0,d1,d2,d3⟩,f0,f1,f2,f3⟩:=box4f HZ3.out
        clear h3 hk3 hx3)
     | (fail))
   obtain ⟨⟨e0,e1,e2,e3⟩,-⟩:=box4f (set4 HZ3.out (.int .u8 (kind:Int)) (.string (strOf s)) (.int .i64 0) (.slice A3 n3 c3))
   refine bodyPost_ret (v := .agg #[.int .u8 (kind:Int),.string (strOf s),.int .i64 0,.slice A3 n3 c3]) (by simp [results,Tryz.results254,go_sem,e0,e1,e2,e3]) rfl ?_
   refine endX H0.out HC3.out HK3.out (Nat.le_refl _) ((Ex.rd kind s 0 l _).2 ⟨_,rfl,HSK.out.1,by have:=HSK.out.2; omega,HX3.out⟩) (fun b hb=>⟨by have:=hb.1; have:=HE2.out; omega,Nat.le_trans HK2.out.size hb.1,hb.2⟩)
set_option maxHeartbeats 800000 in
theorem key_at {w:World} {p:Pst} (ht:TxtOk w0 T) (h:Cx w0 T R q w p) (says:List (List Nat)) (arr:Array Value) (t:TypeId) (c n g:Nat) (hg:g=w.heap.size) (hn:n=says.length) (ha:arr.toList=says.map fun s=>Value.string (strOf s)) (h8:∀ t∈says,∀ x∈t,x<256) (hl:says.length≤1000) :
   Calls Tryz.prog 143 #[at0 q,.slice (some ⟨g,0,none⟩) n c] (w.alloc (.cells arr t)) fun e w'=>e = .returned (.string (strOf (p.one T 4 says).1))∧Cx w0 T R q w' (p.one T 4 says).2∧Kp q w w':=by
 subst hg
 exact key_made ht h says arr t c n hn ha h8 hl
set_option maxRecDepth 100000 in
set_option maxHeartbeats 4000000 in
theorem keyed_any (ht:TxtOk w0 T) (HX:XC w0 T R q or m) (hG:Gk or) (w:World) (p:Pst) (r:Ex × Pst) (h:Cx w0 T R q w p) (k:Nat) (hk:k≤100000) (hg:p.g+m≤mostG) (hr:keyedF T or k p=some r) :
   Calls Tryz.prog 227 #[at0 q] w (OutX w0 T R q w r.1.nd r.2):=by
 have HO:=Lib.hid (fun t=>key_at ht (h.alloc exZ) keysE #[.string ⟨#[116,114,117,101]⟩,.string ⟨#[102,97,108,115,101]⟩,.string ⟨#[115,101,108,102]⟩,.string ⟨#[108,101,110]⟩,.string ⟨#[99,97,108,108]⟩,.string ⟨#[115,112,97,119,110]⟩] t 6 6 (w.heap.size+1) (by simp) rfl rfl (by decide) (by decide))
 have hs:=(one_sok ht 4 keysE h.ok).1.1
 have q0:=key_eq' _ [116,114,117,101] hs [116,114,117,101] rfl (by decide)
 have q1:=key_eq' _ [102,97,108,115,101] hs [102,97,108,115,101] rfl (by decide)
 have q2:=key_eq' _ [115,101,108,102] hs [115,101,108,102] rfl (by decide)
 have q3:=key_eq' _ [108,101,110] hs [108,101,110] rfl (by decide)
 have q4:=key_eq' _ [99,97,108,108] hs [99,97,108,108] rfl (by decide)
 have q5:=key_eq' _ [115,112,97,119,110] hs [115,112,97,119,110] rfl (by decide)
 unfold keyedF at hr
 have hg1:=one_g T 4 keysE p
 obtain ⟨s,p1,hP⟩:∃ s p1,p.one T 4 keysE=(s,p1):=⟨_, _,rfl⟩
 rw [hP] at HO hr hg1 q0 q1 q2 q3 q4 q5
 dsimp only at HO hr hg1 q0 q1 q2 q3 q4 q5
 have H0:=Lib.hid h
 have HZ:=Lib.hid (heap_new w exZ)
 have hq:=h.lt
 have hqa:¬ w.heap.size=q:=by omega
 clear hs hP
 by_cases k0:s=[116,114,117,101]
 · rw [if_pos k0] at hr
   rw [decide_eq_true k0] at q0
   clear k0 q1 q2 q3 q4 q5
   generalize strOf s=S at *
   cases hr
   clear ht HX hG hg hg1 h
   unfold at0 exZ at *
   go_enter Tryz.func227,Tryz.ntmps227
   go_wp2_with (first
     | (go_at_call 143
        refine (HO.out _).mono ?_
        rintro e w2 ⟨rfl,h2,hk2⟩
        have HC2:=Lib.hid h2
        have HK2:=Lib.hid (((Kp.refl q w).alloc _).trans hk2)
        have HZ2:=Lib.hid (hk2.heap HZ.out hqa)
        have hz2:=lt_heap HZ2.out
        obtain ⟨⟨d0,d1,d2,d3⟩,f0,f1,f2,f3⟩:=box4f HZ2.out
        clear h2 hk2)
     | (fail))
   obtain ⟨⟨e0,e1,e2,e3⟩,-⟩:=box4f (set4 HZ2.out (.int .u8 2) (.string ⟨#[]⟩) (.int .i64 1) (.slice none 0 0))
   refine bodyPost_ret (v := .agg #[.int .u8 2,.string ⟨#[]⟩,.int .i64 1,.slice none 0 0]) (by simp [results,Tryz.results227,go_sem,e0,e1,e2,e3]) rfl ?_
   exact endX H0.out HC2.out HK2.out (Nat.le_refl _) ((Ex.rd (S:=fun _ => False) 2 [] 1 [] _).2 ⟨_,rfl,by simp,by simp,Rd.nil _⟩) (fun _ hb=>hb.elim)
 · rw [if_neg k0] at hr
   rw [decide_eq_false k0] at q0
   clear k0
   by_cases k1:s=[102,97,108,115,101]
   · rw [if_pos k1] at hr
     rw [decide_eq_true k1] at q1
     clear k1 q2 q3 q4 q5
     generalize strOf s=S at *
     cases hr
     clear ht HX hG hg hg1 h
     unfold at0 exZ at *
     go_enter Tryz.func227,Tryz.ntmps227
     go_wp2_with (first
       | (go_at_call 143
          refine (HO.out _).mono ?_
          rintro e w2 ⟨rfl,h2,hk2⟩
          have HC2:=Lib.hid h2
          have HK2:=Lib.hid (((Kp.refl q w).alloc _).trans hk2)
          have HZ2:=Lib.hid (hk2.heap HZ.out hqa)
          have hz2:=lt_heap HZ2.out
          obtain ⟨⟨d0,d1,d2,d3⟩,f0,f1,f2,f3⟩:=box4f HZ2.out
          clear h2 hk2)
       | (fail))
     obtain ⟨⟨e0,e1,e2,e3⟩,-⟩:=box4f (set4 HZ2.out (.int .u8 2) (.string ⟨#[]⟩) (.int .i64 0) (.slice none 0 0))
     refine bodyPost_ret (v := .agg #[.int .u8 2,.string ⟨#[]⟩,.int .i64 0,.slice none 0 0]) (by simp [results,Tryz.results227,go_sem,e0,e1,e2,e3]) rfl ?_
     exact endX H0.out HC2.out HK2.out (Nat.le_refl _) ((Ex.rd (S:=fun _ => False) 2 [] 0 [] _).2 ⟨_,rfl,by simp,by simp,Rd.nil _⟩) (fun _ hb=>hb.elim)
   · rw [if_neg k1] at hr
     rw [decide_eq_false k1] at q1
     clear k1
     by_cases k2:s=[115,101,108,102]
     · rw [if_pos k2] at hr
       rw [decide_eq_true k2] at q2
       clear k2 q3 q4 q5
       generalize strOf s=S at *
       cases hr
       clear ht HX hG hg hg1 h
       unfold at0 exZ at *
       go_enter Tryz.func227,Tryz.ntmps227
       go_wp2_with (first
         | (go_at_call 143
            refine (HO.out _).mono ?_
            rintro e w2 ⟨rfl,h2,hk2⟩
            have HC2:=Lib.hid h2
            have HK2:=Lib.hid (((Kp.refl q w).alloc _).trans hk2)
            have HZ2:=Lib.hid (hk2.heap HZ.out hqa)
            have hz2:=lt_heap HZ2.out
            obtain ⟨⟨d0,d1,d2,d3⟩,f0,f1,f2,f3⟩:=box4f HZ2.out
            clear h2 hk2)
         | (fail))
       obtain ⟨⟨e0,e1,e2,e3⟩,-⟩:=box4f (set4 HZ2.out (.int .u8 5) (.string ⟨#[]⟩) (.int .i64 0) (.slice none 0 0))
       refine bodyPost_ret (v := .agg #[.int .u8 5,.string ⟨#[]⟩,.int .i64 0,.slice none 0 0]) (by simp [results,Tryz.results227,go_sem,e0,e1,e2,e3]) rfl ?_
       exact endX H0.out HC2.out HK2.out (Nat.le_refl _) ((Ex.rd (S:=fun _ => False) 5 [] 0 [] _).2 ⟨_,rfl,by simp,by simp,Rd.nil _⟩) (fun _ hb=>hb.elim)
     · rw [if_neg k2] at hr
       rw [decide_eq_false k2] at q2
       clear k2
       by_cases k3:s=[108,101,110]
       · rw [if_pos k3] at hr
         rw [decide_eq_true k3] at q3
         clear k3 q4 q5
         generalize strOf s=S at *
         have HM:=Lib.hid (fun w' (h':Cx w0 T R q w' p1)=>must_any ht h' [40] ⟨#[40]⟩ rfl (by decide))
         have HMM:=Lib.hid (fun p' w' (h':Cx w0 T R q w' p')=>must_any ht h' [41] ⟨#[41]⟩ rfl (by decide))
         have hg2:=must_g T [40] p1
         obtain ⟨b2,p2,hP2⟩:∃ b2 p2,p1.must T [40]=(b2,p2):=⟨_, _,rfl⟩
         rw [hP2] at HM hr hg2
         dsimp only at HM hr hg2
         clear hP2
         cases ho:or p2 with
         | none=>rw [ho] at hr; cases hr
         | some y =>
           obtain ⟨x,p3⟩:=y
           rw [ho] at hr
           cases hr
           have HXX:=Lib.hid (fun w' (h':Cx w0 T R q w' p2)=>HX w' p2 _ h' (by omega) ho)
           clear ht HX hG hg hg1 hg2 h ho
           unfold at0 exZ at *
           go_enter Tryz.func227,Tryz.ntmps227
           go_upto_region 11 with (first
             | (go_at_call 143
                refine (HO.out _).mono ?_
                rintro e w2 ⟨rfl,h2,hk2⟩
                have HC2:=Lib.hid h2
                have HK2:=Lib.hid (((Kp.refl q w).alloc _).trans hk2)
                have HZ2:=Lib.hid (hk2.heap HZ.out hqa)
                have hz2:=lt_heap HZ2.out
                obtain ⟨⟨d0,d1,d2,d3⟩,f0,f1,f2,f3⟩:=box4f HZ2.out
                clear h2 hk2)
             | (go_at_call 181
                refine (HM.out _ HC2.out).mono ?_
                rintro e w3 ⟨rfl,h3,hk3⟩
                have HC3:=Lib.hid h3
                have HK3:=Lib.hid (HK2.out.trans hk3)
                have HZ3:=Lib.hid (hk3.heap HZ2.out hqa)
                obtain ⟨⟨-,-,-,-,-,-,-,-,-,-,c10⟩,-⟩:=box11 h3.hp
                unfold lvF at c10
                have hlt3:=h3.lt
                clear h3 hk3 d0 d1 d2 d3 f0 f1 f2 f3)
             | (go_at_call 171
                refine (HXX.out _ HC3.out).mono ?_
                rintro e w4 ⟨v4,rfl,hx4,h4,hk4⟩
                have HC4:=Lib.hid h4
                have HK4:=Lib.hid (HK3.out.trans hk4)
                have HK34:=Lib.hid hk4
                have HZ4:=Lib.hid (hk4.heap HZ3.out hqa)
                obtain ⟨k0,s0,n0,l0⟩:=x
                obtain ⟨y,rfl,-,-,hy⟩:=(Ex.rd k0 s0 n0 l0 v4).1 hx4
                obtain ⟨A4,n4,c4,rfl⟩:=hy.row_form
                have HX4:=Lib.hid hx4
                have HE3:=Lib.hid (lt_heap HZ3.out)
                clear h4 hk4 hx4 hy)
             | (fail))
           have HQ5:=Lib.hid (heap_new w4 (.cells #[.int .u8 (k0:Int),.string (strOf s0),.int .i64 n0,.slice A4 n4 c4] 276))
           have HM5:=Lib.hid (HMM.out p3 _ (HC4.out.alloc (.cells #[.int .u8 (k0:Int),.string (strOf s0),.int .i64 n0,.slice A4 n4 c4] 276)))
           have hlt4:=HC4.out.lt
           have hqb:¬ w4.heap.size=q:=by omega
           go_wp2_with (first
             | (go_at_call 181
                refine HM5.out.mono ?_
                rintro e w5 ⟨rfl,h5,hk5⟩
                have HC5:=Lib.hid h5
                have hkk:Kp q w4 w5:=((Kp.refl q w4).alloc _).trans hk5
                have HK5:=Lib.hid (HK4.out.trans hkk)
                have HK35:=Lib.hid (HK34.out.trans hkk)
                have HZ5:=Lib.hid (hkk.heap HZ4.out hqa)
                obtain ⟨⟨i0,i1,i2,i3⟩,-⟩:=box4f (hk5.heap HQ5.out hqb)
                obtain ⟨⟨d0,d1,d2,d3⟩,f0,f1,f2,f3⟩:=box4f HZ5.out
                have HX5:=Lib.hid (HX4.out.more hkk HC3.out.lt)
                have hz5:=lt_heap HZ5.out
                clear h5 hk5 hkk)
             | (fail))
           have HR5:=Lib.hid (RowX.lit w3 w5 276 #[.int .u8 (k0:Int),.string (strOf s0),.int .i64 n0,.slice A4 n4 c4] (Ex.nd (.mk k0 s0 n0 l0)) 4 rfl HK35.out.size HX5.out).rd
           obtain ⟨⟨e0,e1,e2,e3⟩,-⟩:=box4f (heap_old (set4 HZ5.out (.int .u8 9) (.string ⟨#[]⟩) (.int .i64 0) (.slice (some ⟨w5.heap.size,0,none⟩) 1 1)) (.cells #[.int .u8 (k0:Int),.string (strOf s0),.int .i64 n0,.slice A4 n4 c4] 276))
           refine bodyPost_ret (v := .agg #[.int .u8 9,.string ⟨#[]⟩,.int .i64 0,.slice (some ⟨w5.heap.size,0,none⟩) 1 1]) (by simp [results,Tryz.results227,go_sem,e0,e1,e2,e3]) rfl ?_
           exact endXo _ H0.out HC5.out HK5.out (Nat.le_refl _) hz5 ((Ex.rd 9 [] 0 [.mk k0 s0 n0 l0] _).2 ⟨_,rfl,by simp,by simp,HR5.out⟩) (fun b hb=>⟨by have:=hb.1; have:=HE3.out; omega,Nat.le_trans HK3.out.size hb.1,hb.2⟩)
       · rw [if_neg k3] at hr
         rw [decide_eq_false k3] at q3
         clear k3
         by_cases k4:s=[99,97,108,108]
         · rw [if_pos k4] at hr
           rw [decide_eq_true k4] at q4
           clear k4 q5
           generalize strOf s=S at *
           have HW:=Lib.hid (fun w' (h':Cx w0 T R q w' p1)=>withX_any ht HX hG w' p1 r h' k 10 hk (by omega) hr)
           clear ht HX hG hg hg1 h hr
           obtain ⟨x,p2⟩:=r
           unfold at0 exZ at *
           go_enter Tryz.func227,Tryz.ntmps227
           go_wp2_with (first
             | (go_at_call 143
                refine (HO.out _).mono ?_
                rintro e w2 ⟨rfl,h2,hk2⟩
                have HC2:=Lib.hid h2
                have HK2:=Lib.hid (((Kp.refl q w).alloc _).trans hk2)
                have HZ2:=Lib.hid (hk2.heap HZ.out hqa)
                have hz2:=lt_heap HZ2.out
                obtain ⟨⟨d0,d1,d2,d3⟩,f0,f1,f2,f3⟩:=box4f HZ2.out
                clear h2 hk2)
             | (go_at_call 254
                refine (HW.out _ HC2.out).mono ?_
                rintro e w3 ⟨v3,rfl,hx3,h3,hk3⟩
                have HC3:=Lib.hid h3
                have HK3:=Lib.hid (HK2.out.trans hk3)
                have HZ3:=Lib.hid (hk3.heap HZ2.out hqa)
                obtain ⟨k0,s0,n0,l0⟩:=x
                obtain ⟨y,rfl,-,-,hy⟩:=(Ex.rd k0 s0 n0 l0 v3).1 hx3
                obtain ⟨A3,n3,c3,rfl⟩:=hy.row_form
                have HX3:=Lib.hid hx3
                have HE2:=Lib.hid hz2
                have hz3:=lt_heap HZ3.out
                clear d0 d1 d2 d3 f0 f1 f2 f3
                obtain ⟨⟨d0,d1,d2,d3⟩,f0,f1,f2,f3⟩:=box4f HZ3.out
                clear h3 hk3 hx3 hy)
             | (fail))
           obtain ⟨⟨e0,e1,e2,e3⟩,-⟩:=box4f (set4 HZ3.out (.int .u8 (k0:Int)) (.string (strOf s0)) (.int .i64 n0) (.slice A3 n3 c3))
           refine bodyPost_ret (v := .agg #[.int .u8 (k0:Int),.string (strOf s0),.int .i64 n0,.slice A3 n3 c3]) (by simp [results,Tryz.results227,go_sem,e0,e1,e2,e3]) rfl ?_
           exact endX H0.out HC3.out HK3.out (Nat.le_refl _) HX3.out (fun b hb=>⟨by have:=hb.1; have:=HE2.out; omega,Nat.le_trans HK2.out.size hb.1,hb.2⟩)
         · rw [if_neg k4] at hr
           rw [decide_eq_false k4] at q4
           clear k4
           by_cases k5:s=[115,112,97,119,110]
           · rw [if_pos k5] at hr
             rw [decide_eq_true k5] at q5
             clear k5
             generalize strOf s=S at *
             have HW:=Lib.hid (fun w' (h':Cx w0 T R q w' p1)=>withX_any ht HX hG w' p1 r h' k 11 hk (by omega) hr)
             clear ht HX hG hg hg1 h hr
             obtain ⟨x,p2⟩:=r
             unfold at0 exZ at *
             go_enter Tryz.func227,Tryz.ntmps227
             go_wp2_with (first
               | (go_at_call 143
                  refine (HO.out _).mono ?_
                  rintro e w2 ⟨rfl,h2,hk2⟩
                  have HC2:=Lib.hid h2
                  have HK2:=Lib.hid (((Kp.refl q w).alloc _).trans hk2)
                  have HZ2:=Lib.hid (hk2.heap HZ.out hqa)
                  have hz2:=lt_heap HZ2.out
                  obtain ⟨⟨d0,d1,d2,d3⟩,f0,f1,f2,f3⟩:=box4f HZ2.out
                  clear h2 hk2)
               | (go_at_call 254
                  refine (HW.out _ HC2.out).mono ?_
                  rintro e w3 ⟨v3,rfl,hx3,h3,hk3⟩
                  have HC3:=Lib.hid h3
                  have HK3:=Lib.hid (HK2.out.trans hk3)
                  have HZ3:=Lib.hid (hk3.heap HZ2.out hqa)
                  obtain ⟨k0,s0,n0,l0⟩:=x
                  obtain ⟨y,rfl,-,-,hy⟩:=(Ex.rd k0 s0 n0 l0 v3).1 hx3
                  obtain ⟨A3,n3,c3,rfl⟩:=hy.row_form
                  have HX3:=Lib.hid hx3
                  have HE2:=Lib.hid hz2
                  have hz3:=lt_heap HZ3.out
                  clear d0 d1 d2 d3 f0 f1 f2 f3
                  obtain ⟨⟨d0,d1,d2,d3⟩,f0,f1,f2,f3⟩:=box4f HZ3.out
                  clear h3 hk3 hx3 hy)
               | (fail))
             obtain ⟨⟨e0,e1,e2,e3⟩,-⟩:=box4f (set4 HZ3.out (.int .u8 (k0:Int)) (.string (strOf s0)) (.int .i64 n0) (.slice A3 n3 c3))
             refine bodyPost_ret (v := .agg #[.int .u8 (k0:Int),.string (strOf s0),.int .i64 n0,.slice A3 n3 c3]) (by simp [results,Tryz.results227,go_sem,e0,e1,e2,e3]) rfl ?_
             exact endX H0.out HC3.out HK3.out (Nat.le_refl _) HX3.out (fun b hb=>⟨by have:=hb.1; have:=HE2.out; omega,Nat.le_trans HK2.out.size hb.1,hb.2⟩)
           · rw [if_neg k5] at hr
             rw [decide_eq_false k5] at q5
             clear k5
             generalize strOf s=S at *
             cases hr
             have HF:=Lib.hid (fun w' (h':Cx w0 T R q w' p1)=>fail_any h' 101)
             clear ht HX hG hg hg1 h
             unfold at0 exZ at *
             go_enter Tryz.func227,Tryz.ntmps227
             go_wp2_with (first
               | (go_at_call 143
                  refine (HO.out _).mono ?_
                  rintro e w2 ⟨rfl,h2,hk2⟩
                  have HC2:=Lib.hid h2
                  have HK2:=Lib.hid (((Kp.refl q w).alloc _).trans hk2)
                  have HZ2:=Lib.hid (hk2.heap HZ.out hqa)
                  have hz2:=lt_heap HZ2.out
                  obtain ⟨⟨d0,d1,d2,d3⟩,f0,f1,f2,f3⟩:=box4f HZ2.out
                  clear h2 hk2)
               | (go_at_call 146
                  refine (HF.out _ HC2.out).mono ?_
                  rintro e w3 ⟨rfl,h3,hk3⟩
                  have HC3:=Lib.hid h3
                  have HK3:=Lib.hid (HK2.out.trans hk3)
                  have HZ3:=Lib.hid (hk3.heap HZ2.out hqa)
                  have hz3:=lt_heap HZ3.out
                  clear d0 d1 d2 d3 f0 f1 f2 f3
                  obtain ⟨⟨d0,d1,d2,d3⟩,f0,f1,f2,f3⟩:=box4f HZ3.out
                  clear h3 hk3)
               | (fail))
             obtain ⟨⟨e0,e1,e2,e3⟩,-⟩:=box4f (set4 HZ3.out (.int .u8 0) (.string ⟨#[]⟩) (.int .i64 0) (.slice none 0 0))
             refine bodyPost_ret (v := .agg #[.int .u8 0,.string ⟨#[]⟩,.int .i64 0,.slice none 0 0]) (by simp [results,Tryz.results227,go_sem,e0,e1,e2,e3]) rfl ?_
             exact endX H0.out HC3.out HK3.out (Nat.le_refl _) ((Ex.rd (S:=fun _ => False) 0 [] 0 [] _).2 ⟨_,rfl,by simp,by simp,Rd.nil _⟩) (fun _ hb=>hb.elim)
end
end Go.Proofs.YtcmopnkldplngabGreatDoor
namespace Go.Proofs.YtcmopnkldplngabGreatDoor
open Go.RowKit
set_option linter.unusedVariables false
section
variable {w0:World} {T:List Nat} {R:Ru} {q:Nat} {or:Rr Ex} {m:Nat}
theorem Rd.row_one {w:World} {S:Nat→Prop} {sz:Nat} {x:Nd} {v:Value} (h:Rd w S (.row sz [x]) v):∃ b o c vs,v = .slice (some ⟨b,o,none⟩) 1 c∧S b∧vs.length=sz∧w.rangeAt b o vs∧Rd w S x (.agg vs.toArray):=by
 rw [Rd] at h
 obtain ⟨A,c,rfl,-,-,h⟩:=h
 obtain ⟨b,o,vs,rfl,h1,h2,h3,h4⟩:=h.at 0 x rfl
 exact ⟨b,o,c,vs,rfl,h1,h2,by simpa using h3,h4⟩
theorem range4 {w:World} {b o:Nat} {y0 y1 y2 y3:Value} (h:w.rangeAt b o [y0,y1,y2,y3]):w.cell? ⟨b,o,none⟩=some y0∧w.cell? ⟨b,o+1,none⟩=some y1∧w.cell? ⟨b,o+2,none⟩=some y2∧w.cell? ⟨b,o+3,none⟩=some y3 :=
 ⟨by simpa using h 0 _ rfl,h 1 _ rfl,h 2 _ rfl,h 3 _ rfl⟩
theorem Rd.row_len {w:World} {S:Nat→Prop} {sz:Nat} {l:List Nd} {v:Value} (h:Rd w S (.row sz l) v):∃ A n c,v = .slice A n c∧n=l.length:=by
 rw [Rd] at h
 obtain ⟨A,c,rfl,-⟩:=h
 exact ⟨A, _,c,rfl,rfl⟩
set_option maxRecDepth 100000 in
set_option maxHeartbeats 4000000 in
theorem primary_any (ht:TxtOk w0 T) (HX:XC w0 T R q or m) (hG:Gk or) (w:World) (p:Pst) (r:Ex × Pst) (h:Cx w0 T R q w p) (k:Nat) (hk:k≤100000) (hg:p.g+m≤mostG) (hr:primaryF T or k p=some r) :
   Calls Tryz.prog 204 #[at0 q] w (OutX w0 T R q w r.1.nd r.2):=by
 obtain ⟨⟨-,c1,c2,c3,c4,c5,c6,-,-,-,c10⟩,-⟩:=box11 h.hp
 unfold lvF at0 at c10
 have H0:=Lib.hid h
 have hq:=h.lt
 have hqa:¬ w.heap.size=q:=by omega
 have hqb:¬ w.heap.size+1=q:=by omega
 have H2:=Lib.hid ((h.alloc exZ).alloc (.cells #[.int .u8 (p.k:Int),.string (strOf p.s),.int .i64 (p.n:Int),.int .i64 (p.ln:Int),.int .i64 (p.a:Int),.int .i64 (p.e:Int)] 225))
 have HK2:=Lib.hid (((Kp.refl q w).alloc exZ).alloc (.cells #[.int .u8 (p.k:Int),.string (strOf p.s),.int .i64 (p.n:Int),.int .i64 (p.ln:Int),.int .i64 (p.a:Int),.int .i64 (p.e:Int)] 225))
 have HZ2:=Lib.hid (heap_old (heap_new w exZ) (.cells #[.int .u8 (p.k:Int),.string (strOf p.s),.int .i64 (p.n:Int),.int .i64 (p.ln:Int),.int .i64 (p.a:Int),.int .i64 (p.e:Int)] 225))
 have HW2:=Lib.hid (heap_new' (w.alloc exZ) (.cells #[.int .u8 (p.k:Int),.string (strOf p.s),.int .i64 (p.n:Int),.int .i64 (p.ln:Int),.int .i64 (p.a:Int),.int .i64 (p.e:Int)] 225) (w.heap.size+1) (by simp))
 have HST:=Lib.hid (step_any ht H2.out)
 unfold primaryF at hr
 by_cases k1:p.k=1
 · rw [if_pos k1] at hr
   have t1:((p.k:Int) == 1)=true:=by rw [k1]; rfl
   clear k1
   cases hr
   have HOK:=Lib.hid h.ok
   clear ht HX hG hg h
   unfold at0 exZ at *
   go_enter Tryz.func204,Tryz.ntmps204
   go_wp2_with (first
     | (go_at_call 141
        refine HST.out.mono ?_
        rintro e w3 ⟨rfl,h3,hk3⟩
        have HC3:=Lib.hid h3
        have HK3:=Lib.hid (HK2.out.trans hk3)
        have HZ3:=Lib.hid (hk3.heap HZ2.out hqa)
        have hz3:=lt_heap HZ3.out
        obtain ⟨⟨d0,d1,d2,d3⟩,f0,f1,f2,f3⟩:=box4f HZ3.out
        obtain ⟨⟨y0,y1,y2,y3,y4,y5⟩,-⟩:=bx6 (hk3.heap HW2.out hqb)
        clear h3 hk3)
     | (fail))
   obtain ⟨⟨e0,e1,e2,e3⟩,-⟩:=box4f (set4 HZ3.out (.int .u8 1) (.string ⟨#[]⟩) (.int .i64 (p.n:Int)) (.slice none 0 0))
   refine bodyPost_ret (v := .agg #[.int .u8 1,.string ⟨#[]⟩,.int .i64 (p.n:Int),.slice none 0 0]) (by simp [results,Tryz.results204,go_sem,e0,e1,e2,e3]) rfl ?_
   exact endX H0.out HC3.out HK3.out (Nat.le_refl _) ((Ex.rd (S:=fun _ => False) 1 [] (p.n:Int) [] _).2 ⟨_,rfl,by simp,by simp,Rd.nil _⟩) (fun _ hb=>hb.elim)
 · rw [if_neg k1] at hr
   have t1:((p.k:Int) == 1)=false:=beq_eq_false_iff_ne.2 (by omega)
   clear k1
   by_cases k2:p.k=2
   · rw [if_pos k2] at hr
     have t2:((p.k:Int) == 2)=true:=by rw [k2]; rfl
     clear k2
     cases hr
     have HOK:=Lib.hid h.ok
     clear ht HX hG hg h
     unfold at0 exZ at *
     go_enter Tryz.func204,Tryz.ntmps204
     go_wp2_with (first
       | (go_at_call 141
          refine HST.out.mono ?_
          rintro e w3 ⟨rfl,h3,hk3⟩
          have HC3:=Lib.hid h3
          have HK3:=Lib.hid (HK2.out.trans hk3)
          have HZ3:=Lib.hid (hk3.heap HZ2.out hqa)
          have hz3:=lt_heap HZ3.out
          obtain ⟨⟨d0,d1,d2,d3⟩,f0,f1,f2,f3⟩:=box4f HZ3.out
          obtain ⟨⟨y0,y1,y2,y3,y4,y5⟩,-⟩:=bx6 (hk3.heap HW2.out hqb)
          clear h3 hk3)
       | (fail))
     obtain ⟨⟨e0,e1,e2,e3⟩,-⟩:=box4f (set4 HZ3.out (.int .u8 3) (.string (strOf p.s)) (.int .i64 0) (.slice none 0 0))
     refine bodyPost_ret (v := .agg #[.int .u8 3,.string (strOf p.s),.int .i64 0,.slice none 0 0]) (by simp [results,Tryz.results204,go_sem,e0,e1,e2,e3]) rfl ?_
     exact endX H0.out HC3.out HK3.out (Nat.le_refl _) ((Ex.rd (S:=fun _ => False) 3 p.s 0 [] _).2 ⟨_,rfl,HOK.out.1,by have:=HOK.out.2; omega,Rd.nil _⟩) (fun _ hb=>hb.elim)
   · rw [if_neg k2] at hr
     have t2:((p.k:Int) == 2)=false:=beq_eq_false_iff_ne.2 (by omega)
     clear k2
     by_cases k3:p.k=3
     · rw [if_pos k3] at hr
       have t3:((p.k:Int) == 3)=true:=by rw [k3]; rfl
       clear k3
       cases hr
       have HOK:=Lib.hid h.ok
       clear ht HX hG hg h
       unfold at0 exZ at *
       go_enter Tryz.func204,Tryz.ntmps204
       go_wp2_with (first
         | (go_at_call 141
            refine HST.out.mono ?_
            rintro e w3 ⟨rfl,h3,hk3⟩
            have HC3:=Lib.hid h3
            have HK3:=Lib.hid (HK2.out.trans hk3)
            have HZ3:=Lib.hid (hk3.heap HZ2.out hqa)
            have hz3:=lt_heap HZ3.out
            obtain ⟨⟨d0,d1,d2,d3⟩,f0,f1,f2,f3⟩:=box4f HZ3.out
            obtain ⟨⟨y0,y1,y2,y3,y4,y5⟩,-⟩:=bx6 (hk3.heap HW2.out hqb)
            clear h3 hk3)
         | (fail))
       obtain ⟨⟨e0,e1,e2,e3⟩,-⟩:=box4f (set4 HZ3.out (.int .u8 4) (.string (strOf p.s)) (.int .i64 0) (.slice none 0 0))
       refine bodyPost_ret (v := .agg #[.int .u8 4,.string (strOf p.s),.int .i64 0,.slice none 0 0]) (by simp [results,Tryz.results204,go_sem,e0,e1,e2,e3]) rfl ?_
       exact endX H0.out HC3.out HK3.out (Nat.le_refl _) ((Ex.rd (S:=fun _ => False) 4 p.s 0 [] _).2 ⟨_,rfl,HOK.out.1,by have:=HOK.out.2; omega,Rd.nil _⟩) (fun _ hb=>hb.elim)
     · rw [if_neg k3] at hr
       have t3:((p.k:Int) == 3)=false:=beq_eq_false_iff_ne.2 (by omega)
       clear k3
       by_cases k4:p.k=4
       · rw [if_pos k4] at hr
         have t4:((p.k:Int) == 4)=true:=by rw [k4]; rfl
         clear k4
         have HW:=Lib.hid (keyed_any ht HX hG _ p r H2.out k hk hg hr)
         clear ht HX hG hg h hr HST
         obtain ⟨x,p2⟩:=r
         unfold at0 exZ at *
         go_enter Tryz.func204,Tryz.ntmps204
         go_wp2_with (first
           | (go_at_call 227
              refine HW.out.mono ?_
              rintro e w3 ⟨v3,rfl,hx3,h3,hk3⟩
              have HC3:=Lib.hid h3
              have HK3:=Lib.hid (HK2.out.trans hk3)
              have HZ3:=Lib.hid (hk3.heap HZ2.out hqa)
              obtain ⟨k0,s0,n0,l0⟩:=x
              obtain ⟨y,rfl,-,-,hy⟩:=(Ex.rd k0 s0 n0 l0 v3).1 hx3
              obtain ⟨A3,n3,c3',rfl⟩:=hy.row_form
              have HX3:=Lib.hid hx3
              have hz3:=lt_heap HZ3.out
              obtain ⟨⟨d0,d1,d2,d3⟩,f0,f1,f2,f3⟩:=box4f HZ3.out
              clear h3 hk3 hx3 hy)
           | (fail))
         obtain ⟨⟨e0,e1,e2,e3⟩,-⟩:=box4f (set4 HZ3.out (.int .u8 (k0:Int)) (.string (strOf s0)) (.int .i64 n0) (.slice A3 n3 c3'))
         refine bodyPost_ret (v := .agg #[.int .u8 (k0:Int),.string (strOf s0),.int .i64 n0,.slice A3 n3 c3']) (by simp [results,Tryz.results204,go_sem,e0,e1,e2,e3]) rfl ?_
         exact endX H0.out HC3.out HK3.out (Nat.le_refl _) HX3.out (fun b hb=>⟨by have:=hb.1; simp at this; omega,by have:=hb.1; simp at this; omega,hb.2⟩)
       · rw [if_neg k4] at hr
         have t4:((p.k:Int) == 4)=false:=beq_eq_false_iff_ne.2 (by omega)
         clear k4
         cases hl:listF T or k p with
         | none=>rw [hl] at hr; cases hr
         | some y =>
           obtain ⟨l,p2⟩:=y
           rw [hl] at hr
           cases hr
           have HL:=Lib.hid (listX_any ht HX hG _ p (l,p2) H2.out k hk hg hl)
           have c10':=(box11 H2.out.hp).1.2.2.2.2.2.2.2.2.2.2
           unfold lvF at0 at c10'
           clear ht HX hG hg h HST hl
           by_cases h1:l.length=1
           · obtain ⟨x,rfl⟩:∃ x,l=[x]:=List.length_eq_one_iff.1 h1
             clear h1
             unfold tupF
             unfold lvF at HL
             unfold at0 exZ at *
             go_enter Tryz.func204,Tryz.ntmps204
             go_wp2_with (first
               | (go_at_call 228
                  refine HL.out.mono ?_
                  rintro e w3 ⟨v3,rfl,hx3,h3,hk3⟩
                  have HC3:=Lib.hid h3
                  have HK3:=Lib.hid (HK2.out.trans hk3)
                  have HZ3:=Lib.hid (hk3.heap HZ2.out hqa)
                  obtain ⟨b,o,cc,vs,rfl,hS,hvl,hrg,hxx⟩:=hx3.row_one
                  obtain ⟨k0,s0,n0,l0⟩:=x
                  obtain ⟨y,hv,-,-,hy⟩:=(Ex.rd k0 s0 n0 l0 _).1 hxx
                  obtain ⟨A3,n3,c3',rfl⟩:=hy.row_form
                  have hv2:vs=[.int .u8 (k0:Int),.string (strOf s0),.int .i64 n0,.slice A3 n3 c3']:=by
                    injection hv with hv
                    have:=congrArg Array.toList hv
                    simpa using this
                  subst hv2
                  have HX3:=Lib.hid hxx
                  obtain ⟨r0,r1,r2,r3⟩:=range4 hrg
                  have hz3:=lt_heap HZ3.out
                  obtain ⟨⟨d0,d1,d2,d3⟩,f0,f1,f2,f3⟩:=box4f HZ3.out
                  clear h3 hk3 hx3 hy hrg hxx hv hvl hS)
               | (fail))
             obtain ⟨⟨e0,e1,e2,e3⟩,-⟩:=box4f (set4 HZ3.out (.int .u8 (k0:Int)) (.string (strOf s0)) (.int .i64 n0) (.slice A3 n3 c3'))
             refine bodyPost_ret (v := .agg #[.int .u8 (k0:Int),.string (strOf s0),.int .i64 n0,.slice A3 n3 c3']) (by simp [results,Tryz.results204,go_sem,e0,e1,e2,e3]) rfl ?_
             exact endX H0.out HC3.out HK3.out (Nat.le_refl _) HX3.out (fun b hb=>⟨by have:=hb.1; simp at this; omega,by have:=hb.1; simp at this; omega,hb.2⟩)
           · have htu:tupF l = .mk 6 [] 0 l:=by
               match l,h1 with
               | [], _ => rfl
               | [x],h1=>simp at h1
               | x :: y :: z, _ => rfl
             rw [htu]
             have h1':=Lib.hid h1
             clear h1 htu
             unfold lvF at HL
             unfold at0 exZ at *
             go_enter Tryz.func204,Tryz.ntmps204
             go_wp2_with (first
               | (go_at_call 228
                  refine HL.out.mono ?_
                  rintro e w3 ⟨v3,rfl,hx3,h3,hk3⟩
                  have HC3:=Lib.hid h3
                  have HK3:=Lib.hid (HK2.out.trans hk3)
                  have HZ3:=Lib.hid (hk3.heap HZ2.out hqa)
                  obtain ⟨A3,n3,c3',rfl,hn⟩:=hx3.row_len
                  have g1:((n3:Int) == 1)=false:=beq_eq_false_iff_ne.2 (by rw [List.length_map] at hn; have:=h1'.out; omega)
                  have HX3:=Lib.hid hx3
                  have hz3:=lt_heap HZ3.out
                  obtain ⟨⟨d0,d1,d2,d3⟩,f0,f1,f2,f3⟩:=box4f HZ3.out
                  clear h3 hk3 hx3 hn)
               | (fail))
             obtain ⟨⟨e0,e1,e2,e3⟩,-⟩:=box4f (set4 HZ3.out (.int .u8 6) (.string ⟨#[]⟩) (.int .i64 0) (.slice A3 n3 c3'))
             refine bodyPost_ret (v := .agg #[.int .u8 6,.string ⟨#[]⟩,.int .i64 0,.slice A3 n3 c3']) (by simp [results,Tryz.results204,go_sem,e0,e1,e2,e3]) rfl ?_
             exact endX H0.out HC3.out HK3.out (Nat.le_refl _) ((Ex.rd 6 [] 0 l _).2 ⟨_,rfl,by simp,by simp,HX3.out⟩) (fun b hb=>⟨by have:=hb.1; simp at this; omega,by have:=hb.1; simp at this; omega,hb.2⟩)
end
end Go.Proofs.YtcmopnkldplngabGreatDoor
namespace Go.Proofs.YtcmopnkldplngabGreatDoor
open Go.RowKit
set_option linter.unusedVariables false
theorem Rd.lit {wr:World} {S:Nat→Prop} {E:TypeId} {arr:Array Value} {n k:Nat} {l:List Nd} (hS:∀ b,S b→b<wr.heap.size) (hf:Flat wr S n arr.toList l) (hk:l.length=k) (hm:k≤1000) :
   Rd (wr.alloc (.cells arr E)) (fun b=>S b∨b=wr.heap.size) (.row n l) (.slice (some ⟨wr.heap.size,0,none⟩) k k):=by
 have hs:=hf.1
 have h1:=World.ownsRow_lit (e:=E) (size:=n) (base:=wr.heap.size) wr arr k (Nat.le_refl _) (by unfold maxLen; omega) (by simp at hs; rw [hs,hk])
 subst hk
 refine (hf.keep (S':=fun b=>S b∨b=wr.heap.size) (fun p hp=>((Below.refl _ wr).alloc (Nat.le_refl _) _).cell (hS _ hp)) (fun b hb => .inl hb)).row h1 (fun b h2 h3=>?_)
 right
 simp at h3
 omega
theorem Flat.two {w:World} {S:Nat→Prop} {n:Nat} {a b:List Value} {x y:Nd} (ha:a.length=n) (hb:b.length=n) (hx:Rd w S x (.agg a.toArray)) (hy:Rd w S y (.agg b.toArray)):Flat w S n (a ++ b) [x,y]:=by
 have:=((Flat.nil w S n).snoc ha hx).snoc hb hy
 simpa using this
theorem Flat.one {w:World} {S:Nat→Prop} {n:Nat} {a:List Value} {x:Nd} (ha:a.length=n) (hx:Rd w S x (.agg a.toArray)):Flat w S n a [x]:=by
 have:=(Flat.nil w S n).snoc ha hx
 simpa using this
section
variable {w0:World} {T:List Nat} {R:Ru} {q:Nat} {or:Rr Ex} {m:Nat}
structure EAt (w X:World) (g0 g3:Nat) (x:Ex) (k0:Nat) (s0:List Nat) (n0:Int) (A:Option Addr) (n c:Nat):Prop where
 e:X.heap[g3]?=some (.cells #[.int .u8 (k0:Int),.string (strOf s0),.int .i64 n0,.slice A n c] 276 (0,0))
 z:X.heap[g0]?=some (.cells #[.int .u8 0,.string ⟨#[]⟩,.int .i64 0,.slice none 0 0] 276 (0,0))
 r:Rd X (fun b=>Nw w X b∧b≠g0∧b≠g3) x.nd (.agg #[.int .u8 (k0:Int),.string (strOf s0),.int .i64 n0,.slice A n c])
theorem EAt.kp {w X Y:World} {g0 g3:Nat} {x:Ex} {k0:Nat} {s0:List Nat} {n0:Int} {A:Option Addr} {n c:Nat} (h:EAt w X g0 g3 x k0 s0 n0 A n c) (k:Kp q X Y) (hq:q<w.heap.size) (h0:g0≠q) (h3:g3≠q):EAt w Y g0 g3 x k0 s0 n0 A n c :=
 ⟨k.heap h.e h3,k.heap h.z h0,Rd.keep (fun p hp=>k.cellq hp.1.2 (by have:=hp.1.1; omega)) (fun b hb=>⟨⟨hb.1.1,Nat.lt_of_lt_of_le hb.1.2 k.size⟩,hb.2⟩) _ _ h.r⟩
theorem EAt.made {w Y:World} {b:World} {g0:Nat} {k0:Nat} {s0:List Nat} {n0:Int} {l0:List Ex} {A:Option Addr} {n c:Nat} (hz:Y.heap[g0]?=some (.cells #[.int .u8 0,.string ⟨#[]⟩,.int .i64 0,.slice none 0 0] 276 (0,0))) (hw:w.heap.size≤b.heap.size) (hg0:g0<b.heap.size)
   (hx:Rd Y (Nw b Y) (Ex.nd (.mk k0 s0 n0 l0)) (.agg #[.int .u8 (k0:Int),.string (strOf s0),.int .i64 n0,.slice A n c])) :
   EAt w (Y.alloc (.cells #[.int .u8 (k0:Int),.string (strOf s0),.int .i64 n0,.slice A n c] 276)) g0 Y.heap.size (.mk k0 s0 n0 l0) k0 s0 n0 A n c :=
 ⟨heap_new _ _,heap_old hz _,Rd.keep (fun p hp=>((Below.refl _ Y).alloc (Nat.le_refl _) _).cell hp.2) (fun k hk=>by
   have h1:=hk.1
   have h2:=hk.2
   refine ⟨⟨by omega,by simp; omega⟩,by omega,by omega⟩) _ _ hx⟩
theorem EAt.step {w X b:World} {g0 g3:Nat} {x:Ex} {k0:Nat} {s0:List Nat} {n0:Int} {A:Option Addr} {n c:Nat} {k1:Nat} {s1:List Nat} {n1:Int} {l1:List Ex} {A1:Option Addr} {m1 c1:Nat}
   (h:EAt w X g0 g3 x k0 s0 n0 A n c) (hb:Rd X (Nw b X) (Ex.nd (.mk k1 s1 n1 l1)) (.agg #[.int .u8 (k1:Int),.string (strOf s1),.int .i64 n1,.slice A1 m1 c1]))
   (hwb:w.heap.size≤b.heap.size) (h0b:g0<b.heap.size) (h3b:g3<b.heap.size) (h03:g0≠g3) (hwg:w.heap.size≤g0) (kk:Nat) (s:List Nat) (hs:Sok s) :
   EAt w ((P4 X g3 (.int .u8 (kk:Int)) (.string (strOf s)) (.int .i64 0) (.slice (some ⟨X.heap.size,0,none⟩) 2 2)).alloc (.cells #[.int .u8 (k0:Int),.string (strOf s0),.int .i64 n0,.slice A n c,.int .u8 (k1:Int),.string (strOf s1),.int .i64 n1,.slice A1 m1 c1] 276)) g0 g3 (.mk kk s 0 [x,.mk k1 s1 n1 l1]) kk s 0 (some ⟨X.heap.size,0,none⟩) 2 2:=by
 have hg3:=lt_heap h.e
 have hg0:=lt_heap h.z
 have hf:Flat X (fun b=>Nw w X b∧b≠g0∧b≠g3) 4 ([.int .u8 (k0:Int),.string (strOf s0),.int .i64 n0,.slice A n c] ++ [.int .u8 (k1:Int),.string (strOf s1),.int .i64 n1,.slice A1 m1 c1]) [x.nd,Ex.nd (.mk k1 s1 n1 l1)] :=
   Flat.two rfl rfl h.r (Rd.keep (fun _ _ => rfl) (fun k hk=>⟨⟨Nat.le_trans hwb hk.1,hk.2⟩,by have:=hk.1; omega,by have:=hk.1; omega⟩) _ _ hb)
 have hl:=Rd.lit (E:=276) (arr:=#[.int .u8 (k0:Int),.string (strOf s0),.int .i64 n0,.slice A n c,.int .u8 (k1:Int),.string (strOf s1),.int .i64 n1,.slice A1 m1 c1]) (k:=2) (fun b hb=>hb.1.2) hf rfl (by omega)
 refine ⟨heap_old (set4 h.e _ _ _ _) _,heap_old (p4_heap h.z h03) _,(Ex.rd kk s 0 _ _).2 ⟨_,rfl,hs.1,by have:=hs.2; omega,?_⟩⟩
 refine Rd.keep (fun a ha=>p4_alloc_cell _ hg3 ?_) (fun b hb=>?_) _ _ hl
 · rcases ha with ha | ha
   · exact ha.2.2
   · omega
 · rcases hb with hb | hb
   · exact ⟨⟨hb.1.1,by have:=hb.1.2; simp; rw [p4_size]; omega⟩,hb.2⟩
   · subst hb
     have hwx:w.heap.size≤X.heap.size:=by omega
     exact ⟨⟨hwx,by simp; rw [p4_size]; omega⟩,by omega,by omega⟩
set_option maxRecDepth 100000 in
set_option maxHeartbeats 4000000 in
theorem post_any (ht:TxtOk w0 T) (HX:XC w0 T R q or m) (hG:Gk or) (w:World) (p:Pst) (r:Ex × Pst) (h:Cx w0 T R q w p) (k:Nat) (hk:k≤100000) (hg:p.g+m≤mostG) (hr:postF T or k p=some r) :
   Calls Tryz.prog 175 #[at0 q] w (OutX w0 T R q w r.1.nd r.2):=by
 unfold postF at hr
 cases hp:primaryF T or k p with
 | none=>rw [hp] at hr; cases hr
 | some y =>
   obtain ⟨x,p1⟩:=y
   rw [hp] at hr
   dsimp only at hr
   have HP:=Lib.hid (primary_any ht HX hG _ p (x,p1) (h.alloc exZ) k hk hg hp)
   have HG1:Hid (p1.g=p.g):=Lib.hid (primaryF_g hG k _ _ hp)
   have HSS:=Lib.hid (fun p' w' (h':Cx w0 T R q w' p')=>sign_made ht h' [[91]] #[.string ⟨#[91]⟩] 9 1 1 rfl rfl (by decide) (by decide))
   have HMM:=Lib.hid (fun p' w' (h':Cx w0 T R q w' p')=>must_any ht h' [93] ⟨#[93]⟩ rfl (by decide))
   have HGG:=Lib.hid (fun p':Pst=>one_g T 5 [[91]] p')
   have HXX:=Lib.hid (fun w' p' (rr:Ex × Pst) (h':Cx w0 T R q w' p') (hg':p'.g=p.g) (ho':or p'=some rr)=>HX w' p' rr h' (by omega) ho')
   have HR:=Lib.hid hr
   have H0:=Lib.hid h
   have HZ:=Lib.hid (heap_new w exZ)
   have hq:=h.lt
   have hqa:¬ w.heap.size=q:=by omega
   clear h ht HX hp hr hg
   unfold at0 exZ at *
   go_enter Tryz.func175,Tryz.ntmps175
   go_upto_region 2 with (first
     | (go_at_call 204
        refine HP.out.mono ?_
        rintro e w2 ⟨v2,rfl,hx2,h2,hk2⟩
        obtain ⟨k0,s0,n0,l0⟩:=x
        obtain ⟨y,rfl,-,-,hy⟩:=(Ex.rd k0 s0 n0 l0 v2).1 hx2
        obtain ⟨A2,n2,c2,rfl⟩:=hy.row_form
        have HC2:=Lib.hid h2
        have HK2:=Lib.hid (((Kp.refl q w).alloc _).trans hk2)
        have HE2:=Lib.hid (EAt.made (w:=w) (b:=w.alloc (.cells #[.int .u8 0,.string ⟨#[]⟩,.int .i64 0,.slice none 0 0] 276)) (hk2.heap HZ.out hqa) (by simp) (by simp) hx2)
        have hz2:=lt_heap (hk2.heap HZ.out hqa)
        clear h2 hk2 hx2 hy)
     | (fail))
   go_loopg [] k (fun g wr=>∃ (x:Ex) (pj:Pst) (k0:Nat) (s0:List Nat) (n0:Int) (A:Option Addr) (n c:Nat),Hid (placesF T or g x pj=some r)∧Hid (pj.g=p.g)∧Hid (EAt w wr w.heap.size w2.heap.size x k0 s0 n0 A n c)∧Hid (Cx w0 T R q wr pj)∧Hid (Kp q w wr))
   case atStart=>exact ⟨_,p1,k0,s0,n0,A2,n2,c2,HR,HG1,HE2,Lib.hid (HC2.out.alloc _),Lib.hid (HK2.out.alloc _)⟩
   case round =>
     obtain ⟨x,pj,k0,s0,n0,A,n,c,HF,HGJ,HE,HCj,HKj⟩:=hrel
     cases gk with
     | zero=>exact absurd HF.out (by simp [placesF])
     | succ g =>
       have hF:=HF.out
       rw [placesF] at hF
       have HS4:=Lib.hid (HSS.out pj wr HCj.out)
       have hg4:=HGG.out pj
       obtain ⟨s4,p4,hP4⟩:∃ s4 p4,pj.one T 5 [[91]]=(s4,p4):=⟨_, _,rfl⟩
       rw [hP4] at hF HS4 hg4
       dsimp only at hF HS4 hg4
       have he4:(strOf s4).toList.isEmpty=decide (s4=[]):=one_empty _
       have hszr:w.heap.size≤wr.heap.size:=HKj.out.size
       have hqb:¬ w2.heap.size=q:=by have:=HK2.out.size; omega
       have hlw:w.heap.size<w2.heap.size:=hz2
       clear hP4 HE2 HC2
       by_cases h4:s4=[]
       · rw [if_pos h4] at hF
         rw [decide_eq_true h4] at he4
         cases hF
         clear HF h4 HXX HR hg4
         go_wp2_with (first
           | (go_at_call 172
              refine HS4.out.mono ?_
              rintro e w5 ⟨rfl,h5,hk5⟩
              have HH5:=Lib.hid h5
              have HK5:=Lib.hid (HKj.out.trans hk5)
              have HE5:=Lib.hid (HE.out.kp hk5 hq hqa hqb)
              obtain ⟨⟨d0,d1,d2,d3⟩,-⟩:=box4f HE5.out.e
              obtain ⟨⟨i0,i1,i2,i3⟩,f0,f1,f2,f3⟩:=box4f HE5.out.z
              have hz5:=lt_heap HE5.out.z
              clear h5 hk5)
           | (fail))
         obtain ⟨⟨e0,e1,e2,e3⟩,-⟩:=box4f (set4 HE5.out.z (.int .u8 (k0:Int)) (.string (strOf s0)) (.int .i64 n0) (.slice A n c))
         refine bodyPost_ret (v := .agg #[.int .u8 (k0:Int),.string (strOf s0),.int .i64 n0,.slice A n c]) (by simp [results,Tryz.results175,go_sem,e0,e1,e2,e3]) rfl ?_
         exact endX H0.out HH5.out HK5.out (Nat.le_refl _) HE5.out.r (fun b hb=>⟨hb.2.1,hb.1⟩)
       · rw [if_neg h4] at hF
         rw [decide_eq_false h4] at he4
         cases ho4:or p4 with
         | none=>rw [ho4] at hF; cases hF
         | some y4 =>
           obtain ⟨x4,p5⟩:=y4
           rw [ho4] at hF
           dsimp only at hF
           have HF5:=Lib.hid hF
           have HG5:Hid ((p5.must T [93]).2.g=p.g):=Lib.hid (by have:=hG _ _ ho4; rw [must_g,show p5.g = _ from this,hg4,HGJ.out])
           have HX4:=Lib.hid (fun w' (h':Cx w0 T R q w' p4)=>HXX.out w' p4 _ h' (by rw [hg4,HGJ.out]) ho4)
           clear HF hF h4 HR hg4 ho4 HSS HXX HGG
           go_upto_region 3 with (first
             | (go_at_call 172
                refine HS4.out.mono ?_
                rintro e w5 ⟨rfl,h5,hk5⟩
                have HH5:=Lib.hid h5
                have HK5:=Lib.hid (HKj.out.trans hk5)
                have HE5:=Lib.hid (HE.out.kp hk5 hq hqa hqb)
                clear h5 hk5)
             | (fail))
           obtain ⟨⟨d0,d1,d2,d3⟩,-⟩:=box4f HE5.out.e
           obtain ⟨⟨-,-,-,-,-,-,-,-,-,-,c10⟩,-⟩:=box11 HH5.out.hp
           unfold lvF at0 at c10
           have hlt5:=HH5.out.lt
           have hz5:=lt_heap HE5.out.e
           have HL5:=Lib.hid (lt_heap HE5.out.z)
           go_cut [] (fun wx=>∃ A' ,Hid (EAt w wx w.heap.size w2.heap.size (.mk 8 [] 0 [x,x4]) 8 [] 0 A' 2 2)∧Hid (Cx w0 T R q wx p5)∧Hid (Kp q w wx))
           case first =>
             go_region_law (first
               | (go_simp
                  go_at_call 171
                  refine (HX4.out _ HH5.out.drew).mono ?_
                  rintro e w6 ⟨v6,rfl,hx6,h6,hk6⟩
                  have hk6':Kp q w5 w6:=((Kp.refl q w5).drew).trans hk6
                  obtain ⟨k1,s1,n1,l1⟩:=x4
                  obtain ⟨y,rfl,-,-,hy⟩:=(Ex.rd k1 s1 n1 l1 v6).1 hx6
                  obtain ⟨A1,m1,c1,rfl⟩:=hy.row_form
                  have HX6:Hid (Rd w6 (Nw w5 w6) (Ex.nd (.mk k1 s1 n1 l1)) (.agg #[.int .u8 (k1:Int),.string (strOf s1),.int .i64 n1,.slice A1 m1 c1])):=Lib.hid hx6
                  have HC6:=Lib.hid h6
                  have HE6:=Lib.hid (HE5.out.kp hk6' hq hqa hqb)
                  have HK6:=Lib.hid (HK5.out.trans hk6')
                  obtain ⟨⟨i0,i1,i2,i3⟩,f0,f1,f2,f3⟩:=box4f HE6.out.e
                  have hz6:=lt_heap HE6.out.e
                  clear h6 hk6 hk6' hx6 hy)
               | (fail))
             all_goals
               go_wp2_with fail
               go_meet
               case rel =>
                 exact ⟨some ⟨w6.heap.size,0,none⟩,Lib.hid (EAt.step HE6.out HX6.out (by omega) (by omega) hz5 (by omega) (Nat.le_refl _) 8 [] ⟨by simp,by simp⟩),Lib.hid ((H0.out.p4 HC6.out HK6.out (by omega)).alloc _),Lib.hid ((HK6.out.p4 (by omega)).alloc _)⟩
           case rest =>
             obtain ⟨A',HE6,HC6,HK6⟩:=hcut
             have HM6:=Lib.hid (HMM.out p5 wc HC6.out)
             clear HE HE5 HCj HKj HS4 HX4 HH5 HK5 d0 d1 d2 d3 c10
             go_wp2_with (first
               | (go_at_call 181
                  refine HM6.out.mono ?_
                  rintro e w7 ⟨rfl,h7,hk7⟩
                  have HH7:=Lib.hid h7
                  have HK7:=Lib.hid (HK6.out.trans hk7)
                  have HE7:=Lib.hid (HE6.out.kp hk7 hq hqa hqb)
                  clear h7 hk7)
               | (fail))
             go_roundg g
             case measure=>omega
             case rel=>exact ⟨_, _,8,[],0,A',2,2,HF5,HG5,HE7,HH7,HK7⟩
end
end Go.Proofs.YtcmopnkldplngabGreatDoor
namespace Go.Proofs.YtcmopnkldplngabGreatDoor
open Go.RowKit
set_option linter.unusedVariables false
section
variable {w0:World} {T:List Nat} {R:Ru} {q:Nat}
def RC (w0:World) (T:List Nat) (R:Ru) (q:Nat) (f:FuncId) (args:Array Value) (B:Rr Ex) (m:Nat):Prop:=∀ w p (r:Ex × Pst),Cx w0 T R q w p→p.g+m≤mostG→B p=some r→Calls Tryz.prog f args w (OutX w0 T R q w r.1.nd r.2)
def lvA (l:Lv):Array Value:=#[at0 l.bb,at0 l.bm,at0 l.bp,at0 l.bs]
set_option maxRecDepth 100000 in
set_option maxHeartbeats 4000000 in
theorem twosL_any (ht:TxtOk w0 T) {B:Rr Ex} {m:Nat} (l l2:Lv) (most:Nat) (hmost:most≤32768) (sg:List (List Nat)) (h8:∀ t∈sg,∀ x∈t,x<256) (hsl:sg.length≤1000) (hl:∀ w p,Cx w0 T R q w p→LvAt w q l (lvF l2) (most:Int) sg)
   (HB:RC w0 T R q 171 (lvA l2) B m) (hG:Gk B):RC w0 T R q 171 (lvA l) (twosF T B most sg) m:=by
 intro w p r h hg hr
 unfold twosF at hr
 cases hp:B p with
 | none=>rw [hp] at hr; cases hr
 | some y =>
   obtain ⟨x,p1⟩:=y
   rw [hp] at hr
   dsimp only at hr
   have HP:=Lib.hid (HB _ p (x,p1) (h.alloc exZ) hg hp)
   have HG1:Hid (p1.g=p.g):=Lib.hid (hG _ _ hp)
   have HXX:=Lib.hid (fun w' p' (rr:Ex × Pst) (h':Cx w0 T R q w' p') (hg':p'.g=p.g) (ho':B p'=some rr)=>HB w' p' rr h' (by omega) ho')
   have HLV:=Lib.hid hl
   have HSS:=Lib.hid (fun p' w' (h':Cx w0 T R q w' p')=>sign_any' ht h' sg (some ⟨l.sa,0,none⟩) sg.length sg.length rfl (Tx.cells (hl w' p' h').a) h8 hsl (fun a e=>by cases e; exact lt_heap (hl w' p' h').a))
   have HGG:=Lib.hid (fun p':Pst=>one_g T 5 sg p')
   have HOK:=Lib.hid (fun p' w' (h':Cx w0 T R q w' p')=>(one_sok ht 5 sg h'.ok).1)
   have HR:=Lib.hid hr
   have H0:=Lib.hid h
   have HZ:=Lib.hid (heap_new w exZ)
   have hq:=h.lt
   have hqa:¬ w.heap.size=q:=by omega
   have b0:=cell_of_one (hl _ _ (h.alloc exZ)).b
   have hbl:=lt_heap (hl _ _ h).b
   have b0':=cell_of_one (hl _ _ h).b
   obtain ⟨ns,hns⟩:∃ n,Hid (sg.length=n):=⟨_,Lib.hid rfl⟩
   clear h ht HB hp hr hg hl h8 hsl
   unfold lvF lvA at0 exZ at *
   go_enter Tryz.func171,Tryz.ntmps171
   go_upto_region 2 with (first
     | (go_at_call 171
        refine HP.out.mono ?_
        rintro e w2 ⟨v2,rfl,hx2,h2,hk2⟩
        obtain ⟨k0,s0,n0,l0⟩:=x
        obtain ⟨y,rfl,-,-,hy⟩:=(Ex.rd k0 s0 n0 l0 v2).1 hx2
        obtain ⟨A2,n2,c2,rfl⟩:=hy.row_form
        have HC2:=Lib.hid h2
        have HK2:=Lib.hid (((Kp.refl q w).alloc _).trans hk2)
        have HE2:=Lib.hid (EAt.made (w:=w) (b:=w.alloc (.cells #[.int .u8 0,.string ⟨#[]⟩,.int .i64 0,.slice none 0 0] 276)) (hk2.heap HZ.out hqa) (by simp) (by simp) hx2)
        have hz2:=lt_heap (hk2.heap HZ.out hqa)
        clear h2 hk2 hx2 hy b0 b0' hbl)
     | (fail))
   have m1:=cell_of_one (HLV.out _ _ (HC2.out.alloc (.cells #[.int .u8 (k0:Int),.string (strOf s0),.int .i64 n0,.slice A2 n2 c2] 276))).m
   go_upto_region 3 with fail
   clear m1
   go_loopg [10] most (fun g i wr=>∃ (j:Nat) (x:Ex) (pj:Pst) (k0:Nat) (s0:List Nat) (n0:Int) (A:Option Addr) (n c:Nat),i = .int .i64 (j:Int)∧j+g=most∧Hid (twoF T B sg g x pj=some r)∧Hid (pj.g=p.g)∧Hid (EAt w wr w.heap.size w2.heap.size x k0 s0 n0 A n c)∧Hid (Cx w0 T R q wr pj)∧Hid (Kp q w wr))
   case atStart=>exact ⟨0, _,p1,k0,s0,n0,A2,n2,c2,rfl,by omega,HR,HG1,HE2,Lib.hid (HC2.out.alloc _),Lib.hid (HK2.out.alloc _)⟩
   case round =>
     obtain ⟨j,x,pj,k0,s0,n0,A,n,c,rfl,hjg,HF,HGJ,HE,HCj,HKj⟩:=hrel
     have hszr:w.heap.size≤wr.heap.size:=HKj.out.size
     have hqb:¬ w2.heap.size=q:=by have:=HK2.out.size; omega
     have hlw:w.heap.size<w2.heap.size:=hz2
     have hF:=HF.out
     clear HE2 HC2 HF
     cases gk with
     | zero =>
       cases hF
       have hj1:¬ j<most:=by omega
       have hj2:¬ (j:Int)<(most:Int):=by omega
       obtain ⟨⟨d0,d1,d2,d3⟩,-⟩:=box4f HE.out.e
       obtain ⟨⟨i0,i1,i2,i3⟩,f0,f1,f2,f3⟩:=box4f HE.out.z
       have hz5:=lt_heap HE.out.z
       clear HXX HR HSS HGG HOK HLV hjg hj1
       go_wp2_with fail
       obtain ⟨⟨e0,e1,e2,e3⟩,-⟩:=box4f (set4 HE.out.z (.int .u8 (k0:Int)) (.string (strOf s0)) (.int .i64 n0) (.slice A n c))
       refine bodyPost_ret (v := .agg #[.int .u8 (k0:Int),.string (strOf s0),.int .i64 n0,.slice A n c]) (by simp [results,Tryz.results171,go_sem,e0,e1,e2,e3]) rfl ?_
       exact endX H0.out HCj.out HKj.out (Nat.le_refl _) HE.out.r (fun b hb=>⟨hb.2.1,hb.1⟩)
     | succ g =>
       rw [twoF] at hF
       have hj1:j<most:=by omega
       have hj2:(j:Int)<(most:Int):=by omega
       have hjm:(j:Int)≤32768:=by omega
       have HS4:=Lib.hid (HSS.out pj wr HCj.out)
       have HO4:=Lib.hid (HOK.out pj wr HCj.out)
       have hg4:=HGG.out pj
       obtain ⟨s4,p4,hP4⟩:∃ s4 p4,pj.one T 5 sg=(s4,p4):=⟨_, _,rfl⟩
       rw [hP4] at hF HS4 hg4 HO4
       rw [hns.out] at HS4
       dsimp only at hF HS4 hg4 HO4
       have he4:(strOf s4).toList.isEmpty=decide (s4=[]):=one_empty _
       have hLV:=HLV.out _ _ HCj.out
       have b1:=cell_of_one hLV.p
       have b2:=cell_of_one hLV.s
       rw [hns.out] at b2
       unfold at0 at b1
       clear hP4 hLV
       by_cases h4:s4=[]
       · rw [if_pos h4] at hF
         rw [decide_eq_true h4] at he4
         cases hF
         clear h4 HXX HR hg4 HSS HGG HOK HLV hjg hj1
         go_wp2_with (first
           | (go_at_call 172
              refine HS4.out.mono ?_
              rintro e w5 ⟨rfl,h5,hk5⟩
              have HH5:=Lib.hid h5
              have HK5:=Lib.hid (HKj.out.trans hk5)
              have HE5:=Lib.hid (HE.out.kp hk5 hq hqa hqb)
              obtain ⟨⟨d0,d1,d2,d3⟩,-⟩:=box4f HE5.out.e
              obtain ⟨⟨i0,i1,i2,i3⟩,f0,f1,f2,f3⟩:=box4f HE5.out.z
              have hz5:=lt_heap HE5.out.z
              clear h5 hk5 b1 b2)
           | (fail))
         obtain ⟨⟨e0,e1,e2,e3⟩,-⟩:=box4f (set4 HE5.out.z (.int .u8 (k0:Int)) (.string (strOf s0)) (.int .i64 n0) (.slice A n c))
         refine bodyPost_ret (v := .agg #[.int .u8 (k0:Int),.string (strOf s0),.int .i64 n0,.slice A n c]) (by simp [results,Tryz.results171,go_sem,e0,e1,e2,e3]) rfl ?_
         exact endX H0.out HH5.out HK5.out (Nat.le_refl _) HE5.out.r (fun b hb=>⟨hb.2.1,hb.1⟩)
       · rw [if_neg h4] at hF
         rw [decide_eq_false h4] at he4
         cases ho4:B p4 with
         | none=>rw [ho4] at hF; cases hF
         | some y4 =>
           obtain ⟨x4,p5⟩:=y4
           rw [ho4] at hF
           dsimp only at hF
           have HF5:=Lib.hid hF
           have HG5:Hid (p5.g=p.g):=Lib.hid (by have:=hG _ _ ho4; rw [show p5.g = _ from this,hg4,HGJ.out])
           have HX4:=Lib.hid (fun w' (h':Cx w0 T R q w' p4)=>HXX.out w' p4 _ h' (by rw [hg4,HGJ.out]) ho4)
           clear hF h4 HR hg4 ho4 HSS HXX HGG HOK
           go_upto_region 6 with (first
             | (go_at_call 172
                refine HS4.out.mono ?_
                rintro e w5 ⟨rfl,h5,hk5⟩
                have HH5:=Lib.hid h5
                have HK5:=Lib.hid (HKj.out.trans hk5)
                have HE5:=Lib.hid (HE.out.kp hk5 hq hqa hqb)
                clear h5 hk5 b1 b2)
             | (fail))
           obtain ⟨⟨d0,d1,d2,d3⟩,-⟩:=box4f HE5.out.e
           have c10:=cell_of_one (HLV.out _ _ HH5.out).b
           skip
           have hlt5:=HH5.out.lt
           have hz5:=lt_heap HE5.out.e
           have HL5:=Lib.hid (lt_heap HE5.out.z)
           clear HLV
           have hjw:(j:Int)+1≤32768:=by omega
           go_region_law (first
             | (go_simp
                go_at_call 171
                refine (HX4.out _ HH5.out.drew).mono ?_
                rintro e w6 ⟨v6,rfl,hx6,h6,hk6⟩
                have hk6':Kp q w5 w6:=((Kp.refl q w5).drew).trans hk6
                obtain ⟨k1,s1,n1,l1⟩:=x4
                obtain ⟨y,rfl,-,-,hy⟩:=(Ex.rd k1 s1 n1 l1 v6).1 hx6
                obtain ⟨A1,m1,c1,rfl⟩:=hy.row_form
                have HX6:Hid (Rd w6 (Nw w5 w6) (Ex.nd (.mk k1 s1 n1 l1)) (.agg #[.int .u8 (k1:Int),.string (strOf s1),.int .i64 n1,.slice A1 m1 c1])):=Lib.hid hx6
                have HC6:=Lib.hid h6
                have HE6:=Lib.hid (HE5.out.kp hk6' hq hqa hqb)
                have HK6:=Lib.hid (HK5.out.trans hk6')
                obtain ⟨⟨i0,i1,i2,i3⟩,f0,f1,f2,f3⟩:=box4f HE6.out.e
                have hz6:=lt_heap HE6.out.e
                clear h6 hk6 hk6' hx6 hy)
             | (fail))
           all_goals
             go_wp2_with fail
             go_roundg g
             case measure=>omega
             case rel =>
               exact ⟨j+1, _, _,7,s4,0,some ⟨w6.heap.size,0,none⟩,2,2,by go_num,by omega,HF5,HG5,Lib.hid (EAt.step HE6.out HX6.out (by omega) (by omega) hz5 (by omega) (Nat.le_refl _) 7 s4 HO4.out),Lib.hid ((H0.out.p4 HC6.out HK6.out (by omega)).alloc _),Lib.hid ((HK6.out.p4 (by omega)).alloc _)⟩
set_option maxRecDepth 100000 in
set_option maxHeartbeats 4000000 in
theorem twosU_any (ht:TxtOk w0 T) {B:Rr Ex} {m:Nat} (l:Lv) (most:Nat) (hmost:most≤32768) (sg:List (List Nat)) (h8:∀ t∈sg,∀ x∈t,x<256) (hsl:sg.length≤1000) (hl:∀ w p,Cx w0 T R q w p→LvAt w q l (unF q) (most:Int) sg)
   (HB:RC w0 T R q 140 #[at0 q] B m) (hG:Gk B):RC w0 T R q 171 (lvA l) (twosF T B most sg) m:=by
 intro w p r h hg hr
 unfold twosF at hr
 cases hp:B p with
 | none=>rw [hp] at hr; cases hr
 | some y =>
   obtain ⟨x,p1⟩:=y
   rw [hp] at hr
   dsimp only at hr
   have HP:=Lib.hid (HB _ p (x,p1) (h.alloc exZ) hg hp)
   have HG1:Hid (p1.g=p.g):=Lib.hid (hG _ _ hp)
   have HXX:=Lib.hid (fun w' p' (rr:Ex × Pst) (h':Cx w0 T R q w' p') (hg':p'.g=p.g) (ho':B p'=some rr)=>HB w' p' rr h' (by omega) ho')
   have HLV:=Lib.hid hl
   have HSS:=Lib.hid (fun p' w' (h':Cx w0 T R q w' p')=>sign_any' ht h' sg (some ⟨l.sa,0,none⟩) sg.length sg.length rfl (Tx.cells (hl w' p' h').a) h8 hsl (fun a e=>by cases e; exact lt_heap (hl w' p' h').a))
   have HGG:=Lib.hid (fun p':Pst=>one_g T 5 sg p')
   have HOK:=Lib.hid (fun p' w' (h':Cx w0 T R q w' p')=>(one_sok ht 5 sg h'.ok).1)
   have HR:=Lib.hid hr
   have H0:=Lib.hid h
   have HZ:=Lib.hid (heap_new w exZ)
   have hq:=h.lt
   have hqa:¬ w.heap.size=q:=by omega
   have b0:=cell_of_one (hl _ _ (h.alloc exZ)).b
   have hbl:=lt_heap (hl _ _ h).b
   have b0':=cell_of_one (hl _ _ h).b
   obtain ⟨ns,hns⟩:∃ n,Hid (sg.length=n):=⟨_,Lib.hid rfl⟩
   clear h ht HB hp hr hg hl h8 hsl
   unfold unF lvA at0 exZ at *
   go_enter Tryz.func171,Tryz.ntmps171
   go_upto_region 2 with (first
     | (go_at_call 140
        refine HP.out.mono ?_
        rintro e w2 ⟨v2,rfl,hx2,h2,hk2⟩
        obtain ⟨k0,s0,n0,l0⟩:=x
        obtain ⟨y,rfl,-,-,hy⟩:=(Ex.rd k0 s0 n0 l0 v2).1 hx2
        obtain ⟨A2,n2,c2,rfl⟩:=hy.row_form
        have HC2:=Lib.hid h2
        have HK2:=Lib.hid (((Kp.refl q w).alloc _).trans hk2)
        have HE2:=Lib.hid (EAt.made (w:=w) (b:=w.alloc (.cells #[.int .u8 0,.string ⟨#[]⟩,.int .i64 0,.slice none 0 0] 276)) (hk2.heap HZ.out hqa) (by simp) (by simp) hx2)
        have hz2:=lt_heap (hk2.heap HZ.out hqa)
        clear h2 hk2 hx2 hy b0 b0' hbl)
     | (fail))
   have m1:=cell_of_one (HLV.out _ _ (HC2.out.alloc (.cells #[.int .u8 (k0:Int),.string (strOf s0),.int .i64 n0,.slice A2 n2 c2] 276))).m
   go_upto_region 3 with fail
   clear m1
   go_loopg [10] most (fun g i wr=>∃ (j:Nat) (x:Ex) (pj:Pst) (k0:Nat) (s0:List Nat) (n0:Int) (A:Option Addr) (n c:Nat),i = .int .i64 (j:Int)∧j+g=most∧Hid (twoF T B sg g x pj=some r)∧Hid (pj.g=p.g)∧Hid (EAt w wr w.heap.size w2.heap.size x k0 s0 n0 A n c)∧Hid (Cx w0 T R q wr pj)∧Hid (Kp q w wr))
   case atStart=>exact ⟨0, _,p1,k0,s0,n0,A2,n2,c2,rfl,by omega,HR,HG1,HE2,Lib.hid (HC2.out.alloc _),Lib.hid (HK2.out.alloc _)⟩
   case round =>
     obtain ⟨j,x,pj,k0,s0,n0,A,n,c,rfl,hjg,HF,HGJ,HE,HCj,HKj⟩:=hrel
     have hszr:w.heap.size≤wr.heap.size:=HKj.out.size
     have hqb:¬ w2.heap.size=q:=by have:=HK2.out.size; omega
     have hlw:w.heap.size<w2.heap.size:=hz2
     have hF:=HF.out
     clear HE2 HC2 HF
     cases gk with
     | zero =>
       cases hF
       have hj1:¬ j<most:=by omega
       have hj2:¬ (j:Int)<(most:Int):=by omega
       obtain ⟨⟨d0,d1,d2,d3⟩,-⟩:=box4f HE.out.e
       obtain ⟨⟨i0,i1,i2,i3⟩,f0,f1,f2,f3⟩:=box4f HE.out.z
       have hz5:=lt_heap HE.out.z
       clear HXX HR HSS HGG HOK HLV hjg hj1
       go_wp2_with fail
       obtain ⟨⟨e0,e1,e2,e3⟩,-⟩:=box4f (set4 HE.out.z (.int .u8 (k0:Int)) (.string (strOf s0)) (.int .i64 n0) (.slice A n c))
       refine bodyPost_ret (v := .agg #[.int .u8 (k0:Int),.string (strOf s0),.int .i64 n0,.slice A n c]) (by simp [results,Tryz.results171,go_sem,e0,e1,e2,e3]) rfl ?_
       exact endX H0.out HCj.out HKj.out (Nat.le_refl _) HE.out.r (fun b hb=>⟨hb.2.1,hb.1⟩)
     | succ g =>
       rw [twoF] at hF
       have hj1:j<most:=by omega
       have hj2:(j:Int)<(most:Int):=by omega
       have hjm:(j:Int)≤32768:=by omega
       have HS4:=Lib.hid (HSS.out pj wr HCj.out)
       have HO4:=Lib.hid (HOK.out pj wr HCj.out)
       have hg4:=HGG.out pj
       obtain ⟨s4,p4,hP4⟩:∃ s4 p4,pj.one T 5 sg=(s4,p4):=⟨_, _,rfl⟩
       rw [hP4] at hF HS4 hg4 HO4
       rw [hns.out] at HS4
       dsimp only at hF HS4 hg4 HO4
       have he4:(strOf s4).toList.isEmpty=decide (s4=[]):=one_empty _
       have hLV:=HLV.out _ _ HCj.out
       have b1:=cell_of_one hLV.p
       have b2:=cell_of_one hLV.s
       rw [hns.out] at b2
       unfold at0 at b1
       clear hP4 hLV
       by_cases h4:s4=[]
       · rw [if_pos h4] at hF
         rw [decide_eq_true h4] at he4
         cases hF
         clear h4 HXX HR hg4 HSS HGG HOK HLV hjg hj1
         go_wp2_with (first
           | (go_at_call 172
              refine HS4.out.mono ?_
              rintro e w5 ⟨rfl,h5,hk5⟩
              have HH5:=Lib.hid h5
              have HK5:=Lib.hid (HKj.out.trans hk5)
              have HE5:=Lib.hid (HE.out.kp hk5 hq hqa hqb)
              obtain ⟨⟨d0,d1,d2,d3⟩,-⟩:=box4f HE5.out.e
              obtain ⟨⟨i0,i1,i2,i3⟩,f0,f1,f2,f3⟩:=box4f HE5.out.z
              have hz5:=lt_heap HE5.out.z
              clear h5 hk5 b1 b2)
           | (fail))
         obtain ⟨⟨e0,e1,e2,e3⟩,-⟩:=box4f (set4 HE5.out.z (.int .u8 (k0:Int)) (.string (strOf s0)) (.int .i64 n0) (.slice A n c))
         refine bodyPost_ret (v := .agg #[.int .u8 (k0:Int),.string (strOf s0),.int .i64 n0,.slice A n c]) (by simp [results,Tryz.results171,go_sem,e0,e1,e2,e3]) rfl ?_
         exact endX H0.out HH5.out HK5.out (Nat.le_refl _) HE5.out.r (fun b hb=>⟨hb.2.1,hb.1⟩)
       · rw [if_neg h4] at hF
         rw [decide_eq_false h4] at he4
         cases ho4:B p4 with
         | none=>rw [ho4] at hF; cases hF
         | some y4 =>
           obtain ⟨x4,p5⟩:=y4
           rw [ho4] at hF
           dsimp only at hF
           have HF5:=Lib.hid hF
           have HG5:Hid (p5.g=p.g):=Lib.hid (by have:=hG _ _ ho4; rw [show p5.g = _ from this,hg4,HGJ.out])
           have HX4:=Lib.hid (fun w' (h':Cx w0 T R q w' p4)=>HXX.out w' p4 _ h' (by rw [hg4,HGJ.out]) ho4)
           clear hF h4 HR hg4 ho4 HSS HXX HGG HOK
           go_upto_region 6 with (first
             | (go_at_call 172
                refine HS4.out.mono ?_
                rintro e w5 ⟨rfl,h5,hk5⟩
                have HH5:=Lib.hid h5
                have HK5:=Lib.hid (HKj.out.trans hk5)
                have HE5:=Lib.hid (HE.out.kp hk5 hq hqa hqb)
                clear h5 hk5 b1 b2)
             | (fail))
           obtain ⟨⟨d0,d1,d2,d3⟩,-⟩:=box4f HE5.out.e
           have c10:=cell_of_one (HLV.out _ _ HH5.out).b
           skip
           have hlt5:=HH5.out.lt
           have hz5:=lt_heap HE5.out.e
           have HL5:=Lib.hid (lt_heap HE5.out.z)
           clear HLV
           have hjw:(j:Int)+1≤32768:=by omega
           go_region_law (first
             | (go_simp
                go_at_call 140
                refine (HX4.out _ HH5.out.drew).mono ?_
                rintro e w6 ⟨v6,rfl,hx6,h6,hk6⟩
                have hk6':Kp q w5 w6:=((Kp.refl q w5).drew).trans hk6
                obtain ⟨k1,s1,n1,l1⟩:=x4
                obtain ⟨y,rfl,-,-,hy⟩:=(Ex.rd k1 s1 n1 l1 v6).1 hx6
                obtain ⟨A1,m1,c1,rfl⟩:=hy.row_form
                have HX6:Hid (Rd w6 (Nw w5 w6) (Ex.nd (.mk k1 s1 n1 l1)) (.agg #[.int .u8 (k1:Int),.string (strOf s1),.int .i64 n1,.slice A1 m1 c1])):=Lib.hid hx6
                have HC6:=Lib.hid h6
                have HE6:=Lib.hid (HE5.out.kp hk6' hq hqa hqb)
                have HK6:=Lib.hid (HK5.out.trans hk6')
                obtain ⟨⟨i0,i1,i2,i3⟩,f0,f1,f2,f3⟩:=box4f HE6.out.e
                have hz6:=lt_heap HE6.out.e
                clear h6 hk6 hk6' hx6 hy)
             | (fail))
           all_goals
             go_wp2_with fail
             go_roundg g
             case measure=>omega
             case rel =>
               exact ⟨j+1, _, _,7,s4,0,some ⟨w6.heap.size,0,none⟩,2,2,by go_num,by omega,HF5,HG5,Lib.hid (EAt.step HE6.out HX6.out (by omega) (by omega) hz5 (by omega) (Nat.le_refl _) 7 s4 HO4.out),Lib.hid ((H0.out.p4 HC6.out HK6.out (by omega)).alloc _),Lib.hid ((HK6.out.p4 (by omega)).alloc _)⟩
end
end Go.Proofs.YtcmopnkldplngabGreatDoor
