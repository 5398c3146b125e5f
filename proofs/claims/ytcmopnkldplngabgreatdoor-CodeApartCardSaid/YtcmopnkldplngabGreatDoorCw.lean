/- Package code: Compile: the walk. -/
import Derived.Test.YtcmopnkldplngabGreatDoorCrv
namespace Go.Proofs.YtcmopnkldplngabGreatDoor
open Go.RowKit
set_option linter.unusedVariables false
section
variable {base:Nat} {K:Bk} {E:Env} {w w':World} {cs:List Cst} {ts:Tss} {V:Vs}
theorem CmAt.rowk (h:CmAt base K E w cs ts V) {b sz n:Nat} {T:TypeId} {v:Value} {xs:List Value} (ho:w.ownsRow b T sz v n xs) (h1:T≠112) (h2:116≠T) (h3:9≠T) (hg:w.grownBy w' v.ownBlock):CmAt base K E w' cs ts V :=
 h.keep hg (fun e=>row_ne ho h.h (fun c fr e2=>by injection e2 with _ e3; exact h1 e3.symm) e.symm) (fun es cl b hb e=>row_ne ho hb (fun c fr e2=>by cases e2) e.symm) (rows_ne h.rc ho h2) (rows_ne h.rt ho h3)
theorem CmAt.setm (h:CmAt base K E w cs ts V) {g i:Nat} {arr:Array Value} {T:TypeId} (hq:w.heap[g]?=some (.cells arr T (0,0))) (h1:T≠112) (h2:T≠116) (h3:T≠9) (v:Value):CmAt base K E (w.setCell ⟨g,i,none⟩ v) cs ts V:=by
 refine h.keep ((Kp.refl g w).set (p:=⟨g,i,none⟩) rfl v) (fun e=>?_) (fun es cl b hb e=>?_) (.inr (row_ne h.rc hq (fun c fr e=>by injection e with _ e3; exact h2 e3))) (.inr (row_ne h.rt hq (fun c fr e=>by injection e with _ e3; exact h3 e3)))
 · cases Option.some.inj e
   rw [h.h] at hq
   injection hq with hq
   injection hq with _ e3
   exact h1 e3.symm
 · cases Option.some.inj e
   rw [hq] at hb
   cases hb
theorem fn_out {f:Fnc} {X:ByteArray} {e:Ending} (h:OutFn base K E w cs ts f e w') (hX:strOf f.name=X) (hb:base≤w.heap.size):∃ (A:Option Addr) (c:Nat) (V':Vs),e = .returned (.agg #[.string X,.int .i64 (f.params:Int),.int .i64 (f.vars:Int),.slice A f.code.length c])∧w'.ownsRow base 45 3 (.slice A f.code.length c) f.code.length (ivs f.code)∧CmAt base K E w' cs ts V'∧Kc base K w w':=by
 obtain ⟨v,V',rfl,⟨k,rfl,hk⟩,hC,hK⟩:=h
 obtain ⟨A,c,rfl,-,-⟩:=row_form hk
 exact ⟨A,c,V',by rw [hX],own_le hk hb,hC,hK⟩
theorem fn_more {gm:Nat} {mk:Mk} {W1 w5:World} {vF k:Value} {f:Fnc} {xs:List Value} (hC:CmAt base K E w5 cs ts V) (hM:MdAt base w5 gm (.slice none 0 0) (.slice none 0 0) vF (.slice none 0 0) mk.fns []) (ho:w5.ownsRow base 42 4 vF mk.fns.length xs) (hx:FnsX w5 base mk.fns xs)
   (hf:w5.ownsRow base 45 3 k f.code.length (ivs f.code)) (hB:Below base W1 w5) (hbw:base≤W1.heap.size) (hgm:base≤gm) (X:ByteArray) (hX:strOf f.name=X) {w7:World} {v7:Value}
   (ho7:w7.ownsRow base 42 4 v7 (mk.fns.length+1) (xs ++ [.string X,.int .i64 (f.params:Int),.int .i64 (f.vars:Int),k]))
   (hg7:(w5.alloc (.cells #[.string X,.int .i64 (f.params:Int),.int .i64 (f.vars:Int),k] 42)).grownBy w7 vF.ownBlock) :
   CmAt base K E (w7.setCell ⟨gm,2,none⟩ v7) cs ts V∧MdAt base (w7.setCell ⟨gm,2,none⟩ v7) gm (.slice none 0 0) (.slice none 0 0) v7 (.slice none 0 0) (mk.fns ++ [f]) []∧Below base W1 (w7.setCell ⟨gm,2,none⟩ v7)∧w7.heap[gm]?=some (.cells #[.slice none 0 0,.slice none 0 0,vF,.slice none 0 0] 33 (0,0)):=by
 subst hX
 have hba:Below w5.heap.size w5 (w5.alloc (.cells #[.string (strOf f.name),.int .i64 (f.params:Int),.int .i64 (f.vars:Int),k] 42)):=(Below.refl _ _).alloc (Nat.le_refl _) _
 have ho':=ownsRow_below' ho hba
 have q7:=(hg7.block gm (by have:=lt_heap hM.h; have:=hba.size; omega) (fun e=>row_ne ho' (heap_below hM.h hba) (fun c fr e2=>by injection e2 with _ e3; exact absurd e3 (by decide)) e.symm)).trans (heap_below hM.h hba)
 have hC7:=((hC.below hba).rowk ho' (by decide) (by decide) (by decide) hg7).setm (i:=2) q7 (by decide) (by decide) (by decide) v7
 have hB6:=(hB.trans (hba.mono (by have:=hB.size; omega))).grown hg7 (by have:=hB.size; have:=hba.size; omega) (fun k e=>(World.ownsRow.lt ho k e).1)
 have hB7:=hB6.grown ((Kp.refl gm w7).set (p:=⟨gm,2,none⟩) rfl v7) (by have:=hB6.size; omega) (fun k e=>by cases e; exact hgm)
 exact ⟨hC7,MdAt.fn (hM.below hba) ho' (FnsX.keep (fun g c fr _ hc=>hba.block g (lt_heap hc)) _ _ hx) (ownsRow_below' hf hba) ho7 hg7,hB7,q7⟩
theorem fn_more2 {gm:Nat} {fns:List Fnc} {W1 w5:World} {vF vR k:Value} {f:Fnc} {xs:List Value} (hC:CmAt base K E w5 cs ts V) (hM:MdF base w5 gm vF vR fns) (ho:w5.ownsRow base 42 4 vF fns.length xs) (hx:FnsX w5 base fns xs)
   (hf:w5.ownsRow base 45 3 k f.code.length (ivs f.code)) (hB:Below base W1 w5) (hbw:base≤W1.heap.size) (hgm:base≤gm) (X:ByteArray) (hX:strOf f.name=X) {w7:World} {v7:Value}
   (ho7:w7.ownsRow base 42 4 v7 (fns.length+1) (xs ++ [.string X,.int .i64 (f.params:Int),.int .i64 (f.vars:Int),k]))
   (hg7:(w5.alloc (.cells #[.string X,.int .i64 (f.params:Int),.int .i64 (f.vars:Int),k] 42)).grownBy w7 vF.ownBlock) :
   CmAt base K E (w7.setCell ⟨gm,2,none⟩ v7) cs ts V∧MdF base (w7.setCell ⟨gm,2,none⟩ v7) gm v7 vR (fns ++ [f])∧Below base W1 (w7.setCell ⟨gm,2,none⟩ v7)∧w7.heap[gm]?=some (.cells #[.slice none 0 0,.slice none 0 0,vF,vR] 33 (0,0))∧KT w5 (w7.setCell ⟨gm,2,none⟩ v7) [100,102,45,90,87]:=by
 subst hX
 have hba:Below w5.heap.size w5 (w5.alloc (.cells #[.string (strOf f.name),.int .i64 (f.params:Int),.int .i64 (f.vars:Int),k] 42)):=(Below.refl _ _).alloc (Nat.le_refl _) _
 have ho':=ownsRow_below' ho hba
 have q7:=(hg7.block gm (by have:=lt_heap hM.h; have:=hba.size; omega) (fun e=>row_ne ho' (heap_below hM.h hba) (fun c fr e2=>by injection e2 with _ e3; exact absurd e3 (by decide)) e.symm)).trans (heap_below hM.h hba)
 have hC7:=((hC.below hba).rowk ho' (by decide) (by decide) (by decide) hg7).setm (i:=2) q7 (by decide) (by decide) (by decide) v7
 have hB6:=(hB.trans (hba.mono (by have:=hB.size; omega))).grown hg7 (by have:=hB.size; have:=hba.size; omega) (fun k e=>(World.ownsRow.lt ho k e).1)
 have hB7:=hB6.grown ((Kp.refl gm w7).set (p:=⟨gm,2,none⟩) rfl v7) (by have:=hB6.size; omega) (fun k e=>by cases e; exact hgm)
 have hMB:MdF base (w5.alloc (.cells #[.string (strOf f.name),.int .i64 (f.params:Int),.int .i64 (f.vars:Int),k] 42)) gm vF vR fns:=hM.keep (KT.of_below hba [33,42,45]) (by simp) (by simp) (by simp)
 obtain ⟨m1,m2⟩:=MdF.fn hMB ho' (FnsX.keep (fun g c fr _ hc=>hba.block g (lt_heap hc)) _ _ hx) (ownsRow_below' hf hba) ho7 hg7
 exact ⟨hC7,m1,hB7,q7,(KT.of_below hba _).trans m2⟩
theorem on_more {wo w5 W1:World} {z0 gp:Nat} {X Y:ByteArray} {n:Int} {v:Value} {l:List Onn} {o:Onn} (hY:strOf o.tag=Y) (hC:CmAt base K E w5 cs ts V) (hP:PtAt z0 w5 gp X n v l) (hB:Below base W1 w5) (hK:KT wo w5 [100,102]) (hz:wo.heap.size≤z0) (hgp:z0≤gp) (hbz:base≤z0) (hbw:base≤W1.heap.size) {w7:World} {v7:Value}
   (ho7:w7.ownsRow z0 102 3 v7 (l.length+1) (onVs l ++ [.string Y,.int .i64 (o.params:Int),.int .i64 (o.fn:Int)]))
   (hg7:(w5.alloc (.cells #[.string Y,.int .i64 (o.params:Int),.int .i64 (o.fn:Int)] 102)).grownBy w7 v.ownBlock) :
   CmAt base K E (w7.setCell ⟨gp,2,none⟩ v7) cs ts V∧PtAt z0 (w7.setCell ⟨gp,2,none⟩ v7) gp X n v7 (l ++ [o])∧Below base W1 (w7.setCell ⟨gp,2,none⟩ v7)∧KT wo (w7.setCell ⟨gp,2,none⟩ v7) [100,102]∧KT w5 (w7.setCell ⟨gp,2,none⟩ v7) [33,42,45,90,87]∧w7.heap[gp]?=some (.cells #[.string X,.int .i64 n,v] 100 (0,0)):=by
 subst hY
 have hba:Below w5.heap.size w5 (w5.alloc (.cells #[.string (strOf o.tag),.int .i64 (o.params:Int),.int .i64 (o.fn:Int)] 102)):=(Below.refl _ _).alloc (Nat.le_refl _) _
 have ho':=ownsRow_below' hP.o hba
 have hPA:PtAt z0 (w5.alloc (.cells #[.string (strOf o.tag),.int .i64 (o.params:Int),.int .i64 (o.fn:Int)] 102)) gp X n v l:=hP.keep (KT.of_below hba [100,102]) (by simp) (by simp)
 have k7:KT (w5.alloc (.cells #[.string (strOf o.tag),.int .i64 (o.params:Int),.int .i64 (o.fn:Int)] 102)) w7 [100]:=KT.of_row ho' hg7 (by decide)
 have q7:=k7.cells hPA.h (by simp)
 have hC7:=((hC.below hba).rowk ho' (by decide) (by decide) (by decide) hg7).setm (i:=2) q7 (by decide) (by decide) (by decide) v7
 have hB6:=(hB.trans (hba.mono (by have:=hB.size; omega))).grown hg7 (by have:=hB.size; have:=hba.size; omega) (fun k e=>Nat.le_trans hbz (World.ownsRow.lt hP.o k e).1)
 have hB7:=hB6.grown ((Kp.refl gp w7).set (p:=⟨gp,2,none⟩) rfl v7) (by have:=hB6.size; omega) (fun k e=>by cases e; omega)
 have ka:KT (w5.alloc (.cells #[.string (strOf o.tag),.int .i64 (o.params:Int),.int .i64 (o.fn:Int)] 102)) w7 [33,42,45,90,87]:=KT.of_row ho' hg7 (by decide)
 have kb:KT w7 (w7.setCell ⟨gp,2,none⟩ v7) [33,42,45,90,87]:=KT.of_set q7 (by decide) v7
 refine ⟨hC7,PtAt.on hPA ho7 hg7,hB7,fun g c T fr hc hT=>?_,((KT.of_below hba _).trans ka).trans kb,q7⟩
 have hg0:=lt_heap hc
 have e5:=hK g c T fr hc hT
 have hg5:g<w5.heap.size:=lt_heap (e5.trans hc)
 have e6:=hba.block g hg5
 have hg6:g<(w5.alloc (.cells #[.string (strOf o.tag),.int .i64 (o.params:Int),.int .i64 (o.fn:Int)] 102)).heap.size:=by have:=hba.size; omega
 have e7:=hg7.block g hg6 (fun e=>by have:=(World.ownsRow.lt hP.o g e.symm).1; omega)
 exact (Below.heap_setCell _ _ _ _ (fun e=>by have e:g=gp:=e; omega)).trans (e7.trans (e6.trans e5))
theorem part_more {gm:Nat} {W1 w5:World} {vF vR k:Value} {fns:List Fnc} {prs:List Prt} {p:Prt} {X:ByteArray} {xs:List Value} (hC:CmAt base K E w5 cs ts V) (hM:MdF base w5 gm vF vR fns) (hB:Below base W1 w5) (hbw:base≤W1.heap.size) (hgm:base≤gm) (hX:strOf p.name=X) (ho:w5.ownsRow base 100 3 vR prs.length xs) (hx:PrtX w5 base prs xs) (hon:w5.ownsRow base 102 3 k p.on.length (onVs p.on)) {w7:World} {v7:Value}
   (ho7:w7.ownsRow base 100 3 v7 (prs.length+1) (xs ++ [.string X,.int .i64 (p.params:Int),k]))
   (hg7:(w5.alloc (.cells #[.string X,.int .i64 (p.params:Int),k] 100)).grownBy w7 vR.ownBlock) :
   CmAt base K E (w7.setCell ⟨gm,3,none⟩ v7) cs ts V∧MdF base (w7.setCell ⟨gm,3,none⟩ v7) gm vF v7 fns∧RlsX (w7.setCell ⟨gm,3,none⟩ v7) base v7 (prs ++ [p])∧Below base W1 (w7.setCell ⟨gm,3,none⟩ v7)∧w7.heap[gm]?=some (.cells #[.slice none 0 0,.slice none 0 0,vF,vR] 33 (0,0)):=by
 subst hX
 have hba:Below w5.heap.size w5 (w5.alloc (.cells #[.string (strOf p.name),.int .i64 (p.params:Int),k] 100)):=(Below.refl _ _).alloc (Nat.le_refl _) _
 have ho':=ownsRow_below' ho hba
 have k7:KT (w5.alloc (.cells #[.string (strOf p.name),.int .i64 (p.params:Int),k] 100)) w7 [33,42,45,102]:=KT.of_row ho' hg7 (by decide)
 have q7:=k7.cells (heap_below hM.h hba) (by simp)
 have hC7:=((hC.below hba).rowk ho' (by decide) (by decide) (by decide) hg7).setm (i:=3) q7 (by decide) (by decide) (by decide) v7
 have hB6:=(hB.trans (hba.mono (by have:=hB.size; omega))).grown hg7 (by have:=hB.size; have:=hba.size; omega) (fun k e=>(World.ownsRow.lt ho k e).1)
 have hB7:=hB6.grown ((Kp.refl gm w7).set (p:=⟨gm,3,none⟩) rfl v7) (by have:=hB6.size; omega) (fun k e=>by cases e; omega)
 have kb:KT w7 (w7.setCell ⟨gm,3,none⟩ v7) [42,45,102,100]:=KT.of_set q7 (by decide) v7
 have ka:KT w5 (w7.setCell ⟨gm,3,none⟩ v7) [42,45,102]:=fun g c T fr hc hT=>by
   have h1:=hba.block g (lt_heap hc)
   have h2:=k7 g c T fr (h1.trans hc) (by simp at hT ⊢; rcases hT with h | h | h <;> simp [h])
   have h3:=kb g c T fr (h2.trans (h1.trans hc)) (by simp at hT ⊢; rcases hT with h | h | h <;> simp [h])
   exact h3.trans (h2.trans h1)
 obtain ⟨xf,hf1,hf2⟩:=hM.f
 refine ⟨hC7,⟨by simpa using heap_set q7 3 v7,xf,ka.own hf1 (by simp),FnsX.keep (fun g c fr _ hc=>ka g c _ fr hc (by simp)) _ _ hf2⟩,⟨_,?_,PrtX.snoc (ka.own hon (by simp)) _ _ (PrtX.keep (fun g c fr _ hc=>ka g c _ fr hc (by simp)) _ _ hx)⟩,hB7,q7⟩
 rw [List.length_append]
 exact kb.own ho7 (by simp)
theorem FnsX.mono {b':Nat} (hb:b'≤base):∀ (l:List Fnc) (xs:List Value),FnsX w base l xs→FnsX w b' l xs
 | [], _,h=>h
 | f :: r,xs,⟨k,ys,h1,h2,h3⟩=>⟨k,ys,h1,own_le h2 hb,FnsX.mono hb r ys h3⟩
theorem PrtX.mono {b':Nat} (hb:b'≤base):∀ (l:List Prt) (xs:List Value),PrtX w base l xs→PrtX w b' l xs
 | [], _,h=>h
 | f :: r,xs,⟨k,ys,h1,h2,h3⟩=>⟨k,ys,h1,own_le h2 hb,PrtX.mono hb r ys h3⟩
def MW (W:World) (a b:Nat) (c t F R z z':Value):World:=(((((W.setCell ⟨a,0,none⟩ c).setCell ⟨a,1,none⟩ t).setCell ⟨a,2,none⟩ F).setCell ⟨a,3,none⟩ R).setCell ⟨b,0,none⟩ z).setCell ⟨b,1,none⟩ z'
theorem mw_facts {W W':World} {a b B:Nat} {c t F R z z' c0 t0 F0 R0 z0 z1:Value} (h1:W.heap[a]?=some (.cells #[c0,t0,F0,R0] 33 (0,0))) (h2:W.heap[b]?=some (.cells #[z0,z1] 36 (0,0))) (hab:a≠b) (hB:Below B W' W) (ha:B≤a) (hb:B≤b) :
   (MW W a b c t F R z z').heap[a]?=some (.cells #[c,t,F,R] 33 (0,0))∧(MW W a b c t F R z z').heap[b]?=some (.cells #[z,z'] 36 (0,0))∧(∀ k,k≠a→k≠b→(MW W a b c t F R z z').heap[k]?=W.heap[k]?)∧Below B W' (MW W a b c t F R z z'):=by
 have q1:=heap_set h1 0 c
 have q2:=heap_set q1 1 t
 have q3:=heap_set q2 2 F
 have q4:=heap_set q3 3 R
 have q5:=heap_set_ne q4 hab 0 z
 have q6:=heap_set_ne q5 hab 1 z'
 have r1:=heap_set_ne h2 hab.symm 0 c
 have r2:=heap_set_ne r1 hab.symm 1 t
 have r3:=heap_set_ne r2 hab.symm 2 F
 have r4:=heap_set_ne r3 hab.symm 3 R
 have r5:=heap_set r4 0 z
 have r6:=heap_set r5 1 z'
 refine ⟨by simpa [MW] using q6,by simpa [MW] using r6,fun k k1 k2=>?_,(((((hB.setCell ha c).setCell ha t).setCell ha F).setCell ha R).setCell hb z).setCell hb z'⟩
 exact (Below.heap_setCell _ _ _ _ k2).trans ((Below.heap_setCell _ _ _ _ k2).trans ((Below.heap_setCell _ _ _ _ k1).trans ((Below.heap_setCell _ _ _ _ k1).trans ((Below.heap_setCell _ _ _ _ k1).trans (Below.heap_setCell _ _ _ _ k1)))))
theorem mod_end {wr WF:World} {b0 gm q1 q2:Nat} {vF vR:Value} {fns:List Fnc} {prs:List Prt} (hC:CmAt base K E wr cs ts V) (hM:MdF base wr gm vF vR fns) (hR:RlsX wr base vR prs) (hs:∀ k,k≠gm→k≠q1→k≠q2→WF.heap[k]?=wr.heap[k]?) (h1:q1<base) (h2:q2<base) (hb:b0≤base):ModV WF b0 ⟨cs,ts,fns,prs⟩ (.agg #[V.c,V.t,vF,vR]):=by
 have key:∀ (g:Nat) (c:Array Value) (T:TypeId) (fr:Nat × Nat),base≤g→wr.heap[g]?=some (.cells c T fr)→T≠33→WF.heap[g]?=wr.heap[g]?:=fun g c T fr hg hc hT=>hs g (fun e=>by
   rw [e,hM.h] at hc
   injection hc with hc
   injection hc with _ e3
   exact hT e3.symm) (by omega) (by omega)
 have own:∀ {sz n:Nat} {T:TypeId} {v:Value} {xs:List Value},wr.ownsRow base T sz v n xs→T≠33→WF.ownsRow b0 T sz v n xs:=fun ho hT=>own_le (own_same ho fun g hg=>by
   obtain ⟨c,fz,hc⟩:=own_kind ho g hg
   exact key g c _ fz (World.ownsRow.lt ho g hg).1 hc hT) hb
 obtain ⟨xf,hf1,hf2⟩:=hM.f
 obtain ⟨xr,hr1,hr2⟩:=hR
 exact ⟨V.c,V.t,vF,vR,rfl,own hC.rc (by decide),own hC.rt (by decide),⟨xf,own hf1 (by decide),FnsX.mono hb _ _ (FnsX.keep (fun g c fr hg hc=>key g c _ fr hg hc (by decide)) _ _ hf2)⟩,⟨xr,own hr1 (by decide),PrtX.mono hb _ _ (PrtX.keep (fun g c fr hg hc=>key g c _ fr hg hc (by decide)) _ _ hr2)⟩⟩
end
section
variable {S:Nat→Prop}
set_option maxRecDepth 100000 in
set_option maxHeartbeats 16000000 in
theorem compile_good (g:Pg) (hlen:g.fns.length+g.roles.length≤1000) (hT:2*totT g≤500000) (hOk:∀ b∈g.fns,BdOk b) (hOk2:∀ r∈g.roles,∀ b∈r.on,BdOk b) (w:World) (hw:Wt w) (v:Value) (hS:∀ b,S b→b<w.heap.size) (hr:Rd w S g.nd v) (hz0:(checkF g).1=0) :
   Calls Tryz.prog 8 #[v] w (OutCo w g):=by
 obtain ⟨y,z,rfl,hy,hz⟩:=(Pg.rd g v).1 hr
 obtain ⟨A1,m1,c1,rfl⟩:=hy.rowf
 obtain ⟨A2,m2,c2,rfl⟩:=hz.rowf
 have hr0:=hr
 rw [Rd] at hy hz
 obtain ⟨A1',c1',e1,hc1,hcm1,hr1⟩:=hy
 obtain ⟨A2',c2',e2,hc2,hcm2,hr2⟩:=hz
 cases e1
 cases e2
 rw [List.length_map] at hc1 hc2 hr hr0 ⊢
 rw [List.length_map] at hr hr0 ⊢
 obtain ⟨P,hP⟩:∃ P,Hid (Obj.cells #[.slice A1 g.fns.length c1,.slice A2 g.roles.length c2] 25 (0,0)=P):=⟨_,Lib.hid rfl⟩
 have HB0:Below w.heap.size w (((w.alloc P).alloc (.cells #[.slice none 0 0,.slice none 0 0,.slice none 0 0,.slice none 0 0] 33)).alloc (.cells #[.int .i64 0,.int .i64 0] 36)):=((two w P _).alloc (by simp; omega) _)
 have HP0:=heap_old (heap_old (heap_new w P) (.cells #[.slice none 0 0,.slice none 0 0,.slice none 0 0,.slice none 0 0] 33)) (.cells #[.int .i64 0,.int .i64 0] 36)
 have HM0:=heap_old (heap_new' (w.alloc P) (.cells #[.slice none 0 0,.slice none 0 0,.slice none 0 0,.slice none 0 0] 33) (w.heap.size+1) (by simp)) (.cells #[.int .i64 0,.int .i64 0] 36)
 have HF0:=heap_new' ((w.alloc P).alloc (.cells #[.slice none 0 0,.slice none 0 0,.slice none 0 0,.slice none 0 0] 33)) (.cells #[.int .i64 0,.int .i64 0] 36) (w.heap.size+2) (by simp)
 obtain ⟨W0,hW0⟩:∃ W0,Hid ((((w.alloc P).alloc (.cells #[.slice none 0 0,.slice none 0 0,.slice none 0 0,.slice none 0 0] 33)).alloc (.cells #[.int .i64 0,.int .i64 0] 36))=W0):=⟨_,Lib.hid rfl⟩
 rw [hW0.out] at HB0 HP0 HM0 HF0
 have hS0:∀ b,S b→b<W0.heap.size:=fun b hb=>Nat.lt_of_lt_of_le (hS b hb) HB0.size
 have HCK:=Lib.hid (check_any g (by omega) W0 (hw.below HB0) S _ hS0 (hr.keep (fun p hp=>HB0.cell (hS _ hp)) (fun _ h=>h)))
 have HNC:=Lib.hid (fun w' (hb:Below w.heap.size w w')=>newComp_any (S:=S) g w' _ (fun b h=>Nat.lt_of_lt_of_le (hS b h) hb.size) (hr0.keep (fun p hp=>hb.cell (hS _ hp)) (fun _ h=>h)) (by omega) (by omega))
 have HRF:=Lib.hid hr1
 have HRR:=Lib.hid hr2
 have HSS:=Lib.hid hS
 have HOK:=Lib.hid hOk
 have HOK2:=Lib.hid hOk2
 have HTT:=Lib.hid hT
 have HBW0:=Lib.hid HB0
 have HPW0:=Lib.hid HP0
 have HMW0:=Lib.hid HM0
 have HFW0:=Lib.hid HF0
 obtain ⟨er,her⟩:∃ er,Hid ((checkF g).1=er):=⟨_,Lib.hid rfl⟩
 obtain ⟨ln,hln⟩:∃ ln,Hid ((checkF g).2=ln):=⟨_,Lib.hid rfl⟩
 obtain ⟨l1,hl1⟩:∃ l,Hid (g.fns=l):=⟨_,Lib.hid rfl⟩
 obtain ⟨l2,hl2⟩:∃ l,Hid (g.roles=l):=⟨_,Lib.hid rfl⟩
 obtain ⟨n1,hn1⟩:∃ n,Hid (l1.length=n):=⟨_,Lib.hid rfl⟩
 obtain ⟨n2,hn2⟩:∃ n,Hid (l2.length=n):=⟨_,Lib.hid rfl⟩
 unfold OutF at HCK
 rw [her.out,hln.out] at HCK
 rw [hl1.out,hl2.out,hn1.out,hn2.out] at hP HCK HNC hlen ⊢
 rw [hl1.out] at HRF HOK hc1
 rw [hl2.out] at HRR HOK2 hc2
 rw [hn1.out] at hc1
 rw [hn2.out] at hc2
 have hP2:=hP.out
 unfold maxLen at hcm1 hcm2
 clear hr hr0 hr1 hr2 hS hT hOk hOk2 HB0 HP0 HM0 HF0 hS0 hw
 have hz:er=0:=by rw [← her.out]; exact hz0
 clear hz0
 subst hz
 go_enter Tryz.func8,Tryz.ntmps8
 go_upto_region 1 with fail
 rw [hW0.out]
 have hPP:=HPW0.out
 rw [← hP2] at hPP
 obtain ⟨⟨p0,p1⟩,-⟩:=bx2 hPP
 have hlp:=lt_heap hPP
 have HP2:=Lib.hid hP2
 clear hPP hP2
 go_wp2_with (first
   | (go_at_call 27
      refine HCK.out.mono ?_
      rintro e w1 ⟨rfl,hb1⟩
      have HB1:=Lib.hid (HBW0.out.trans (hb1.mono HBW0.out.size))
      have HP1:=Lib.hid (heap_below HPW0.out hb1)
      have hPP:=HP1.out
      rw [← HP2.out] at hPP
      obtain ⟨⟨p0,p1⟩,-⟩:=bx2 hPP
      have hlp:=lt_heap hPP
      have HN1:=Lib.hid (HNC.out (w1.alloc (.cells #[.int .i64 0,.int .i64 ln] 36)) (HB1.out.alloc HB1.out.size _))
      have HP3:=Lib.hid (heap_old HP1.out (.cells #[.int .i64 0,.int .i64 ln] 36))
      have HB3:=Lib.hid (HB1.out.alloc HB1.out.size (.cells #[.int .i64 0,.int .i64 ln] 36))
      have HM3:=Lib.hid (heap_old (heap_below HMW0.out hb1) (.cells #[.int .i64 0,.int .i64 ln] 36))
      have HF3:=Lib.hid (heap_old (heap_below HFW0.out hb1) (.cells #[.int .i64 0,.int .i64 ln] 36))
      obtain ⟨W1,hW1⟩:∃ W1,Hid (w1.alloc (.cells #[.int .i64 0,.int .i64 ln] 36)=W1):=⟨_,Lib.hid rfl⟩
      unfold OutNc at HN1
      rw [hW1.out] at HP3 HB3 HM3 HF3
      clear hb1 hPP)
   | (go_at_call 28
      refine HN1.out.mono ?_
      rintro e w2 ⟨K,rfl,hC,hBw,hqw⟩
      rw [hW1.out] at hC hBw
      have HC2:=Lib.hid hC
      have HB2:=Lib.hid hBw
      have hPP:=heap_below HP3.out hBw
      rw [← HP2.out] at hPP
      obtain ⟨⟨p0,p1⟩,-⟩:=bx2 hPP
      have hlp:=lt_heap hPP
      clear hC hBw hPP)
   | (fail))
 have hbn:w.heap.size≤W1.heap.size:=HB3.out.size
 have hbn2:W1.heap.size≤w2.heap.size:=HB2.out.size
 have HM2:Hid (MdAt W1.heap.size (w2.alloc (.cells #[.slice none 0 0,.slice none 0 0,.slice none 0 0,.slice none 0 0] 33)) w2.heap.size (.slice none 0 0) (.slice none 0 0) (.slice none 0 0) (.slice none 0 0) [] []):=Lib.hid ⟨heap_new _ _,⟨[],World.ownsRow_nil _ _ _ _,rfl⟩,⟨[],World.ownsRow_nil _ _ _ _,rfl⟩⟩
 have HC3:=Lib.hid (HC2.out.below ((Below.refl _ _).alloc (Nat.le_refl _) (.cells #[.slice none 0 0,.slice none 0 0,.slice none 0 0,.slice none 0 0] 33)))
 have HB4:=Lib.hid (HB2.out.alloc hbn2 (.cells #[.slice none 0 0,.slice none 0 0,.slice none 0 0,.slice none 0 0] 33))
 obtain ⟨E,hE⟩:∃ E,Hid (envP g=E):=⟨_,Lib.hid rfl⟩
 rw [hE.out] at HC3
 obtain ⟨M1,hM1⟩:∃ M,Hid (l1.foldl (Mk.fn E) ⟨[],[],[]⟩=M):=⟨_,Lib.hid rfl⟩
 obtain ⟨t1,ht1⟩:∃ t,Hid (fnsT l1=t):=⟨_,Lib.hid rfl⟩
 have ht2:2*t1≤500000:=by
   have:=HTT.out
   unfold totT at this
   rw [hl1.out,ht1.out] at this
   omega
 go_loopg [26] n1 (fun gg i wr=>∃ (j:Nat) (mk:Mk) (V:Vs) (Af:Option Addr) (cf:Nat),j+gg=n1∧i = .int .i64 (j:Int)∧Hid ((l1.drop j).foldl (Mk.fn E) mk=M1)∧mk.fns.length=j∧mk.cs.length+mk.ts.length+2*fnsT (l1.drop j)≤2*t1∧Hid (CmAt W1.heap.size K E wr mk.cs mk.ts V)∧Hid (MdAt W1.heap.size wr w2.heap.size (.slice none 0 0) (.slice none 0 0) (.slice Af j cf) (.slice none 0 0) mk.fns [])∧Hid (Below W1.heap.size W1 wr))
 case atStart=>exact ⟨0,⟨[],[],[]⟩, _,none,0,by omega,rfl,Lib.hid (by rw [List.drop_zero]; exact hM1.out),rfl,by rw [List.drop_zero,ht1.out]; simp,HC3,HM2,HB4⟩
 case round =>
   clear HM2 HC3 HB4 p0 p1 hlp
   obtain ⟨j,mk,V,Af,cf,hj,rfl,HF,hmj,htj,HC,HM,HB⟩:=hrel
   have hbr:=HB.out.size
   have HWR:=Lib.hid (HB3.out.trans (HB.out.mono hbn))
   have hqm:=lt_heap HM.out.h
   have c2:wr.cell? ⟨w2.heap.size,2,none⟩=some (.slice Af j cf):=cell_block HM.out.h 2
   cases gk with
   | zero =>
     have h1:¬ (j:Int)<(n1:Int):=by omega
     have hjn:l1.drop j=[]:=List.drop_eq_nil_of_le (by rw [hn1.out]; omega)
     have HE:Hid (mk=M1):=Lib.hid (by rw [← HF.out,hjn]; rfl)
     rw [hjn] at htj
     have hj2:j=n1:=by omega
     subst hj2
     rw [HE.out] at HC HM htj hmj
     have HML1:Hid (M1.fns.length=l1.length):=Lib.hid (hmj.trans hn1.out.symm)
     have HMF:Hid (MdF W1.heap.size wr w2.heap.size (.slice Af M1.fns.length cf) (.slice none 0 0) M1.fns):=Lib.hid (by rw [hmj]; exact ⟨HM.out.h,HM.out.f⟩)
     have HRX:Hid (RlsX wr W1.heap.size (.slice none 0 0) []):=Lib.hid ⟨[],World.ownsRow_nil _ _ _ _,rfl⟩
     obtain ⟨M2,hM2⟩:∃ M,Hid (rolesM E M1 l2=M):=⟨_,Lib.hid rfl⟩
     obtain ⟨PR,hPR⟩:∃ M,Hid (rolesP M1.fns.length l2=M):=⟨_,Lib.hid rfl⟩
     obtain ⟨t2,ht2'⟩:∃ t,Hid (rlsT l2=t):=⟨_,Lib.hid rfl⟩
     have htt:2*t1+2*t2≤500000:=by
       have:=HTT.out
       unfold totT at this
       rw [hl1.out,hl2.out,ht1.out,ht2'.out] at this
       omega
     have htz:M1.cs.length+M1.ts.length+M1.fns.length+2*t2≤501000:=by
       have e0:fnsT []=0:=rfl
       omega
     have hPP:=HB2.out
     have HPB:=Lib.hid (HP3.out)
     have hPX:wr.heap[w.heap.size]?=some P:=(HB.out.block _ (lt_heap HP3.out)).trans HP3.out
     rw [← HP2.out] at hPX
     obtain ⟨⟨p0,p1⟩,-⟩:=bx2 hPX
     have hlp:=lt_heap hPX
     clear HF HE hjn htj HM c2 hPP hPX
     go_wp2_with fail
     go_loopg [42] n2 (fun gg i wr=>∃ (j:Nat) (mk:Mk) (V:Vs) (Af:Option Addr) (cf:Nat) (Ar:Option Addr) (cr:Nat) (prs:List Prt),j+gg=n2∧i = .int .i64 (j:Int)∧Hid (rolesM E mk (l2.drop j)=M2)∧Hid (prs ++ rolesP mk.fns.length (l2.drop j)=PR)∧prs.length=j∧mk.cs.length+mk.ts.length+mk.fns.length+2*rlsT (l2.drop j)≤501000∧Hid (CmAt W1.heap.size K E wr mk.cs mk.ts V)∧Hid (MdF W1.heap.size wr w2.heap.size (.slice Af mk.fns.length cf) (.slice Ar j cr) mk.fns)∧Hid (RlsX wr W1.heap.size (.slice Ar j cr) prs)∧Hid (Below W1.heap.size W1 wr))
     case atStart=>exact ⟨0,M1, _,Af,cf,none,0,[],by omega,rfl,Lib.hid (by rw [List.drop_zero]; exact hM2.out),Lib.hid (by rw [List.drop_zero]; exact hPR.out),rfl,by rw [List.drop_zero,ht2'.out]; omega,HC,HMF,HRX,HB⟩
     case round =>
       clear HC HMF HRX HB p0 p1 hlp hqm hbr HWR hmj htz hj
       obtain ⟨j,mk,V,Af,cf,Ar,cr,prs,hj,rfl,HF,HPS,hmj,htj,HC,HM,HR,HB⟩:=hrel
       have hbr:=HB.out.size
       have HWR:=Lib.hid (HB3.out.trans (HB.out.mono hbn))
       have hqm:=lt_heap HM.out.h
       cases gk with
       | zero =>
         have h1:¬ (j:Int)<(n2:Int):=by omega
         have hdn:l2.drop j=[]:=List.drop_eq_nil_of_le (by rw [hn2.out]; omega)
         have HE:Hid (mk=M2):=Lib.hid (by rw [← HF.out,hdn]; rfl)
         have HE2:Hid (prs=PR):=Lib.hid (by rw [← HPS.out,hdn]; simp [rolesP])
         rw [HE.out] at HC HM
         rw [HE2.out] at HR hmj
         obtain ⟨Ac,cc,hVc,-,-⟩:=row_form HC.out.rc
         obtain ⟨At1,ct,hVt,-,-⟩:=row_form HC.out.rt
         have k6:wr.cell? ⟨K.qc,6,none⟩=some V.c:=cell_block HC.out.h 6
         have k8:wr.cell? ⟨K.qc,8,none⟩=some V.t:=cell_block HC.out.h 8
         have HVc:=Lib.hid hVc
         have HVt:=Lib.hid hVt
         rw [hVc] at k6
         rw [hVt] at k8
         have hqc:=lt_heap HC.out.h
         have m0:wr.cell? ⟨w2.heap.size,0,none⟩=some (.slice none 0 0):=cell_block HM.out.h 0
         have m1:wr.cell? ⟨w2.heap.size,1,none⟩=some (.slice none 0 0):=cell_block HM.out.h 1
         have m2:=free_block HM.out.h 0
         have m3:=free_block HM.out.h 1
         clear HF HPS HE HE2 hdn hVc hVt
         go_upto_region 23 with fail
         unfold at0
         go_region
         have hq1:=heap_set HM.out.h 0 (.slice Ac M2.cs.length cc)
         have hq2:=heap_set hq1 1 (.slice At1 (List.length M2.ts) ct)
         have hn9:∀ k,k≠w2.heap.size→(((wr.setCell ⟨w2.heap.size,0,none⟩ (.slice Ac M2.cs.length cc)).setCell ⟨w2.heap.size,1,none⟩ (.slice At1 (List.length M2.ts) ct)).drew).heap[k]?=wr.heap[k]?:=fun k hk=>(Below.heap_setCell _ _ _ _ hk).trans (Below.heap_setCell _ _ _ _ hk)
         have hb9:Below w.heap.size w (((wr.setCell ⟨w2.heap.size,0,none⟩ (.slice Ac M2.cs.length cc)).setCell ⟨w2.heap.size,1,none⟩ (.slice At1 (List.length M2.ts) ct)).drew):=((HWR.out.setCell (p:=⟨w2.heap.size,0,none⟩) (by show _ ≤ w2.heap.size; omega) _).setCell (p:=⟨w2.heap.size,1,none⟩) (by show _ ≤ w2.heap.size; omega) _).drew
         have hq9:(((wr.setCell ⟨w2.heap.size,0,none⟩ (.slice Ac M2.cs.length cc)).setCell ⟨w2.heap.size,1,none⟩ (.slice At1 (List.length M2.ts) ct)).drew).heap[w2.heap.size]?=some (.cells #[.slice Ac M2.cs.length cc,.slice At1 (List.length M2.ts) ct,.slice Af M2.fns.length cf,.slice Ar j cr] 33 (0,0)):=by
           simp at hq2
           exact hq2
         obtain ⟨W9,hW9⟩:∃ W,Hid (((wr.setCell ⟨w2.heap.size,0,none⟩ (.slice Ac M2.cs.length cc)).setCell ⟨w2.heap.size,1,none⟩ (.slice At1 (List.length M2.ts) ct)).drew=W):=⟨_,Lib.hid rfl⟩
         rw [hW9.out] at hn9 hb9 hq9 ⊢
         have hlm:=lt_heap HM3.out
         have hlf:=lt_heap HF3.out
         have hr9:W9.heap[w.heap.size+1]?=some (.cells #[.slice none 0 0,.slice none 0 0,.slice none 0 0,.slice none 0 0] 33 (0,0)):=(hn9 _ (by omega)).trans ((HB.out.block _ hlm).trans HM3.out)
         have hs9:W9.heap[w.heap.size+1+1]?=some (.cells #[.int .i64 0,.int .i64 0] 36 (0,0)):=(hn9 _ (by omega)).trans ((HB.out.block _ hlf).trans HF3.out)
         have HQ9:=Lib.hid hq9
         obtain ⟨⟨a0,a1,a2,a3⟩,-⟩:=box4f hq9
         obtain ⟨⟨b0,b1,b2,b3⟩,e0,e1,e2,e3⟩:=box4f hr9
         obtain ⟨⟨d0,d1⟩,f0,f1⟩:=bx2 hs9
         have HF9:=Lib.hid (mw_facts (c := .slice Ac M2.cs.length cc) (t := .slice At1 (List.length M2.ts) ct) (F := .slice Af M2.fns.length cf) (R := .slice Ar j cr) (z := .int .i64 0) (z' := .int .i64 0) hr9 hs9 (by omega) hb9 (by omega) (by omega))
         have hl9:=lt_heap hq9
         have hl10:=lt_heap hr9
         have hl11:=lt_heap hs9
         have HN9:=Lib.hid hn9
         clear hq1 hq2 hn9 hb9 hq9 hr9 hs9 k6 k8 m0 m1 m2 m3
         go_wp2_with fail
         obtain ⟨hA,hFo,hk9,hBo⟩:=HF9.out
         show bodyPost _ _ _ _ _ (MW W9 (w.heap.size+1) (w.heap.size+1+1) (.slice Ac M2.cs.length cc) (.slice At1 (List.length M2.ts) ct) (.slice Af M2.fns.length cf) (.slice Ar j cr) (.int .i64 0) (.int .i64 0))
         clear HF9
         generalize MW W9 (w.heap.size+1) (w.heap.size+1+1) (.slice Ac M2.cs.length cc) (.slice At1 (List.length M2.ts) ct) (.slice Af M2.fns.length cf) (.slice Ar j cr) (.int .i64 0) (.int .i64 0)=WF at hA hFo hk9 hBo ⊢
         obtain ⟨⟨p0,p1,p2,p3⟩,-⟩:=box4f hA
         obtain ⟨⟨s0,s1⟩,-⟩:=bx2 hFo
         have hmod:=mod_end (WF:=WF) (b0:=w.heap.size) (gm:=w2.heap.size) (q1:=w.heap.size+1) (q2:=w.heap.size+1+1) HC.out HM.out HR.out (fun k x1 x2 x3=>(hk9 k x2 x3).trans (HN9.out k x1)) hlm hlf hbn
         rw [HVc.out,HVt.out] at hmod
         have eC:compG g=⟨M2.cs,M2.ts,M2.fns,PR⟩:=by
           unfold compG mkP
           rw [hl1.out,hl2.out,hE.out,hM1.out,hM2.out,← HML1.out,hPR.out]
         rw [← eC] at hmod
         refine bodyPost_ret (v := .tuple #[.agg #[.slice Ac M2.cs.length cc,.slice At1 (List.length M2.ts) ct,.slice Af M2.fns.length cf,.slice Ar j cr],.agg #[.int .i64 0,.int .i64 0]]) (by simp [results,Tryz.results8,go_sem,p0,p1,p2,p3,s0,s1]) rfl ?_
         exact ⟨hBo,.inr ⟨her.out, _,rfl,hmod⟩⟩
       | succ gg =>
         have h1:(j:Int)<(n2:Int):=by omega
         have h2:j<n2:=by omega
         have hjl:j<l2.length:=by rw [hn2.out]; exact h2
         obtain ⟨bb,o,vs,rfl,hSb,hvl,hrg,hx⟩:=HRR.out.at j (Rl.nd l2[j]) (by simp [hjl])
         have HD:=Lib.hid (List.drop_eq_getElem_cons hjl)
         have HOKX:=Lib.hid (HOK2.out _ (List.getElem_mem hjl))
         generalize l2[j]=x at *
         obtain ⟨y,y',hv,h8,hl8,hy,hy1⟩:=(hd_rd x.name x.ps 4 (x.on.map Bd.nd) x.ln _).1 hx
         have HYR:=Lib.hid hy
         rw [Rd] at hy hy1
         obtain ⟨A3,c3,rfl,-,-,-⟩:=hy
         obtain ⟨A4,c4,rfl,hc4,hcm4,hr4⟩:=hy1
         rw [List.length_map] at hv HYR hc4
         rw [List.length_map] at hv
         have HR4:=Lib.hid hr4
         have hv2:vs=[.string (strOf x.name),.slice A3 x.ps.length c3,.slice A4 x.on.length c4,.int .i64 x.ln]:=by
           injection hv with hv
           have:=congrArg Array.toList hv
           simpa using this
         subst hv2
         have hcell:∀ i u,([.string (strOf x.name),.slice A3 x.ps.length c3,.slice A4 x.on.length c4,.int .i64 x.ln]:List Value)[i]?=some u→wr.cell? ⟨bb,o+j*4+i,none⟩=some u:=fun i u hu=>by
           have:=hrg i u hu
           rw [Nat.zero_add] at this
           exact (HWR.out.cell (p:=⟨bb,o+j*4+i,none⟩) (HSS.out bb hSb)).trans this
         have y0:wr.cell? ⟨bb,o+j*4,none⟩=some (.string (strOf x.name)):=hcell 0 _ rfl
         have y1:=hcell 1 _ rfl
         have y2:=hcell 2 _ rfl
         have y3:=hcell 3 _ rfl
         have hbb:bb<wr.heap.size:=Nat.lt_of_lt_of_le (HSS.out bb hSb) HWR.out.size
         have HF2:Hid (rolesM E (onsM E x.ps mk x.on) (l2.drop (j+1))=M2):=Lib.hid (by rw [← HF.out,HD.out]; rfl)
         have HPS2:Hid ((prs ++ [⟨x.name,x.ps.length,onsP mk.fns.length x.on⟩]) ++ rolesP (mk.fns.length+x.on.length) (l2.drop (j+1))=PR):=Lib.hid (by rw [← HPS.out,HD.out,List.append_assoc]; rfl)
         have hft:rlsT (l2.drop j)=onT x x.on+1+rlsT (l2.drop (j+1)):=by rw [HD.out]; rfl
         obtain ⟨X,hX⟩:∃ X,Hid (strOf x.name=X):=⟨_,Lib.hid rfl⟩
         obtain ⟨n3,hn3⟩:∃ n,Hid (x.ps.length=n):=⟨_,Lib.hid rfl⟩
         obtain ⟨n4,hn4⟩:∃ n,Hid (x.on.length=n):=⟨_,Lib.hid rfl⟩
         rw [hX.out] at y0
         rw [hn3.out] at y1 HYR HPS2
         rw [hn4.out] at y2 hc4 HPS2
         unfold maxLen at hcm4
         clear hcell hrg hx hv h8 hl8 HF HPS HD hjl hr4
         obtain ⟨tr,htr⟩:∃ t,Hid (rlsT (l2.drop (j+1))=t):=⟨_,Lib.hid rfl⟩
         rw [htr.out] at hft
         have hn4l:=onT_len x x.on
         rw [hn4.out] at hn4l
         obtain ⟨MX,hMX⟩:∃ m,Hid (onsM E x.ps mk x.on=m):=⟨_,Lib.hid rfl⟩
         have HML:=Lib.hid (ons_len E x.ps x.on mk)
         obtain ⟨PX,hPX⟩:∃ m,Hid (onsP mk.fns.length x.on=m):=⟨_,Lib.hid rfl⟩
         rw [hMX.out] at HF2 HML
         rw [hPX.out] at HPS2
         rw [hn4.out] at HML
         have hBZ:=two wr (.cells #[.string X,.slice A3 n3 c3,.slice A4 n4 c4,.int .i64 x.ln] 90) (.cells #[.string X,.int .i64 (n3:Int),.slice none 0 0] 100)
         have HZ1:=Lib.hid (heap_old (heap_new wr (.cells #[.string X,.slice A3 n3 c3,.slice A4 n4 c4,.int .i64 x.ln] 90)) (.cells #[.string X,.int .i64 (n3:Int),.slice none 0 0] 100))
         have hz2:=heap_new' (wr.alloc (.cells #[.string X,.slice A3 n3 c3,.slice A4 n4 c4,.int .i64 x.ln] 90)) (.cells #[.string X,.int .i64 (n3:Int),.slice none 0 0] 100) (wr.heap.size+1) (by simp)
         have HZ2:Hid (PtAt wr.heap.size _ (wr.heap.size+1) X (n3:Int) (.slice none 0 0) []):=Lib.hid ⟨hz2,World.ownsRow_nil _ _ _ _⟩
         have HZC:=Lib.hid (HC.out.below hBZ)
         have HZM:=Lib.hid (HM.out.keep (KT.of_below hBZ [33,42,45]) (by simp) (by simp) (by simp))
         have HZB:=Lib.hid (HB.out.trans (hBZ.mono hbr))
         have HZK:Hid (KT wr _ [100,102]):=Lib.hid (KT.of_below hBZ _)
         clear hz2 hBZ
         go_wp2_with fail
         obtain ⟨wo,hwo⟩:∃ wo,wo=wr:=⟨_,rfl⟩
         subst hwo
         obtain ⟨z0,hz0⟩:∃ z,Hid (wo.heap.size=z):=⟨_,Lib.hid rfl⟩
         have hz0l:wo.heap.size≤z0:=by rw [hz0.out]; exact Nat.le_refl _
         have hbz:W1.heap.size≤z0:=by rw [← hz0.out]; exact hbr
         rw [hz0.out] at HZ1 HZ2
         rw [hz0.out]
         have hn4b:n4≤250500:=by omega
         go_loopg [55] n4 (fun gi i wr=>∃ (k:Nat) (mk':Mk) (V:Vs) (Af:Option Addr) (cf:Nat) (ons:List Onn) (Ao:Option Addr) (co:Nat),k+gi=n4∧i = .int .i64 (k:Int)∧Hid (onsM E x.ps mk' (x.on.drop k)=MX)∧Hid (ons ++ onsP mk'.fns.length (x.on.drop k)=PX)∧ons.length=k∧mk'.cs.length+mk'.ts.length+mk'.fns.length+2*onT x (x.on.drop k)+2*tr≤501000∧Hid (CmAt W1.heap.size K E wr mk'.cs mk'.ts V)∧Hid (MdF W1.heap.size wr w2.heap.size (.slice Af mk'.fns.length cf) (.slice Ar j cr) mk'.fns)∧Hid (PtAt z0 wr (z0+1) X (n3:Int) (.slice Ao k co) ons)∧Hid (Below W1.heap.size W1 wr)∧Hid (KT wo wr [100,102])∧Hid (wr.heap[z0]?=some (.cells #[.string X,.slice A3 n3 c3,.slice A4 n4 c4,.int .i64 x.ln] 90 (0,0))))
         case atStart=>exact ⟨0,mk, _,Af,cf,[],none,0,by omega,rfl,Lib.hid (by rw [List.drop_zero]; exact hMX.out),Lib.hid (by rw [List.drop_zero]; exact hPX.out),rfl,by rw [List.drop_zero]; omega,HZC,HZM,HZ2,HZB,HZK,HZ1⟩
         case round =>
           clear HZC HZM HZ2 HZB HZK HZ1 HC HM HB htj
           obtain ⟨k,mk',V,Af,cf,ons,Ao,co,hk,rfl,HF,HPO,hok,htj,HC,HM,HP,HB,HK,HZ⟩:=hrel
           have hbr:=HB.out.size
           have HWR:=Lib.hid (HB3.out.trans (HB.out.mono hbn))
           have hqm:=lt_heap HM.out.h
           have hqp:=lt_heap HP.out.h
           have hqz:=lt_heap HZ.out
           cases gk with
           | zero =>
             have h1:¬ (k:Int)<(n4:Int):=by omega
             have hkn:k=n4:=by omega
             have hdn:x.on.drop k=[]:=List.drop_eq_nil_of_le (by rw [hn4.out]; omega)
             have HE:Hid (mk'=MX):=Lib.hid (by rw [← HF.out,hdn]; rfl)
             have HE2:Hid (ons=PX):=Lib.hid (by rw [← HPO.out,hdn]; simp [onsP])
             rw [HE.out] at HC HM htj
             rw [HE2.out] at HP hok
             have htz:MX.cs.length+MX.ts.length+MX.fns.length+2*tr≤501000:=by omega
             have hRW:RlsX wr W1.heap.size (.slice Ar j cr) prs:=HR.out.keep HK.out (by simp) (by simp)
             obtain ⟨xr,hor,hxr⟩:=hRW
             have hor2:=hor
             rw [hmj] at hor2
             have HOR:=Lib.hid hor2
             have HOR0:=Lib.hid hor
             have HXR:=Lib.hid hxr
             have HON:=Lib.hid (own_le HP.out.o hbz)
             obtain ⟨i0,hi0,hi1,hi2,hi3⟩:=info_parts part_info
             have hj9:j≤1000:=by omega
             have g3:wr.cell? ⟨w2.heap.size,3,none⟩=some (.slice Ar j cr):=cell_block HM.out.h 3
             have e0:wr.cell? ⟨z0+1,0,none⟩=some (.string X):=cell_block HP.out.h 0
             have e1:wr.cell? ⟨z0+1,1,none⟩=some (.int .i64 (n3:Int)):=cell_block HP.out.h 1
             have e2:wr.cell? ⟨z0+1,2,none⟩=some (.slice Ao k co):=cell_block HP.out.h 2
             have HFN:Hid (mk.fns.length+n4=MX.fns.length):=Lib.hid HML.out.symm
             rw [HFN.out] at HPS2
             clear HF HPO HE HE2 hdn htj hor hor2 hxr hkn hk
             go_wp2_with (first
               | (at_builtin
                  refine wpList_append_at _ rfl (.tmp 85) (.tmp 87) 31 rfl W1.heap.size 100 i0 _ 3 48 Tryz.underlying31 hi0 hi1 hi2 hi3 rfl (by omega) (.slice Ar j cr) _ _ rfl (ownsRow_below' HOR.out ((Below.refl _ _).alloc (Nat.le_refl _) _)) _ _ 1 1 [.string X,.int .i64 (n3:Int),.slice Ao k co] rfl (At.made _ _ _) rfl (by intro u hu; simp at hu; rcases hu with rfl | rfl | rfl <;> rfl) (by unfold maxLen; omega) (by omega) (by simp; omega) ?_
                  intro v' w7 ho7 hg7 hor7
                  obtain ⟨A7,c7,rfl,-,-⟩:=row_form ho7
                  obtain ⟨hC7,hM7,hR7,hB7,q7⟩:=part_more (p:=⟨x.name,n3,PX⟩) (k := .slice Ao k co) HC.out HM.out HB.out (Nat.le_refl _) hbn2 hX.out HOR0.out HXR.out HON.out (by rw [hmj]; exact ho7) hg7
                  have HC7:=Lib.hid hC7
                  have HM7:=Lib.hid hM7
                  have HR7:=Lib.hid hR7
                  have HB7:=Lib.hid hB7
                  have f7:w7.frozen? ⟨w2.heap.size,3,none⟩=false:=free_block q7 3
                  have g7:w7.cell? ⟨w2.heap.size,3,none⟩=some (.slice Ar j cr):=cell_block q7 3
                  have hl7:=lt_heap q7
                  clear ho7 hg7 hor7 hC7 hM7 hR7 hB7 q7)
               | (fail))
             go_roundg gg
             case measure=>omega
             case rel=>exact ⟨j+1,MX,V,Af,cf,A7,c7,prs ++ [⟨x.name,n3,PX⟩],by omega,by go_num,HF2,HPS2,by simp; omega,by rw [htr.out]; exact htz,HC7,HM7,HR7,HB7⟩
           | succ gi =>
             have h1:(k:Int)<(n4:Int):=by omega
             have h2:k<n4:=by omega
             have hjl:k<x.on.length:=by rw [hn4.out]; exact h2
             obtain ⟨bb2,o2,vs2,rfl,hSb2,hvl2,hrg2,hx2⟩:=HR4.out.at k (Bd.nd x.on[k]) (by simp [hjl])
             have HD:=Lib.hid (List.drop_eq_getElem_cons hjl)
             have hok2:=HOKX.out _ (List.getElem_mem hjl)
             generalize x.on[k]=u at *
             obtain ⟨⟨d1,d2,hsr⟩,hnb⟩:=hok2
             obtain ⟨y,y',hv,h8,hl8,hy,hy1⟩:=(hd_rd u.name u.ps 6 (u.st.map Sm.nd) u.ln _).1 hx2
             rw [Rd] at hy
             obtain ⟨A5,c5,rfl,-,-,-⟩:=hy
             obtain ⟨A6,n6,c6,rfl⟩:=hy1.rowf
             rw [List.length_map] at hv
             have hv2:vs2=[.string (strOf u.name),.slice A5 u.ps.length c5,.slice A6 n6 c6,.int .i64 u.ln]:=by
               injection hv with hv
               have:=congrArg Array.toList hv
               simpa using this
             subst hv2
             have hcell:∀ i u',([.string (strOf u.name),.slice A5 u.ps.length c5,.slice A6 n6 c6,.int .i64 u.ln]:List Value)[i]?=some u'→wr.cell? ⟨bb2,o2+k*4+i,none⟩=some u':=fun i u' hu=>by
               have:=hrg2 i u' hu
               rw [Nat.zero_add] at this
               exact (HWR.out.cell (p:=⟨bb2,o2+k*4+i,none⟩) (HSS.out bb2 hSb2)).trans this
             have z1:wr.cell? ⟨bb2,o2+k*4,none⟩=some (.string (strOf u.name)):=hcell 0 _ rfl
             have z2:=hcell 1 _ rfl
             have z3:=hcell 2 _ rfl
             have z4:=hcell 3 _ rfl
             have hbb2:bb2<wr.heap.size:=Nat.lt_of_lt_of_le (HSS.out bb2 hSb2) HWR.out.size
             have HF3:Hid (onsM E x.ps (mk'.on E x.ps u) (x.on.drop (k+1))=MX):=Lib.hid (by rw [← HF.out,HD.out]; rfl)
             have HPO2:Hid ((ons ++ [⟨u.name,u.ps.length,mk'.fns.length⟩]) ++ onsP (mk'.fns.length+1) (x.on.drop (k+1))=PX):=Lib.hid (by rw [← HPO.out,HD.out,List.append_assoc]; rfl)
             have hft2:onT x (x.on.drop k)=(x.ps.length+bdT u)+onT x (x.on.drop (k+1)):=by rw [HD.out]; rfl
             have htot:=on_tot2 E x.ps mk' u
             have hfl:(mk'.on E x.ps u).fns.length=mk'.fns.length+1:=by
               have:(mk'.on E x.ps u).fns=mk'.fns ++ [(rlE (bdW E mk'.cs mk'.ts x.ps u)).fnc u (x.ps.length+u.ps.length)]:=rfl
               rw [this,List.length_append]
               rfl
             have htj2:(mk'.on E x.ps u).cs.length+(mk'.on E x.ps u).ts.length+(mk'.on E x.ps u).fns.length+2*onT x (x.on.drop (k+1))+2*tr≤501000:=by omega
             have hbX:mk'.cs.length+mk'.ts.length+x.ps.length+u.ps.length+smsN u.st≤900000:=by
               unfold bdT at hft2
               omega
             have hm9:mk'.fns.length≤501000:=by omega
             obtain ⟨Y,hY⟩:∃ Y,Hid (strOf u.name=Y):=⟨_,Lib.hid rfl⟩
             obtain ⟨n5,hn5⟩:∃ n,Hid (u.ps.length=n):=⟨_,Lib.hid rfl⟩
             have HXU:=Lib.hid hx2
             rw [hY.out] at z1 HXU
             rw [hn5.out] at z2 HPO2 HXU
             have hBX:Below wr.heap.size wr (wr.alloc (.cells #[.string Y,.slice A5 n5 c5,.slice A6 n6 c6,.int .i64 u.ln] 87)):=(Below.refl _ _).alloc (Nat.le_refl _) _
             have HCX:=Lib.hid (HC.out.below hBX)
             have HMX:=Lib.hid (HM.out.keep (KT.of_below hBX [33,42,45]) (by simp) (by simp) (by simp))
             have HPX:=Lib.hid (HP.out.keep (KT.of_below hBX [100,102]) (by simp) (by simp))
             have HBX:=Lib.hid (HB.out.trans (hBX.mono hbr))
             have HKX:=Lib.hid (HK.out.trans (KT.of_below hBX _))
             have HZX:=Lib.hid (heap_below HZ.out hBX)
             have HBD:=Lib.hid (heap_new wr (.cells #[.string Y,.slice A5 n5 c5,.slice A6 n6 c6,.int .i64 u.ln] 87))
             have hOX:=HPX.out.o
             rw [hok] at hOX
             have HOX:=Lib.hid (ownsRow_below' hOX ((Below.refl _ _).alloc (Nat.le_refl _) (.cells #[.string Y,.int .i64 (n5:Int),.int .i64 (mk'.fns.length:Int)] 102)))
             obtain ⟨i0,hi0,hi1,hi2,hi3⟩:=info_parts on_info
             obtain ⟨fc,hfc⟩:∃ f,Hid ((rlE (bdW E mk'.cs mk'.ts x.ps u)).fnc u (x.ps.length+u.ps.length)=f):=⟨_,Lib.hid rfl⟩
             have HXN:Hid (strOf fc.name=Y):=Lib.hid (by rw [← hfc.out,← hY.out]; rfl)
             have HCL:=Lib.hid (fun (w':World) (hC':CmAt W1.heap.size K E w' mk'.cs mk'.ts V) (hw':Below w.heap.size w w')=>roleBody_any (fun b hb=>Nat.lt_of_lt_of_le (HSS.out b hb) hbn) hC' u x.ps _ _ (HXU.out.keep (fun p hp=>hw'.cell (HSS.out _ hp)) (fun _ h=>h)) (HYR.out.keep (fun p hp=>hw'.cell (HSS.out _ hp)) (fun _ h=>h)) d1 d2 hsr hnb hbX)
             rw [hfc.out,show (rlE (bdW E mk'.cs mk'.ts x.ps u)).cs=(mk'.on E x.ps u).cs from rfl,show (rlE (bdW E mk'.cs mk'.ts x.ps u)).ts=(mk'.on E x.ps u).ts from rfl] at HCL
             have HFS:Hid ((mk'.on E x.ps u).fns=mk'.fns ++ [fc]):=Lib.hid (by rw [← hfc.out]; rfl)
             obtain ⟨mk2,hmk2⟩:∃ m,Hid (mk'.on E x.ps u=m):=⟨_,Lib.hid rfl⟩
             rw [hmk2.out] at HF3 hfl htj2 HCL HFS
             obtain ⟨m,hm⟩:∃ m,Hid (mk'.fns.length=m):=⟨_,Lib.hid rfl⟩
             have g2:wr.cell? ⟨w2.heap.size,2,none⟩=some (.slice Af mk'.fns.length cf):=cell_block HM.out.h 2
             have g4:wr.cell? ⟨z0+1,2,none⟩=some (.slice Ao k co):=cell_block HP.out.h 2
             clear hcell hrg2 hx2 hv h8 hl8 hy1 HF HPO HD hft2 htot hbX hjl hsr hnb hOX HC HM HP HB HK HZ htj
             have hat:=At.made (wr.alloc (.cells #[.string Y,.slice A5 n5 c5,.slice A6 n6 c6,.int .i64 u.ln] 87)) #[.string Y,.int .i64 (n5:Int),.int .i64 (mk'.fns.length:Int)] 102
             rw [show (wr.alloc (.cells #[.string Y,.slice A5 n5 c5,.slice A6 n6 c6,.int .i64 u.ln] 87)).heap.size=wr.heap.size+1 by simp] at hat
             have HAT:=Lib.hid hat
             clear hat
             go_upto_region 19 with (first
               | (at_builtin
                  refine wpList_append_at _ rfl (.tmp 60) (.tmp 70) 98 rfl z0 102 i0 _ 3 32 Tryz.underlying98 hi0 hi1 hi2 hi3 rfl (by omega) (.slice Ao k co) _ _ rfl HOX.out _ _ 1 1 [.string Y,.int .i64 (n5:Int),.int .i64 (mk'.fns.length:Int)] rfl HAT.out rfl (by intro u hu; simp at hu; rcases hu with rfl | rfl | rfl <;> rfl) (by unfold maxLen; omega) (by omega) (by simp; omega) ?_
                  intro v' w7 ho7 hg7 hor7
                  obtain ⟨A7,c7,rfl,-,-⟩:=row_form ho7
                  obtain ⟨hC8,hP8,hB8,hK8,hk8,q7⟩:=on_more (o:=⟨u.name,n5,mk'.fns.length⟩) hY.out HCX.out HPX.out HBX.out HKX.out hz0l (Nat.le_succ _) hbz (Nat.le_refl _) (by rw [hok]; exact ho7) hg7
                  have hM8:=HMX.out.keep (KT.trans (KT.refl _ _) (fun g c T fr hc hT=>hk8 g c T fr hc (by simp at hT ⊢; rcases hT with h | h | h <;> simp [h])):KT _ _ [33,42,45]) (by simp) (by simp) (by simp)
                  have hZ8:=hk8.cells HZX.out (by simp)
                  have hD8:=hk8.cells HBD.out (by simp)
                  have f7:w7.frozen? ⟨z0+1,2,none⟩=false:=free_block q7 2
                  have g7:w7.cell? ⟨z0+1,2,none⟩=some (.slice Ao k co):=cell_block q7 2
                  have hl7:=lt_heap q7
                  have HC8:=Lib.hid hC8
                  have HP8:=Lib.hid hP8
                  have HB8:=Lib.hid hB8
                  have HK8:=Lib.hid hK8
                  have HM8:=Lib.hid hM8
                  have HZ8:=Lib.hid hZ8
                  have HD8:=Lib.hid hD8
                  clear ho7 hg7 hor7 hC8 hP8 hB8 hK8 hk8 hM8 hZ8 hD8 q7)
               | (fail))
             obtain ⟨W8,hW8⟩:∃ W8,Hid (w7.setCell ⟨z0+1,2,none⟩ (.slice A7 (k+1) c7)=W8):=⟨_,Lib.hid rfl⟩
             rw [hW8.out] at HC8 HP8 HB8 HK8 HM8 HZ8 HD8 ⊢
             have HC9:=Lib.hid (HC8.out.below ((Below.refl _ _).drew))
             have HWW:=Lib.hid (HB3.out.trans ((HB8.out.drew).mono hbn))
             have HCM:=Lib.hid (HCL.out W8.drew HC9.out HWW.out)
             have hb8:=HB8.out.size
             have k2:W8.cell? ⟨w2.heap.size,2,none⟩=some (.slice Af mk'.fns.length cf):=cell_block HM8.out.h 2
             obtain ⟨⟨b0,b1,b2,b3⟩,-⟩:=box4f HD8.out
             have r1:W8.cell? ⟨z0,1,none⟩=some (.slice A3 n3 c3):=cell_block HZ8.out 1
             have hl8a:=lt_heap HM8.out.h
             have hl8b:=lt_heap HD8.out
             have hl8c:=lt_heap HZ8.out
             clear g2 g4 z1 z2 z3 z4
             go_region_law
               (first
                 | (refine step_run rfl (.tmp 74) (.tmp 80) 30 rfl rfl rfl hap ?_)
                 | (go_simp
                    go_at_call 30
                    refine HCM.out.mono ?_
                    intro e w5 h5
                    obtain ⟨A9,c9,V9,rfl,hk9,hC9,hKc⟩:=fn_out h5 HXN.out (by simp; omega)
                    have kk:KT W8 w5 [33,42,45,100,102,90,87]:=(KT.of_below ((Below.refl _ W8).drew) _).trans (KT.of_kc hKc HC9.out (by decide) (by decide) (by decide))
                    have hM9:=HM8.out.keep kk (by simp) (by simp) (by simp)
                    have hP9:=HP8.out.keep kk (by simp) (by simp)
                    have hZ9:=kk.cells HZ8.out (by simp)
                    have hK9:KT wo w5 [100,102]:=HK8.out.trans (fun g c T fr hc hT=>kk g c T fr hc (by simp at hT ⊢; rcases hT with h | h <;> simp [h]))
                    obtain ⟨xs9,ho9,hx9⟩:=hM9.f
                    have hB9:=(HB8.out.drew).trans hKc.b
                    obtain ⟨v7,w9,hap,ho7,hg7⟩:=fn_app ho9 (by omega) hB9.size Y (fc.params:Int) (fc.vars:Int) A9 fc.code.length c9
                    obtain ⟨A8,c8,rfl,-,-⟩:=row_form ho7
                    obtain ⟨hC7,hM7,hB7,q7,k7⟩:=fn_more2 hC9 hM9 ho9 hx9 hk9 hB9 (Nat.le_refl _) hbn2 Y HXN.out ho7 hg7
                    have HC7:=Lib.hid hC7
                    have HM7:=Lib.hid hM7
                    have HB7:=Lib.hid hB7
                    have HP7:=Lib.hid (hP9.keep k7 (by simp) (by simp))
                    have HZ7:=Lib.hid (k7.cells hZ9 (by simp))
                    have HK7:Hid (KT wo _ [100,102]):=Lib.hid (hK9.trans (fun g c T fr hc hT=>k7 g c T fr hc (by simp at hT ⊢; rcases hT with h | h <;> simp [h])))
                    have e2:w5.cell? ⟨w2.heap.size,2,none⟩=some (.slice Af mk'.fns.length cf):=cell_block hM9.h 2
                    have e3:w5.cell? ⟨z0,1,none⟩=some (.slice A3 n3 c3):=cell_block hZ9 1
                    have f2:w9.frozen? ⟨w2.heap.size,2,none⟩=false:=free_block q7 2
                    have g2:w9.cell? ⟨w2.heap.size,2,none⟩=some (.slice Af mk'.fns.length cf):=cell_block q7 2
                    have hl5:=lt_heap hM9.h
                    have hl6:=lt_heap hZ9
                    have hl7:=lt_heap q7
                    clear h5 hk9 hC9 hKc kk hM9 hP9 hZ9 hK9 ho9 hx9 hB9 ho7 hg7 hC7 hM7 hB7 q7 k7)
                 | (fail))
             all_goals
               go_wp2_with fail
               go_roundg gi
               case measure=>omega
               case rel=>exact ⟨k+1,mk2,V9,A8,c8,ons ++ [⟨u.name,n5,mk'.fns.length⟩],A7,c7,by omega,by go_num,HF3,by rw [hfl]; exact HPO2,by simp; omega,htj2,HC7,by rw [HFS.out,List.length_append]; exact HM7,HP7,HB7,HK7,HZ7⟩
   | succ gg =>
     have h1:(j:Int)<(n1:Int):=by omega
     have h2:j<n1:=by omega
     have hjl:j<l1.length:=by rw [hn1.out]; exact h2
     obtain ⟨bb,o,vs,rfl,hSb,hvl,hrg,hx⟩:=HRF.out.at j (Bd.nd l1[j]) (by simp [hjl])
     have HD:=Lib.hid (List.drop_eq_getElem_cons hjl)
     have hok:=HOK.out _ (List.getElem_mem hjl)
     generalize l1[j]=x at *
     obtain ⟨⟨d1,d2,hsr⟩,hnb⟩:=hok
     obtain ⟨y,y',hv,h8,hl8,hy,hy1⟩:=(hd_rd x.name x.ps 6 (x.st.map Sm.nd) x.ln _).1 hx
     obtain ⟨A3,n3,c3,rfl⟩:=hy.rowf
     obtain ⟨A4,n4,c4,rfl⟩:=hy1.rowf
     have hv2:vs=[.string (strOf x.name),.slice A3 n3 c3,.slice A4 n4 c4,.int .i64 x.ln]:=by
       injection hv with hv
       have:=congrArg Array.toList hv
       simpa using this
     subst hv2
     have hcell:∀ i u,([.string (strOf x.name),.slice A3 n3 c3,.slice A4 n4 c4,.int .i64 x.ln]:List Value)[i]?=some u→wr.cell? ⟨bb,o+j*4+i,none⟩=some u:=fun i u hu=>by
       have:=hrg i u hu
       rw [Nat.zero_add] at this
       exact (HWR.out.cell (p:=⟨bb,o+j*4+i,none⟩) (HSS.out bb hSb)).trans this
     have y0:wr.cell? ⟨bb,o+j*4,none⟩=some (.string (strOf x.name)):=hcell 0 _ rfl
     have y1:=hcell 1 _ rfl
     have y2:=hcell 2 _ rfl
     have y3:=hcell 3 _ rfl
     have hbb:bb<wr.heap.size:=Nat.lt_of_lt_of_le (HSS.out bb hSb) HWR.out.size
     have HF2:Hid ((l1.drop (j+1)).foldl (Mk.fn E) (mk.fn E x)=M1):=Lib.hid (by rw [← HF.out,HD.out]; rfl)
     have hft:fnsT (l1.drop j)=bdT x+fnsT (l1.drop (j+1)):=by rw [HD.out]; rfl
     have htot:=fn_tot E mk x
     have hfl:(mk.fn E x).fns.length=j+1:=by
       have:(mk.fn E x).fns=mk.fns ++ [(fnE (bdW E mk.cs mk.ts [] x)).fnc x x.ps.length]:=rfl
       rw [this,List.length_append,hmj]
       rfl
     have htj2:(mk.fn E x).cs.length+(mk.fn E x).ts.length+2*fnsT (l1.drop (j+1))≤2*t1:=by omega
     have hbX:mk.cs.length+mk.ts.length+x.ps.length+smsN x.st≤900000:=by
       unfold bdT at hft
       omega
     have hBX:Below wr.heap.size wr (wr.alloc (.cells #[.string (strOf x.name),.slice A3 n3 c3,.slice A4 n4 c4,.int .i64 x.ln] 87)).drew:=((Below.refl _ _).alloc (Nat.le_refl _) _).drew
     have HCX:=Lib.hid (HC.out.below hBX)
     have HMX:=Lib.hid (HM.out.below hBX)
     have HBX:=Lib.hid (HB.out.trans (hBX.mono hbr))
     obtain ⟨X,hX⟩:∃ X,Hid (strOf x.name=X):=⟨_,Lib.hid rfl⟩
     obtain ⟨fc,hfc⟩:∃ f,Hid ((fnE (bdW E mk.cs mk.ts [] x)).fnc x x.ps.length=f):=⟨_,Lib.hid rfl⟩
     have HXN:Hid (strOf fc.name=X):=Lib.hid (by rw [← hfc.out,← hX.out]; rfl)
     have HCL:=Lib.hid (function_any (fun b hb=>Nat.lt_of_lt_of_le (HSS.out b hb) hbn) HCX.out x _ (hx.keep (fun p hp=>(HWR.out.trans (hBX.mono HWR.out.size)).cell (HSS.out _ hp)) (fun _ h=>h)) d1 d2 hsr hnb hbX)
     rw [hfc.out,show (fnE (bdW E mk.cs mk.ts [] x)).cs=(mk.fn E x).cs from rfl,show (fnE (bdW E mk.cs mk.ts [] x)).ts=(mk.fn E x).ts from rfl] at HCL
     have HFS:Hid ((mk.fn E x).fns=mk.fns ++ [fc]):=Lib.hid (by rw [← hfc.out]; rfl)
     obtain ⟨mk2,hmk2⟩:∃ m,Hid (mk.fn E x=m):=⟨_,Lib.hid rfl⟩
     rw [hmk2.out] at HF2 hfl htj2 HCL HFS
     rw [hX.out] at y0 HCX HMX HBX HCL hBX
     obtain ⟨⟨b0,b1,b2,b3⟩,-⟩:=box4f (heap_new wr (.cells #[.string X,.slice A3 n3 c3,.slice A4 n4 c4,.int .i64 x.ln] 87))
     have hbs:wr.heap.size<(wr.alloc (.cells #[.string X,.slice A3 n3 c3,.slice A4 n4 c4,.int .i64 x.ln] 87)).drew.heap.size:=by simp
     clear hcell hrg hx hv h8 hl8 hy hy1 HF HD hft htot hbX hjl hsr hnb
     go_upto_region 9 with fail
     go_region_law
       (first
         | (refine step_run rfl (.tmp 31) (.tmp 35) 30 rfl rfl rfl hap ?_)
         | (go_simp
            go_at_call 29
            refine HCL.out.mono ?_
            intro e w5 h5
            obtain ⟨A5,c5,V5,rfl,hk5,hC5,hKc⟩:=fn_out h5 HXN.out (Nat.le_trans hbr (Nat.le_of_lt hbs))
            have hM5:=HMX.out.kc hKc HCX.out
            obtain ⟨xs5,ho5,hx5⟩:=hM5.f
            rw [hmj] at ho5
            have hB5:=HBX.out.trans hKc.b
            obtain ⟨v7,w7,hap,ho7,hg7⟩:=fn_app ho5 (by omega) hB5.size X (fc.params:Int) (fc.vars:Int) A5 fc.code.length c5
            obtain ⟨A7,c7,rfl,-,-⟩:=row_form ho7
            obtain ⟨hC7,hM7,hB7,q7⟩:=fn_more hC5 hM5 (by rw [hmj]; exact ho5) hx5 hk5 hB5 (Nat.le_refl _) hbn2 X HXN.out (by rw [hmj]; exact ho7) hg7
            have HC7:=Lib.hid hC7
            have HM7:=Lib.hid hM7
            have HB7:=Lib.hid hB7
            have e2:w5.cell? ⟨w2.heap.size,2,none⟩=some (.slice Af j cf):=cell_block hM5.h 2
            have f2:w7.frozen? ⟨w2.heap.size,2,none⟩=false:=free_block q7 2
            have g2:w7.cell? ⟨w2.heap.size,2,none⟩=some (.slice Af j cf):=cell_block q7 2
            have hl5:=lt_heap hM5.h
            have hl7:=lt_heap q7
            clear h5 hk5 hC5 hKc hM5 ho5 hx5 hB5 ho7 hg7 hC7 hM7 hB7 q7)
         | (fail))
     all_goals
       go_wp2_with fail
       go_roundg gg
       case measure=>omega
       case rel=>exact ⟨j+1,mk2,V5,A7,c7,by omega,by go_num,HF2,hfl,htj2,HC7,by rw [HFS.out]; exact HM7,HB7⟩
end
end Go.Proofs.YtcmopnkldplngabGreatDoor
