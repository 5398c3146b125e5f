/- Texts Cf,Cg,Ch,Ci,Cj,Ck of this seat in one: see each part. -/
import Derived.DeepKeys4
import Derived.Deep.AppendLies
import Derived.Deep.RegionLaw
import Derived.Deep.RegionHeld3
import Derived.Test.YtcmopnkldplngabGreatDoorCae
import Derived.Test.YtcmopnkldplngabGreatDoorKaf
import Derived.Test.YtcmopnkldplngabGreatDoorTfk
namespace Go.Proofs.YtcmopnkldplngabGreatDoor
open Go.RowKit
set_option linter.unusedVariables false
/-! Keys that are constants. -/
def ckV (c:Cst):Value := .agg #[.int .u8 (c.k:Int),.int .i64 c.n,.string (strOf c.s)]
def ck (c:Cst):Lit := .string (keyBytes [.int .u8 (c.k:Int),.int .i64 c.n,.string (strOf c.s).data.toList])
structure CsOk (c:Cst):Prop where
 k:c.k<256
 n0 : -9223372036854775808≤c.n
 n1:c.n≤9223372036854775807
 s:∀ x∈c.s,x<256
 l:c.s.length≤140737488355328
theorem cst_law:Maps.Keyed Tryz.prog 246:=Maps.Keyed.of_law (deep_law_laid (P:=Tryz.prog) (by kernel_rfl) (m:=3) (by omega) (of_decide_eq_true (by kernel_rfl)) (by kernel_rfl) (by kernel_rfl))
theorem cst_fields : ∃ o0 o1 o2 : Field, Tryz.prog.underlying 246 = some (.struct #[o0, o1, o2]) ∧ (o0.type = 114 ∧ o1.type = 2 ∧ o2.type = 9) ∧ (o0.offset = 0 ∧ o1.offset = 1 ∧ o2.offset = 2) ∧ (#[o0, o1, o2] : Array Field).all (fun f => f.name != "_") = true :=
 ⟨_, _, _,Tryz.underlying246,⟨by kernel_rfl,by kernel_rfl,by kernel_rfl⟩,⟨by kernel_rfl,by kernel_rfl,by kernel_rfl⟩,by kernel_rfl⟩
theorem key_ck (c:Cst) (h:CsOk c):keyOf Tryz.prog 246 (ckV c)=some (ck c):=by
 obtain ⟨o0,o1,o2,hu,⟨t0,t1,t2⟩,⟨p0,p1,p2⟩,hall⟩:=cst_fields
 have w0:(Lit.int .u8 (c.k:Int)).wf=true:=by
   have h1:IntKind.u8.min=0:=by decide
   have h2:IntKind.u8.max=255:=by decide
   have:=h.k
   simp [Lit.wf,h1,h2]
   omega
 have w1:(Lit.int .i64 c.n).wf=true:=by
   have h1:IntKind.i64.min = -9223372036854775808:=by decide
   have h2:IntKind.i64.max=9223372036854775807:=by decide
   simp [Lit.wf,h1,h2]
   exact ⟨h.n0,h.n1⟩
 have w2:(strOf c.s).size≤maxLen:=by
   rw [strOf_size]
   have:=h.l
   unfold maxLen
   omega
 have k0:Tryz.prog.underlying 114=some (.int .u8):=Tryz.underlying114
 have k1:Tryz.prog.underlying 2=some (.int .i64):=Tryz.underlying2
 have k2:Tryz.prog.underlying 9=some .string:=Tryz.underlying9
 have c0:Tryz.prog.cellsOf 114=1:=by kernel_rfl
 have c1:Tryz.prog.cellsOf 2=1:=by kernel_rfl
 have c2:Tryz.prog.cellsOf 9=1:=by kernel_rfl
 have ct:Tryz.prog.cellsOf 246=3:=by kernel_rfl
 have kt:Tryz.prog.keyType 246=true:=by kernel_rfl
 obtain ⟨d,hd⟩:∃ d,Tryz.prog.types.size+1=d+2:=⟨_,by rw [show Tryz.prog.types.size=(Tryz.prog.types.size-1)+1 from by kernel_rfl]⟩
 unfold keyOf
 rw [hu]
 dsimp only
 have hf:(ckV c).formed Tryz.prog 246=true:=by
   unfold ckV Value.formed
   rw [hu,ct]
   rfl
 rw [kt,hf,hd]
 unfold Program.keyLits
 rw [hu]
 unfold ckV Value.cells
 simp only [Bool.and_self,if_true,ct,hall]
 simp [t0,t1,t2,p0,p1,p2,c0,c1,c2,Program.keyLits,k0,k1,k2,w0,w1,w2]
 rfl
theorem ck_inj {c c':Cst} (h:CsOk c) (h':CsOk c') (e:ck c=ck c'):c=c':=by
 have h1:=key_ck c h
 have h2:=key_ck c' h'
 rw [← e] at h2
 have h3:=cst_law.inj h1 h2
 obtain ⟨k,n,s⟩:=c
 obtain ⟨k',n',s'⟩:=c'
 unfold ckV at h3
 simp only [Value.agg.injEq,Array.mk.injEq,List.cons.injEq,Value.int.injEq,Value.string.injEq,true_and,and_true] at h3
 obtain ⟨e1,e2,e3⟩:=h3
 have e4:s=s':=by
   have:=strOf_eq s s' h.s h'.s
   rw [e3] at this
   exact of_decide_eq_true (this.symm.trans (by simp))
 rw [e2,e4,show k=k' by omega]
/-! Where things stand,in maps. -/
theorem idxO_snoc {α:Type} [DecidableEq α] (x y:α):∀ l:List α,idxO x (l ++ [y])=match idxO x l with | some i=>some i | none=>if y=x then some l.length else none
 | []=>by
   rw [List.nil_append,idxO,idxO,idxO]
   split <;> rfl
 | z :: r=>by
   rw [List.cons_append,idxO,idxO]
   by_cases h:z=x
   · rw [if_pos h,if_pos h]
   · rw [if_neg h,if_neg h,idxO_snoc x y r]
     cases idxO x r with
     | some i=>rfl
     | none =>
       by_cases h2:y=x
       · simp [h2]
       · simp [h2]
abbrev iL (n:Int):DataW Unit := .lit (.int .i64 n)
def PlD {α:Type} [DecidableEq α] (Ok:α→Prop) (K:α→Lit) (D:DataW Unit) (l:List α):Prop :=
 ∀ x,Ok x→Maps.has D (K x)=(idxO x l).isSome∧∀ i,idxO x l=some i→D.atKey (K x) (iL 0)=iL (i:Int)
theorem PlD.nil {α:Type} [DecidableEq α] (Ok:α→Prop) (K:α→Lit):PlD Ok K (.map []) []:=fun x _ => ⟨rfl,fun i h=>by cases h⟩
theorem PlD.put {α:Type} [DecidableEq α] {Ok:α→Prop} {K:α→Lit} {D:DataW Unit} {l:List α} (h:PlD Ok K D l) (hm:Maps.IsMap D) (hk:∀ x,WideAt.IsKeyLit (K x)) (hi:∀ x y,Ok x→Ok y→K x=K y→x=y) (x:α) (hx:Ok x) (hn:idxO x l=none) :
   PlD Ok K (D.put (K x) (iL (l.length:Int))) (l ++ [x]):=fun y hy=>by
 rw [idxO_snoc]
 by_cases e:y=x
 · subst e
   rw [hn]
   dsimp only
   rw [if_pos rfl]
   exact ⟨Maps.has_put_same hm (hk y) _,fun i hi=>by cases hi; exact Maps.atKey_put_same hm (hk y) _ _⟩
 · have hne:K y≠K x:=fun e2=>e (hi y x hy hx e2)
   obtain ⟨h1,h2⟩:=h y hy
   refine ⟨?_,fun i hi2=>?_⟩
   · rw [Maps.has_put_other hne,h1]
     cases idxO y l with
     | some i=>rfl
     | none =>
       dsimp only
       rw [if_neg (fun e2=>e e2.symm)]
   · rw [Maps.atKey_put_other hne]
     cases hy2:idxO y l with
     | some j =>
       rw [hy2] at hi2
       cases hi2
       exact h2 _ hy2
     | none =>
       rw [hy2] at hi2
       dsimp only at hi2
       rw [if_neg (fun e2=>e e2.symm)] at hi2
       cases hi2
def NmOk (s:List Nat):Prop:=(∀ x∈s,x<256)∧s.length≤140737488355328
theorem nk_inj {a b:List Nat} (ha:∀ x∈a,x<256) (hb:∀ x∈b,x<256) (h:nk a=nk b):a=b:=by
 refine Classical.byContradiction fun hn=>nk_ne ha hb hn h
def IxD (D:DataW Unit) (l:Tss):Prop:=∀ s,(∀ x∈s,x<256)→D.atKey (nk s) (iL 0)=iL (locL s l:Int)
theorem IxD.nil:IxD (.map []) []:=fun s _ => rfl
theorem IxD.put {D:DataW Unit} {l:Tss} (h:IxD D l) (hm:Maps.IsMap D) (s:List Nat) (h8:∀ x∈s,x<256):IxD (D.put (nk s) (iL (l.length:Int))) (l ++ [s]):=fun t ht=>by
 rw [locL_snoc]
 by_cases e:s=t
 · subst e
   rw [if_pos rfl]
   exact Maps.atKey_put_same hm (show WideAt.IsKeyLit (nk s) from trivial) _ _
 · rw [if_neg e,Maps.atKey_put_other (nk_ne ht h8 (fun e2=>e e2.symm))]
   exact h t ht
structure IxAt (w:World) (b:Nat) (l:Tss):Prop where
 own:∃ D n,w.ownsMap Tryz.prog 9 (plainElem Tryz.prog 3) b n D∧n≤l.length∧Maps.IsMap D∧IxD D l
structure OpAt (w:World) (b:Nat) (f:List Nat→Nat):Prop where
 own:∃ (D:DataW Unit) (n:Nat),w.ownsMap Tryz.prog 9 (plainElem Tryz.prog 43) b n D∧∀ s,(∀ x∈s,x<256)→Maps.has D (nk s)=decide (f s≠0)∧D.atKey (nk s) (.lit (.int .u8 0)) = .lit (.int .u8 (f s:Int))
structure CtAt (w:World) (b:Nat) (l:List Cst):Prop where
 own:∃ D,w.ownsMap Tryz.prog 246 (plainElem Tryz.prog 3) b l.length D∧Maps.IsMap D∧PlD CsOk ck D l
structure TgAt (w:World) (b:Nat) (l:Tss):Prop where
 own:∃ D,w.ownsMap Tryz.prog 9 (plainElem Tryz.prog 3) b l.length D∧Maps.IsMap D∧PlD NmOk nk D l
section
variable {w w':World} {b:Nat} {row:Option Nat}
theorem IxAt.kept {l:Tss} (h:IxAt w b l) (hg:w.grownBy w' row) (hn:some b≠row):IxAt w' b l:=by
 obtain ⟨D,n,h1,h2⟩:=h.own
 exact ⟨D,n,h1.kept hg hn,h2⟩
theorem OpAt.kept {f:List Nat→Nat} (h:OpAt w b f) (hg:w.grownBy w' row) (hn:some b≠row):OpAt w' b f:=by
 obtain ⟨D,n,h1,h2⟩:=h.own
 exact ⟨D,n,h1.kept hg hn,h2⟩
theorem CtAt.kept {l:List Cst} (h:CtAt w b l) (hg:w.grownBy w' row) (hn:some b≠row):CtAt w' b l:=by
 obtain ⟨D,h1,h2⟩:=h.own
 exact ⟨D,h1.kept hg hn,h2⟩
theorem TgAt.kept {l:Tss} (h:TgAt w b l) (hg:w.grownBy w' row) (hn:some b≠row):TgAt w' b l:=by
 obtain ⟨D,h1,h2⟩:=h.own
 exact ⟨D,h1.kept hg hn,h2⟩
theorem own_map {k:TypeId} {R:Value→Option (DataW Unit × List MemPlace)} {n:Nat} {D:DataW Unit} (h:w.ownsMap Tryz.prog k R b n D):∃ es cl,w.heap[b]?=some (.map es cl):=by
 obtain ⟨es,cl,h1,-⟩:=h
 exact ⟨es,cl,h1⟩
end
/-! Rows. -/
def cvs (l:List Cst):List Value:=l.flatMap fun c=>[.int .u8 (c.k:Int),.int .i64 c.n,.string (strOf c.s),.slice none 0 0]
def tvs (l:Tss):List Value:=l.map fun s => .string (strOf s)
def ivs (l:List In3):List Value:=l.flatMap fun i=>[.int .u8 (i.op:Int),.int .i64 i.a,.int .i64 i.b]
theorem cvs_snoc (l:List Cst) (c:Cst):cvs (l ++ [c])=cvs l ++ [.int .u8 (c.k:Int),.int .i64 c.n,.string (strOf c.s),.slice none 0 0]:=by simp [cvs]
theorem tvs_snoc (l:Tss) (s:List Nat):tvs (l ++ [s])=tvs l ++ [.string (strOf s)]:=by simp [tvs]
theorem ivs_snoc (l:List In3) (i:In3):ivs (l ++ [i])=ivs l ++ [.int .u8 (i.op:Int),.int .i64 i.a,.int .i64 i.b]:=by simp [ivs]
theorem ivs_len (l:List In3):(ivs l).length=l.length*3:=by
 induction l with
 | nil=>rfl
 | cons i r ih=>simp [ivs] at ih ⊢; omega
structure Bk where
 bf:Nat
 br:Nat
 b1:Nat
 b2:Nat
 b3:Nat
 bc:Nat
 bt:Nat
 qc:Nat
 qw:Nat
structure Bk.Ok (K:Bk) (base:Nat):Prop where
 f:base≤K.bf
 r:K.bf<K.br
 o1:K.br<K.b1
 o2:K.b1<K.b2
 o3:K.b2<K.b3
 c:K.b3<K.bc
 t:K.bc<K.bt
 q:K.bt<K.qc
 w:K.qc<K.qw
structure Vs where
 c:Value
 t:Value
 k:Value
 s:Value
theorem own_kind {w:World} {B sz n:Nat} {e:TypeId} {v:Value} {xs:List Value} (h:w.ownsRow B e sz v n xs):∀ g,v.ownBlock=some g→∃ c fz,w.heap[g]?=some (.cells c e fz):=by
 intro g hg
 rcases h.2 with ⟨h1,-⟩ | ⟨g',cap,cur,he, _,hh, _⟩
 · rw [h1] at hg; cases hg
 · rw [he] at hg
   cases hg
   exact ⟨_, _,hh⟩
def Oth (K:Bk) (k:Nat) (o:Obj):Prop:=(k≠K.qc∧k≠K.qw∧k≠K.bc∧k≠K.bt)∧∀ c T fr,o = .cells c T fr→(T≠45∨k<K.qw)∧T≠9∧T≠116
structure Cf (base:Nat) (K:Bk) (w w':World):Prop where
 b:Below base w w'
 o:∀ k o,w.heap[k]?=some o→Oth K k o→w'.heap[k]?=some o
section
variable {a w w':World} {base:Nat} {K:Bk}
theorem Cf.refl (base:Nat) (K:Bk) (w:World):Cf base K w w:=⟨Below.refl _ _,fun _ _ h _ => h⟩
theorem Cf.trans (h:Cf base K a w) (k:Cf base K w w'):Cf base K a w':=⟨h.b.trans k.b,fun i o hi ho=>k.o i o (h.o i o hi ho) ho⟩
theorem Cf.of_below (hb:base≤w.heap.size) (k:Below w.heap.size w w'):Cf base K w w':=⟨k.mono hb,fun i o hi _ => heap_below hi k⟩
theorem Cf.below (h:Cf base K a w) (hb:base≤w.heap.size) (k:Below w.heap.size w w'):Cf base K a w':=h.trans (Cf.of_below hb k)
theorem Cf.alloc (h:Cf base K a w) (hb:base≤w.heap.size) (o:Obj):Cf base K a (w.alloc o):=h.below hb ((Below.refl _ _).alloc (Nat.le_refl _) o)
theorem Cf.drew (h:Cf base K a w):Cf base K a w.drew:=⟨⟨h.b.os,h.b.tape,h.b.output,h.b.size,h.b.block⟩,h.o⟩
theorem Cf.cells (h:Cf base K w w') {k:Nat} {c:Array Value} {T:TypeId} {fr:Nat × Nat} (hk:w.heap[k]?=some (.cells c T fr)) (h1:k≠K.qc) (h2:k≠K.qw) (h3:k≠K.bc) (h4:k≠K.bt) (h5:T≠45) (h6:T≠9) (h7:T≠116):w'.heap[k]?=some (.cells c T fr) :=
 h.o k _ hk ⟨⟨h1,h2,h3,h4⟩,fun c' T' fr' e=>by cases e; exact ⟨.inl h5,h6,h7⟩⟩
theorem Cf.set (h:Cf base K a w) {p:Addr} (hp:p.block=K.qc∨p.block=K.qw) (hb:base≤p.block) (v:Value):Cf base K a (w.setCell p v) :=
 h.trans ⟨(Below.refl _ _).setCell hb v,fun i o hi ho=>(Below.heap_setCell _ _ _ _ (fun e=>by
   obtain ⟨⟨h1,h2,-,-⟩,-⟩:=ho
   rcases hp with hp | hp
   · exact h1 (e.trans hp)
   · exact h2 (e.trans hp))).trans hi⟩
theorem Cf.map (h:Cf base K a w) {b:Nat} (hp:b=K.bc∨b=K.bt) (hb:base≤b) (hs:base≤w.heap.size) (hg:w.grownBy w' (some b)):Cf base K a w' :=
 h.trans ⟨(Below.refl _ _).grown hg hs (fun k e=>by cases e; exact hb),fun i o hi ho=>(hg.block i (lt_heap hi) (fun e=>by
   obtain ⟨⟨-,-,h3,h4⟩,-⟩:=ho
   have e:=Option.some.inj e
   rcases hp with hp | hp
   · exact h3 (e.trans hp)
   · exact h4 (e.trans hp))).trans hi⟩
theorem Cf.row (h:Cf base K a w) {B:Nat} {E:TypeId} {sz n:Nat} {v:Value} {xs:List Value} (ho:w.ownsRow B E sz v n xs) (hB:base≤B) (hE:(E=45∧K.qw≤B)∨E=9∨E=116) (hs:base≤w.heap.size) (hg:w.grownBy w' v.ownBlock):Cf base K a w' :=
 h.trans ⟨(Below.refl _ _).grown hg hs (fun k hk=>Nat.le_trans hB (World.ownsRow.lt ho k hk).1),fun i o hi hoth=>(hg.block i (lt_heap hi) (fun e=>by
   have ei:v.ownBlock=some i:=e.symm
   obtain ⟨c,fz,hc⟩:=own_kind ho i e.symm
   rw [hi] at hc
   obtain ⟨h5,h6,h7⟩:=hoth.2 _ _ _ (Option.some.inj hc)
   rcases hE with ⟨e,hq⟩ | e | e
   · rcases h5 with h5 | h5
     · exact h5 e
     · have:=(World.ownsRow.lt ho i ei).1
       omega
   · exact h6 e
   · exact h7 e)).trans hi⟩
end
theorem row_ne {w:World} {base sz n k:Nat} {E:TypeId} {v:Value} {xs:List Value} {o:Obj} (h:w.ownsRow base E sz v n xs) (hk:w.heap[k]?=some o) (hn:∀ c fr,o ≠ .cells c E fr):v.ownBlock≠some k:=fun e=>by
 obtain ⟨c,fz,hc⟩:=own_kind h k e
 rw [hk] at hc
 exact hn _ _ (Option.some.inj hc)
theorem rows_ne {w:World} {base base' sz sz' n n':Nat} {E E':TypeId} {v v':Value} {xs xs':List Value} (h:w.ownsRow base E sz v n xs) (h':w.ownsRow base' E' sz' v' n' xs') (hn:E≠E'):v.ownBlock=none∨v.ownBlock≠v'.ownBlock:=by
 cases hv:v.ownBlock with
 | none=>exact .inl rfl
 | some g =>
   right
   intro e
   obtain ⟨c,fz,hc⟩:=own_kind h g hv
   obtain ⟨c',fz',hc'⟩:=own_kind h' g e.symm
   rw [hc] at hc'
   injection hc' with hc'
   injection hc' with _ e2
   exact hn e2
def cmCells (K:Bk) (V:Vs):Array Value:=#[.map (some K.bf),.map (some K.br),.map (some K.b1),.map (some K.b2),.map (some K.b3),.map (some K.bc),V.c,.map (some K.bt),V.t]
structure CmAt (base:Nat) (K:Bk) (E:Env) (w:World) (cs:List Cst) (ts:Tss) (V:Vs):Prop where
 ok:K.Ok base
 h:w.heap[K.qc]?=some (.cells (cmCells K V) 112 (0,0))
 f:IxAt w K.bf E.fns
 r:IxAt w K.br E.roles
 o1:OpAt w K.b1 opOne
 o2:OpAt w K.b2 opTwo
 o3:OpAt w K.b3 opSkip
 c:CtAt w K.bc cs
 t:TgAt w K.bt ts
 rc:w.ownsRow base 116 4 V.c cs.length (cvs cs)
 rt:w.ownsRow base 9 1 V.t ts.length (tvs ts)
 cok:∀ c∈cs,CsOk c
 tok:∀ s∈ts,NmOk s
def wrCells (K:Bk) (nm:List Nat) (pr:Nat) (s:Ws) (V:Vs):Array Value:=#[.pointer (some ⟨K.qc,0,none⟩),.string (strOf nm),.int .i64 (pr:Int),.int .i64 (s.vars:Int),V.k,V.s]
structure WrAt (base:Nat) (K:Bk) (E:Env) (nm:List Nat) (pr:Nat) (w:World) (s:Ws) (V:Vs):Prop where
 cm:CmAt base K E w s.cs s.ts V
 h:w.heap[K.qw]?=some (.cells (wrCells K nm pr s V) 171 (0,0))
 rk:w.ownsRow K.qw 45 3 V.k s.code.length (ivs s.code)
 rs:w.ownsRow base 9 1 V.s s.sc.length (tvs s.sc)
 ne:V.t.ownBlock=none∨V.t.ownBlock≠V.s.ownBlock
 sok:∀ x∈s.sc,NmOk x
section
variable {base:Nat} {K:Bk} {E:Env} {nm:List Nat} {pr:Nat} {w w':World} {s:Ws} {V:Vs} {cs:List Cst} {ts:Tss}
theorem Bk.Ok.le (h:K.Ok base):base≤K.bf∧base≤K.br∧base≤K.bc∧base≤K.bt∧base≤K.qc∧base≤K.qw:=by
 obtain ⟨h1,h2,h3,h4,h5,h6,h7,h8,h9⟩:=h
 omega
theorem CmAt.keep {row:Option Nat} (h:CmAt base K E w cs ts V) (hg:w.grownBy w' row) (hq:some K.qc≠row) (hm:∀ es cl,∀ b,w.heap[b]?=some (.map es cl)→some b≠row) (hc:V.c.ownBlock=none∨V.c.ownBlock≠row) (ht:V.t.ownBlock=none∨V.t.ownBlock≠row):CmAt base K E w' cs ts V:=by
 have m1:some K.bf≠row:=by obtain ⟨D,n,h1,-⟩:=h.f.own; obtain ⟨es,cl,h2⟩:=own_map h1; exact hm es cl _ h2
 have m2:some K.br≠row:=by obtain ⟨D,n,h1,-⟩:=h.r.own; obtain ⟨es,cl,h2⟩:=own_map h1; exact hm es cl _ h2
 have m3:some K.b1≠row:=by obtain ⟨D,n,h1,-⟩:=h.o1.own; obtain ⟨es,cl,h2⟩:=own_map h1; exact hm es cl _ h2
 have m4:some K.b2≠row:=by obtain ⟨D,n,h1,-⟩:=h.o2.own; obtain ⟨es,cl,h2⟩:=own_map h1; exact hm es cl _ h2
 have m5:some K.b3≠row:=by obtain ⟨D,n,h1,-⟩:=h.o3.own; obtain ⟨es,cl,h2⟩:=own_map h1; exact hm es cl _ h2
 have m6:some K.bc≠row:=by obtain ⟨D,h1,-⟩:=h.c.own; obtain ⟨es,cl,h2⟩:=own_map h1; exact hm es cl _ h2
 have m7:some K.bt≠row:=by obtain ⟨D,h1,-⟩:=h.t.own; obtain ⟨es,cl,h2⟩:=own_map h1; exact hm es cl _ h2
 exact ⟨h.ok,(hg.block _ (lt_heap h.h) hq).trans h.h,h.f.kept hg m1,h.r.kept hg m2,h.o1.kept hg m3,h.o2.kept hg m4,h.o3.kept hg m5,h.c.kept hg m6,h.t.kept hg m7,h.rc.kept hg hc,h.rt.kept hg ht,h.cok,h.tok⟩
theorem CmAt.below (h:CmAt base K E w cs ts V) (k:Below w.heap.size w w'):CmAt base K E w' cs ts V :=
 h.keep (row:=none) ⟨k.os,k.tape,k.output,k.size,fun i hi _ => k.block i hi⟩ (by simp) (by simp) (by
   cases V.c.ownBlock with
   | none=>exact .inl rfl
   | some g=>exact .inr (by simp)) (by
   cases V.t.ownBlock with
   | none=>exact .inl rfl
   | some g=>exact .inr (by simp))
theorem ownsRow_below' {E:TypeId} {sz n:Nat} {v:Value} {xs:List Value} (h:w.ownsRow base E sz v n xs) (k:Below w.heap.size w w'):w'.ownsRow base E sz v n xs :=
 World.ownsRow.kept h (row:=none) ⟨k.os,k.tape,k.output,k.size,fun i hi _ => k.block i hi⟩ (by
   cases v.ownBlock with
   | none=>exact .inl rfl
   | some g=>exact .inr (by simp))
theorem WrAt.below (h:WrAt base K E nm pr w s V) (k:Below w.heap.size w w'):WrAt base K E nm pr w' s V :=
 ⟨h.cm.below k,heap_below h.h k,ownsRow_below' h.rk k,ownsRow_below' h.rs k,h.ne,h.sok⟩
theorem WrAt.alloc (h:WrAt base K E nm pr w s V) (o:Obj):WrAt base K E nm pr (w.alloc o) s V:=h.below ((Below.refl _ _).alloc (Nat.le_refl _) o)
theorem WrAt.drew (h:WrAt base K E nm pr w s V):WrAt base K E nm pr w.drew s V:=h.below ((Below.refl _ _).drew)
theorem WrAt.lt (h:WrAt base K E nm pr w s V):K.qc<w.heap.size∧K.qw<w.heap.size∧base≤w.heap.size:=by
 have h1:=lt_heap h.cm.h
 have h2:=lt_heap h.h
 have h3:=h.cm.ok.le
 omega
theorem WrAt.codes {v:Value} {code:List In3} (h:WrAt base K E nm pr w s V) (hg:w.grownBy w' V.k.ownBlock) (ho:w'.ownsRow K.qw 45 3 v code.length (ivs code)) :
   WrAt base K E nm pr (w'.setCell ⟨K.qw,4,none⟩ v) { s with code:=code } { V with k:=v }:=by
 have tI:(45:TypeId)≠112:=by decide
 have tW:(45:TypeId)≠171:=by decide
 have tV:(116:TypeId)≠45:=by decide
 have tS:(9:TypeId)≠45:=by decide
 have hq1:some K.qw≠V.k.ownBlock:=fun e=>row_ne h.rk h.h (fun c fr e2=>by injection e2 with _ e3; exact tW e3.symm) e.symm
 have h1:CmAt base K E w' s.cs s.ts V:=h.cm.keep hg (fun e=>row_ne h.rk h.cm.h (fun c fr e2=>by injection e2 with _ e3; exact tI e3.symm) e.symm) (fun es cl b hb e=>row_ne h.rk hb (fun c fr e2=>by cases e2) e.symm) (rows_ne h.cm.rc h.rk tV) (rows_ne h.cm.rt h.rk tS)
 have h2:w'.heap[K.qw]?=some (.cells (wrCells K nm pr s V) 171 (0,0)):=(hg.block _ (lt_heap h.h) hq1).trans h.h
 have hk:=(Kp.refl K.qw w').set (p:=⟨K.qw,4,none⟩) rfl v
 have nq:K.qc≠K.qw:=by have:=h.cm.ok.w; omega
 have h3:CmAt base K E (w'.setCell ⟨K.qw,4,none⟩ v) s.cs s.ts { V with k:=v }:=by
   have:=h1.keep hk (fun e=>nq (Option.some.inj e)) (fun es cl b hb e=>by
     cases Option.some.inj e
     rw [h2] at hb
     cases hb) (.inr (row_ne h1.rc h2 (fun c fr e=>by injection e with _ e3; exact absurd e3 (by decide)))) (.inr (row_ne h1.rt h2 (fun c fr e=>by injection e with _ e3; exact absurd e3 (by decide))))
   exact ⟨this.ok,this.h,this.f,this.r,this.o1,this.o2,this.o3,this.c,this.t,this.rc,this.rt,this.cok,this.tok⟩
 exact ⟨h3,by simpa [wrCells] using heap_set h2 4 v,World.ownsRow.kept ho hk (.inr (row_ne ho h2 (fun c fr e=>by injection e with _ e3; exact absurd e3 (by decide)))),World.ownsRow.kept (World.ownsRow.kept h.rs hg (rows_ne h.rs h.rk tS)) hk (.inr (row_ne (World.ownsRow.kept h.rs hg (rows_ne h.rs h.rk tS)) h2 (fun c fr e=>by injection e with _ e3; exact absurd e3 (by decide)))),h.ne,h.sok⟩
end
def WrS (base:Nat) (K:Bk) (E:Env) (nm:List Nat) (pr:Nat) (w:World) (s:Ws):Prop:=∃ V,WrAt base K E nm pr w s V
def OutW (base:Nat) (K:Bk) (E:Env) (nm:List Nat) (pr:Nat) (w:World) (s:Ws) (e:Ending) (w':World):Prop:=e = .returned (.tuple #[])∧WrS base K E nm pr w' s∧Cf base K w w'
end Go.Proofs.YtcmopnkldplngabGreatDoor
namespace Go.Proofs.YtcmopnkldplngabGreatDoor
open Go.RowKit
set_option linter.unusedVariables false
theorem ins_info:(Tryz.prog.info? 45).map (fun i=>(i.zero,i.size,i.bytes))=some (some (.agg #[.int .u8 0,.int .i64 0,.int .i64 0]),3,24):=by kernel_rfl
theorem row_form {w:World} {B sz n:Nat} {e:TypeId} {v:Value} {xs:List Value} (h:w.ownsRow B e sz v n xs):∃ A c,v = .slice A n c∧n≤c∧c≤maxLen:=by
 rcases h.2 with ⟨h1,h2⟩ | ⟨g,cap,cur,he, _, _,h3,h4, _⟩
 · exact ⟨none,0,by rw [h1,h2],by omega,by unfold maxLen; omega⟩
 · exact ⟨_,cap,he,h3,h4⟩
def Kept (w w':World) (q:Nat) (v:Value):Prop:=∀ k o,w.heap[k]?=some o→k≠q→v.ownBlock≠some k→w'.heap[k]?=some o
section
variable {base:Nat} {K:Bk} {E:Env} {nm:List Nat} {pr:Nat} {w:World} {s:Ws}
theorem WrS.below {w':World} (h:WrS base K E nm pr w s) (k:Below w.heap.size w w'):WrS base K E nm pr w' s:=let ⟨V,hV⟩:=h; ⟨V,hV.below k⟩
theorem WrS.alloc (h:WrS base K E nm pr w s) (o:Obj):WrS base K E nm pr (w.alloc o) s:=let ⟨V,hV⟩:=h; ⟨V,hV.alloc o⟩
theorem WrS.drew (h:WrS base K E nm pr w s):WrS base K E nm pr w.drew s:=let ⟨V,hV⟩:=h; ⟨V,hV.drew⟩
theorem WrS.lt (h:WrS base K E nm pr w s):K.qc<w.heap.size∧K.qw<w.heap.size∧base≤w.heap.size:=let ⟨V,hV⟩:=h; hV.lt
theorem WrS.ok (h:WrS base K E nm pr w s):K.Ok base:=let ⟨V,hV⟩:=h; hV.cm.ok
set_option maxRecDepth 100000 in
set_option maxHeartbeats 4000000 in
theorem write_v {V:Vs} (hV:WrAt base K E nm pr w s V) (o:Nat) (a b:Int) (hl:s.code.length≤1000000) :
   Calls Tryz.prog 66 #[at0 K.qw,.int .u8 (o:Int),.int .i64 a,.int .i64 b] w fun e w'=>OutW base K E nm pr w (s.put o a b) e w'∧Kept w w' K.qw V.k:=by
 obtain ⟨⟨c0,c1,c2,c3,c4,c5⟩,f0,f1,f2,f3,f4,f5⟩:=bx6 hV.h
 obtain ⟨hq1,hq2,hb⟩:=hV.lt
 obtain ⟨i0,hi0,hz0,hz1,hz2⟩:=info_parts ins_info
 obtain ⟨A,c,hA,hc1,hc2⟩:=row_form hV.rk
 have HV0:=Lib.hid hV
 have HV1:=Lib.hid (hV.alloc (.cells #[.int .u8 (o:Int),.int .i64 a,.int .i64 b] 45))
 have HC1:=Lib.hid ((Cf.refl base K w).alloc hb (.cells #[.int .u8 (o:Int),.int .i64 a,.int .i64 b] 45))
 have hbq:=hV.cm.ok.le.2.2.2.2.2
 rw [hA] at c4
 have HA:=Lib.hid hA
 clear hV hA
 unfold at0
 go_enter Tryz.func66,Tryz.ntmps66
 go_wp2_with (first
   | (at_builtin
      refine wpList_append_at _ rfl (.tmp 13) (.tmp 18) 40 rfl K.qw 45 i0 _ 3 24 Tryz.underlying40 hi0 hz0 hz1 hz2 rfl (by omega) (.slice A s.code.length c) _ _ rfl (by rw [← HA.out]; exact HV1.out.rk) _ _ 1 1 [.int .u8 (o:Int),.int .i64 a,.int .i64 b] rfl (At.made _ _ _) rfl (by intro u hu; simp at hu; rcases hu with rfl | rfl | rfl <;> rfl) (by unfold maxLen; omega) (by omega) (by simp; omega) ?_
      intro v' w7 ho7 hg7 hor7
      rw [← HA.out] at hg7
      obtain ⟨A7,c7,rfl,-,-⟩:=row_form ho7
      have HH7:Hid (w7.heap[K.qw]?=some (.cells (wrCells K nm pr s V) 171 (0,0))):=Lib.hid ((hg7.block _ (lt_heap HV1.out.h) (fun e=>row_ne HV1.out.rk HV1.out.h (fun c fr e2=>by injection e2 with _ e3; exact absurd e3 (by decide)) e.symm)).trans HV1.out.h)
      obtain ⟨⟨-,-,-,-,c4',-⟩,-,-,-,-,f4',-⟩:=bx6 HH7.out
      have h7:=lt_heap HH7.out
      have HO7:Hid (w7.ownsRow K.qw 45 3 (.slice A7 (s.code.length+1) c7) (s.put o a b).code.length (ivs (s.put o a b).code)):=Lib.hid (by
        show w7.ownsRow _ _ _ _ (s.code ++ [_]).length (ivs (s.code ++ [_]))
        rw [ivs_snoc,List.length_append]
        exact ho7)
      have HW7:=Lib.hid (HV1.out.codes hg7 HO7.out)
      have HC7:=Lib.hid ((HC1.out.row HV1.out.rk hbq (.inl ⟨rfl,Nat.le_refl _⟩) (by simp; omega) hg7).set (p:=⟨K.qw,4,none⟩) (.inr rfl) hbq (.slice A7 (s.code.length+1) c7))
      have HK7:Hid (Kept w (w7.setCell ⟨K.qw,4,none⟩ (.slice A7 (s.code.length+1) c7)) K.qw V.k):=Lib.hid (fun k o hk h1 h2=>(Below.heap_setCell _ _ _ _ h1).trans ((hg7.block k (lt_heap (heap_old hk _)) (fun e=>h2 e.symm)).trans (heap_old hk _)))
      clear ho7 hg7 hor7)
   | (fail))
 go_end0
 exact ⟨⟨rfl,⟨_,HW7.out⟩,HC7.out⟩,HK7.out⟩
theorem write_any (h:WrS base K E nm pr w s) (o:Nat) (a b:Int) (hl:s.code.length≤1000000) :
   Calls Tryz.prog 66 #[at0 K.qw,.int .u8 (o:Int),.int .i64 a,.int .i64 b] w (OutW base K E nm pr w (s.put o a b)):=by
 obtain ⟨V,hV⟩:=h
 exact (write_v hV o a b hl).mono fun e w' h=>h.1
theorem CmAt.vs {V V':Vs} {cs:List Cst} {ts:Tss} (h:CmAt base K E w cs ts V) (h1:V'.c=V.c) (h2:V'.t=V.t):CmAt base K E w cs ts V':=by
 obtain ⟨c,t,k,s⟩:=V
 obtain ⟨c',t',k',s'⟩:=V'
 simp only at h1 h2
 subst h1
 subst h2
 exact ⟨h.ok,h.h,h.f,h.r,h.o1,h.o2,h.o3,h.c,h.t,h.rc,h.rt,h.cok,h.tok⟩
theorem WrAt.put {arr:Array Value} {s':Ws} {V':Vs} {nm':List Nat} {pr':Nat} (hc:CmAt base K E w s'.cs s'.ts V') (hh:w.heap[K.qw]?=some (.cells arr 171 (0,0))) (rk:w.ownsRow K.qw 45 3 V'.k s'.code.length (ivs s'.code))
   (rs:w.ownsRow base 9 1 V'.s s'.sc.length (tvs s'.sc)) (ne:V'.t.ownBlock=none∨V'.t.ownBlock≠V'.s.ownBlock) (sok:∀ x∈s'.sc,NmOk x) (i:Nat) (u:Value) (ha:arr.setIfInBounds i u=wrCells K nm' pr' s' V') :
   WrAt base K E nm' pr' (w.setCell ⟨K.qw,i,none⟩ u) s' V':=by
 have hk:=(Kp.refl K.qw w).set (p:=⟨K.qw,i,none⟩) rfl u
 have nq:K.qc≠K.qw:=by have:=hc.ok.w; omega
 refine ⟨hc.keep hk (fun e=>nq (Option.some.inj e)) (fun es cl b hb e=>by
     cases Option.some.inj e
     rw [hh] at hb
     cases hb) (.inr (row_ne hc.rc hh (fun c fr e=>by injection e with _ e3; exact absurd e3 (by decide)))) (.inr (row_ne hc.rt hh (fun c fr e=>by injection e with _ e3; exact absurd e3 (by decide)))),?_,World.ownsRow.kept rk hk (.inr (row_ne rk hh (fun c fr e=>by injection e with _ e3; exact absurd e3 (by decide)))),World.ownsRow.kept rs hk (.inr (row_ne rs hh (fun c fr e=>by injection e with _ e3; exact absurd e3 (by decide)))),ne,sok⟩
 have:=heap_set hh i u
 rw [ha] at this
 exact this
theorem WrAt.scopes {V:Vs} {w':World} {v:Value} {sc:Tss} (h:WrAt base K E nm pr w s V) (hg:w.grownBy w' V.s.ownBlock) (ho:w'.ownsRow base 9 1 v sc.length (tvs sc)) (hor:v.ownBlock=V.s.ownBlock∨v.ownBlock=some w.heap.size) (hs:∀ x∈sc,NmOk x) :
   WrAt base K E nm pr (w'.setCell ⟨K.qw,5,none⟩ v) { s with sc:=sc } { V with s:=v }:=by
 have tV:(116:TypeId)≠9:=by decide
 have tI:(45:TypeId)≠9:=by decide
 have hq1:some K.qw≠V.s.ownBlock:=fun e=>row_ne h.rs h.h (fun c fr e2=>by injection e2 with _ e3; exact absurd e3 (by decide)) e.symm
 have h1:CmAt base K E w' s.cs s.ts V:=h.cm.keep hg (fun e=>row_ne h.rs h.cm.h (fun c fr e2=>by injection e2 with _ e3; exact absurd e3 (by decide)) e.symm) (fun es cl b hb e=>row_ne h.rs hb (fun c fr e2=>by cases e2) e.symm) (rows_ne h.cm.rc h.rs tV) h.ne
 have h2:w'.heap[K.qw]?=some (.cells (wrCells K nm pr s V) 171 (0,0)):=(hg.block _ (lt_heap h.h) hq1).trans h.h
 refine WrAt.put (V':={ V with s:=v }) (s':={ s with sc:=sc }) (h1.vs rfl rfl) h2 (World.ownsRow.kept h.rk hg (rows_ne h.rk h.rs tI)) ho ?_ hs 5 v (by simp [wrCells])
 rcases hor with e | e
 · show V.t.ownBlock=none∨V.t.ownBlock≠v.ownBlock
   rw [e]; exact h.ne
 · show V.t.ownBlock=none∨V.t.ownBlock≠v.ownBlock
   rw [e]
   cases ht:V.t.ownBlock with
   | none=>exact .inl rfl
   | some g =>
     right
     intro e2
     have:=(World.ownsRow.lt h.cm.rt g ht).2
     have:=Option.some.inj e2
     omega
theorem WrAt.setVars {V:Vs} (h:WrAt base K E nm pr w s V) (n:Nat):WrAt base K E nm pr (w.setCell ⟨K.qw,3,none⟩ (.int .i64 (n:Int))) { s with vars:=n } V :=
 WrAt.put (s':={ s with vars:=n }) h.cm h.h h.rk h.rs h.ne h.sok 3 _ (by simp [wrCells])
theorem tvs_take (l:Tss) (m:Nat):tvs (l.take m)=(tvs l).take m:=by simp [tvs]
theorem WrAt.trunc {V:Vs} {A:Option Addr} {c m:Nat} (h:WrAt base K E nm pr w s V) (hA:V.s = .slice A s.sc.length c) (hm:m≤s.sc.length):WrAt base K E nm pr (w.setCell ⟨K.qw,5,none⟩ (.slice A m c)) { s with sc:=s.sc.take m } { V with s := .slice A m c }:=by
 have hl:(s.sc.take m).length=m:=by rw [List.length_take]; omega
 have e:(Value.slice A m c).ownBlock=V.s.ownBlock:=by rw [hA]; cases A <;> rfl
 refine WrAt.put (V':={ V with s := .slice A m c }) (s':={ s with sc:=s.sc.take m }) (h.cm.vs rfl rfl) h.h h.rk ?_ (by show V.t.ownBlock=none∨V.t.ownBlock≠(Value.slice A m c).ownBlock; rw [e]; exact h.ne) (fun x hx=>h.sok x (List.mem_of_mem_take hx)) 5 _ (by simp [wrCells])
 show w.ownsRow base 9 1 (.slice A m c) (s.sc.take m).length (tvs (s.sc.take m))
 rw [hl,tvs_take]
 obtain ⟨h1,h2⟩:=h.rs
 rw [hA] at h2
 refine ⟨by rw [List.length_take,h1]; omega,?_⟩
 rcases h2 with ⟨h3,h4⟩ | ⟨g,cap,cur,h3,h4,h5,h6,h7,h8,h9⟩
 · injection h3 with e1 e2 e3
   subst e1
   subst e3
   left
   exact ⟨by rw [show m=0 by omega],by omega⟩
 · injection h3 with e1 e2 e3
   subst e1
   subst e3
   right
   refine ⟨g,c,cur,rfl,h4,h5,by omega,h7,h8,?_⟩
   rw [← h9,List.take_take,Nat.mul_one,Nat.mul_one,Nat.min_eq_left hm]
def OutLt (base:Nat) (K:Bk) (E:Env) (nm:List Nat) (pr:Nat) (w:World) (s:Ws) (x:List Nat) (e:Ending) (w':World):Prop:=e = .returned (.int .i64 (s.sc.length:Int))∧WrS base K E nm pr w' (s.let_ x)∧Cf base K w w'
set_option maxRecDepth 100000 in
set_option maxHeartbeats 4000000 in
theorem letW_any (h:WrS base K E nm pr w s) (x:List Nat) (hx:NmOk x) (hl:s.sc.length≤1000000) (hvv:s.vars≤1000000) :
   Calls Tryz.prog 109 #[at0 K.qw,.string (strOf x)] w (OutLt base K E nm pr w s x):=by
 obtain ⟨V,hV⟩:=h
 obtain ⟨⟨c0,c1,c2,c3,c4,c5⟩,f0,f1,f2,f3,f4,f5⟩:=bx6 hV.h
 obtain ⟨hq1,hq2,hb⟩:=hV.lt
 obtain ⟨i0,hi0,hz0,hz1,hz2⟩:=info_parts str_info
 obtain ⟨A,c,hA,hc1,hc2⟩:=row_form hV.rs
 have HV1:=Lib.hid (hV.alloc (.cells #[.string (strOf x)] 9))
 have HC1:=Lib.hid ((Cf.refl base K w).alloc hb (.cells #[.string (strOf x)] 9))
 have hbq:=hV.cm.ok.le.2.2.2.2.2
 have HSO:=Lib.hid hV.sok
 have HX:=Lib.hid hx
 rw [hA] at c5
 have HA:=Lib.hid hA
 obtain ⟨nn,hnn⟩:∃ nn,Hid (max s.vars (s.sc.length+1)=nn):=⟨_,Lib.hid rfl⟩
 have hmx:max (s.vars:Int) ((s.sc.length+1:Nat):Int)=(nn:Int):=by rw [← hnn.out]; omega
 have hmx2:max (s.vars:Int) ((s.sc.length:Int)+1)=(nn:Int):=by rw [← hnn.out]; omega
 generalize hX:strOf x=X at *
 clear hV hA hx
 unfold at0
 go_enter Tryz.func109,Tryz.ntmps109
 go_upto_region 2 with (first
   | (at_builtin
      refine wpList_append_at _ rfl (.tmp 9) (.tmp 11) 29 rfl base 9 i0 _ 1 16 Tryz.underlying29 hi0 hz0 hz1 hz2 rfl (by omega) (.slice A s.sc.length c) _ _ rfl (by rw [← HA.out]; exact HV1.out.rs) _ _ 1 1 [.string X] rfl (At.made _ _ _) rfl (by intro u hu; simp at hu; subst hu; rfl) (by unfold maxLen; omega) (by omega) (by simp; omega) ?_
      intro v' w7 ho7 hg7 hor7
      rw [← HA.out] at hg7 hor7
      obtain ⟨A7,c7,rfl,hc71,hc72⟩:=row_form ho7
      have HH7:Hid (w7.heap[K.qw]?=some (.cells (wrCells K nm pr s V) 171 (0,0))):=Lib.hid ((hg7.block _ (lt_heap HV1.out.h) (fun e=>row_ne HV1.out.rs HV1.out.h (fun c fr e2=>by injection e2 with _ e3; exact absurd e3 (by decide)) e.symm)).trans HV1.out.h)
      obtain ⟨⟨-,-,-,-,-,c5'⟩,-,-,-,-,-,f5'⟩:=bx6 HH7.out
      have h7:=lt_heap HH7.out
      have HO7:Hid (w7.ownsRow base 9 1 (.slice A7 (s.sc.length+1) c7) (s.sc ++ [x]).length (tvs (s.sc ++ [x]))):=Lib.hid (by
        rw [tvs_snoc,List.length_append,hX]
        exact ho7)
      have HW7:=Lib.hid (HV1.out.scopes hg7 HO7.out hor7 (by
        intro y hy
        rcases List.mem_append.1 hy with hy | hy
        · exact HSO.out y hy
        · rw [List.mem_singleton.1 hy]; exact HX.out))
      have HC7:=Lib.hid ((HC1.out.row HV1.out.rs (Nat.le_refl _) (.inr (.inl rfl)) (by simp; omega) hg7).set (p:=⟨K.qw,5,none⟩) (.inr rfl) hbq (.slice A7 (s.sc.length+1) c7))
      clear ho7 hg7 hor7)
   | (fail))
 obtain ⟨⟨d0,d1,d2,d3,d4,d5⟩,g0,g1,g2,g3,g4,g5⟩:=bx6 HW7.out.h
 have hd:=lt_heap HW7.out.h
 obtain ⟨W,hW⟩:∃ W,Hid (w7.setCell ⟨K.qw,5,none⟩ (.slice A7 (s.sc.length+1) c7)=W):=⟨_,Lib.hid rfl⟩
 rw [hW.out] at HW7 HC7 d0 d1 d2 d3 d4 d5 g0 g1 g2 g3 g4 g5 hd ⊢
 have HV9:=Lib.hid (fun z (hz:z=(nn:Int))=>show WrAt base K E nm pr (W.setCell ⟨K.qw,3,none⟩ (.int .i64 z)) (s.let_ x) { V with s := .slice A7 (s.sc.length+1) c7 } from by
   subst hz
   have:=HW7.out.setVars nn
   rw [← hnn.out] at this
   rw [← hnn.out]
   exact this)
 have HC9:=Lib.hid (fun z=>HC7.out.set (p:=⟨K.qw,3,none⟩) (.inr rfl) hbq (.int .i64 z))
 clear hX HV1 HC1 c0 c1 c2 c3 c4 c5 f0 f1 f2 f3 f4 f5 hW
 dsimp only at d0 d1 d2 d3 d4 d5
 go_region
 all_goals go_wp2_with fail
 all_goals go_ret
 all_goals exact ⟨rfl,⟨_,(HV9.out _ (by omega)).drew⟩,(HC9.out _).drew⟩
end
end Go.Proofs.YtcmopnkldplngabGreatDoor
namespace Go.Proofs.YtcmopnkldplngabGreatDoor
open Go.RowKit
set_option linter.unusedVariables false
theorem Tx.of_row {w:World} {base:Nat} {E:TypeId} {v:Value} {A:Option Addr} {n c:Nat} {l:Tss} (h:w.ownsRow base E 1 v l.length (tvs l)) (hv:v = .slice A n c):Tx w A l:=fun i s hs=>by
 have hi:=(List.getElem?_eq_some_iff.1 hs).1
 obtain ⟨g,cap,he,-,-⟩:=World.ownsRow.form h (by omega)
 rw [he] at hv
 injection hv with e1 e2 e3
 subst e1
 refine ⟨g,0,rfl,?_⟩
 rw [he] at h
 rw [show (0:Nat)+i=i by omega,World.ownsRow.cellAt h i (by omega)]
 simp [tvs,hs]
theorem idxI_app {s:List Nat}:∀ {l r:Tss},s ∉ l→r.head?=some s→idxI s (l ++ r)=(l.length:Int):=by
 intro l r h hr
 obtain ⟨r',hx⟩:∃ r',r=s :: r':=by
   cases r with
   | nil=>cases hr
   | cons x r'=>cases hr; exact ⟨r',rfl⟩
 subst hx
 have this:idxO s (l ++ s :: r')=some l.length:=by
   clear hr
   induction l with
   | nil=>rw [List.nil_append,idxO,if_pos rfl]; rfl
   | cons y l ih =>
     rw [List.cons_append,idxO,if_neg (fun e=>h (by rw [← e]; exact List.mem_cons_self)),ih (fun hh=>h (List.mem_cons_of_mem _ hh))]
     rfl
 unfold idxI
 rw [this]
set_option maxRecDepth 100000 in
set_option maxHeartbeats 800000 in
theorem index_idx (l:List (List Nat)) (s:List Nat) (A:Option Addr) (c:Nat) (w:World) (ht:Tx w A l) (h8:∀ t∈l,∀ x∈t,x<256) (hs:∀ x∈s,x<256) (hl:l.length≤10000000) :
   Calls Tryz.prog 217 #[.slice A l.length c,.string (strOf s)] w fun e w'=>e = .returned (.int .i64 (idxI s l))∧w'=w:=by
 go_enter Tryz.func217,Tryz.ntmps217
 go_wp2_with fail
 go_loopw [8,5] (fun i x wr=>∃ j:Nat,j≤l.length∧i = .int .i64 (j:Int)∧wr=w∧s ∉ l.take j) (fun i _ _ => l.length-(intOf i).toNat)
 case atStart=>exact ⟨0,Nat.zero_le _,rfl,rfl,by simp⟩
 case round =>
   obtain ⟨j,hj,rfl,rfl,hm⟩:=hrel
   by_cases hlt:j<l.length
   · obtain ⟨t,hlt2⟩:∃ t,l[j]?=some t:=⟨l[j],List.getElem?_eq_getElem hlt⟩
     obtain ⟨b,o,rfl,hc⟩:=ht j t hlt2
     have HM:Hid (s ∉ l.take j):=Lib.hid hm
     have HS:=Lib.hid (List.take_add_one (l:=l) (i:=j))
     have ht8:∀ x∈t,x<256:=h8 t (List.mem_of_getElem? hlt2)
     have he:((strOf s).toList == (strOf t).toList)=decide (s=t):=strOf_eq s t hs ht8
     by_cases hst:s=t
     · have he2:((strOf s).toList == (strOf t).toList)=true:=by rw [he]; exact decide_eq_true hst
       have HI:Hid (idxI s l=(j:Int)):=Lib.hid (by
         have h1:l=l.take j ++ l.drop j:=(List.take_append_drop j l).symm
         have h2:(l.drop j).head?=some t:=by rw [List.head?_drop]; exact hlt2
         have h3:=idxI_app hm (by rw [hst]; exact h2)
         rw [← h1,List.length_take,Nat.min_eq_left hj] at h3
         exact h3)
       clear he hst hm
       go_wp2_with fail
       go_ret
       exact ⟨congrArg Ending.returned (congrArg (Value.int .i64) HI.out.symm),rfl⟩
     · have he2:((strOf s).toList == (strOf t).toList)=false:=by rw [he]; exact decide_eq_false hst
       have HN:Hid (s ∉ l.take (j+1)):=Lib.hid (by
         rw [HS.out,hlt2]
         simp only [List.mem_append,not_or]
         exact ⟨HM.out,by simpa using hst⟩)
       clear he hst hm
       go_wp2_with fail
       go_roundw
       case rel=>exact ⟨j+1,by omega,by go_num,by first | rfl | trivial,HN.out⟩
       case measure=>simp [intOf]; omega
   · have hj':j=l.length:=by omega
     have HN:Hid (idxI s l = -1):=Lib.hid (by
       rw [hj',List.take_length] at hm
       unfold idxI
       rw [idxO_none.2 hm])
     clear hm
     go_wp2_with fail
     go_ret
     exact ⟨congrArg Ending.returned (congrArg (Value.int .i64) HN.out.symm),rfl⟩
section
variable {base:Nat} {K:Bk} {E:Env} {nm:List Nat} {pr:Nat} {w:World} {s:Ws}
set_option maxHeartbeats 1000000 in
theorem variable_any (h:WrS base K E nm pr w s) (x:List Nat) (hx:NmOk x) (hl:s.sc.length≤1000000) :
   Calls Tryz.prog 193 #[at0 K.qw,.string (strOf x)] w fun e w'=>e = .returned (.int .i64 (idxI x s.sc))∧w'=w:=by
 obtain ⟨V,hV⟩:=h
 obtain ⟨⟨c0,c1,c2,c3,c4,c5⟩,f0,f1,f2,f3,f4,f5⟩:=bx6 hV.h
 obtain ⟨hq1,hq2,hb⟩:=hV.lt
 obtain ⟨A,c,hA,hc1,hc2⟩:=row_form hV.rs
 have HI:=Lib.hid (index_idx s.sc x A c w (Tx.of_row hV.rs hA) (fun t ht=>(hV.sok t ht).1) hx.1 (by omega))
 rw [hA] at c5
 clear hV hA hx
 unfold at0
 go_enter Tryz.func193,Tryz.ntmps193
 go_wp2_with (first
   | (go_at_call 217
      refine HI.out.mono ?_
      rintro e w1 ⟨rfl,rfl⟩)
   | (fail))
 go_ret
 exact ⟨rfl,rfl⟩
def layF (g h:Nat):Value := .func (.func 218) #[] #[at0 g,at0 h]
structure LayAt (w:World) (K:Bk) (b1 b2 p:Nat):Prop where
 g:w.heap[b1]?=some (.cells #[at0 K.qw] 166 (0,0))
 h:w.heap[b2]?=some (.cells #[.int .i64 (p:Int)] 3 (0,0))
 gq:K.qw<b1
 hq:K.qw<b2
theorem LayAt.cf {w':World} {g h p:Nat} (l:LayAt w K g h p) (hk:Cf base K w w') (ok:K.Ok base):LayAt w' K g h p:=by
 obtain ⟨h1,h2,h3,h4,h5,h6,h7,h8,h9⟩:=ok
 have:=l.gq
 have:=l.hq
 exact ⟨hk.cells l.g (by omega) (by omega) (by omega) (by omega) (by decide) (by decide) (by decide),hk.cells l.h (by omega) (by omega) (by omega) (by omega) (by decide) (by decide) (by decide),l.gq,l.hq⟩
def OutJ (base:Nat) (K:Bk) (E:Env) (nm:List Nat) (pr:Nat) (w:World) (s:Ws) (o:Nat) (e:Ending) (w':World):Prop :=
 ∃ g h,e = .returned (layF g h)∧LayAt w' K g h s.code.length∧WrS base K E nm pr w' (s.put o 0 0)∧Cf base K w w'
set_option maxRecDepth 100000 in
set_option maxHeartbeats 4000000 in
theorem jump_any (h:WrS base K E nm pr w s) (o:Nat) (hl:s.code.length≤1000000) :
   Calls Tryz.prog 195 #[at0 K.qw,.int .u8 (o:Int)] w (OutJ base K E nm pr w s o):=by
 obtain ⟨V,hV⟩:=h
 have HV2:=Lib.hid (WrS.alloc (WrS.alloc ⟨V,hV⟩ (.cells #[at0 K.qw] 166)) (.cells #[.int .i64 (s.code.length:Int)] 3))
 obtain ⟨hq1,hq2,hb⟩:=hV.lt
 have HC2:=Lib.hid (((Cf.refl base K w).alloc hb (.cells #[at0 K.qw] 166)).alloc (by simp; omega) (.cells #[.int .i64 (s.code.length:Int)] 3))
 have HL:Hid (LayAt ((w.alloc (.cells #[at0 K.qw] 166)).alloc (.cells #[.int .i64 (s.code.length:Int)] 3)) K w.heap.size (w.heap.size+1) s.code.length):=Lib.hid ⟨heap_old (heap_new w _) _,heap_new' _ _ _ (by simp),hq2,by omega⟩
 have HWR:=Lib.hid (write_any HV2.out o 0 0 hl)
 obtain ⟨A,c,hA,hc1,hc2⟩:=row_form hV.rk
 obtain ⟨⟨c0,c1,c2,c3,c4,c5⟩,-⟩:=bx6 hV.h
 have hok:=Lib.hid hV.cm.ok
 rw [hA] at c4
 clear hV hA
 unfold at0 at *
 go_enter Tryz.func195,Tryz.ntmps195
 go_wp2_with (first
   | (go_at_call 66
      refine HWR.out.mono ?_
      rintro e w1 ⟨rfl,hw1,hc1⟩
      have HW1:=Lib.hid hw1
      have HK1:=Lib.hid hc1
      clear hw1 hc1)
   | (fail))
 go_ret
 exact ⟨_, _,rfl,HL.out.cf HK1.out hok.out,HW1.out,HC2.out.trans HK1.out⟩
theorem ivs_set (n:Int):∀ (l:List In3) (p:Nat),(ivs l).set (p*3+1) (.int .i64 n)=ivs (l.modify p (fun i=>{ i with a:=n }))
 | [],p=>by simp [ivs]
 | i :: r,0=>by simp [ivs]
 | i :: r,p+1=>by
   have h:=ivs_set n r p
   rw [show (p+1)*3+1=p*3+1+1+1+1 by omega]
   show ((_ : Value) :: _ :: _ :: ivs r).set _ _ = _
   rw [List.set_cons_succ,List.set_cons_succ,List.set_cons_succ,h]
   simp [ivs]
set_option maxRecDepth 100000 in
set_option maxHeartbeats 4000000 in
theorem lay_any {g h p:Nat} (hs:WrS base K E nm pr w s) (hL:LayAt w K g h p) (hp:p<s.code.length) (hl:s.code.length≤1000000) :
   Calls Tryz.prog 218 #[at0 g,at0 h] w (OutW base K E nm pr w (s.lay p)):=by
 obtain ⟨V,hV⟩:=hs
 obtain ⟨⟨c0,c1,c2,c3,c4,c5⟩,-⟩:=bx6 hV.h
 obtain ⟨hq1,hq2,hb⟩:=hV.lt
 obtain ⟨G,cap,hA,hg1,hg2⟩:=World.ownsRow.form hV.rk (by omega)
 obtain ⟨-,cap',hA',hcap,hcap2⟩:=row_form hV.rk
 have hrk:=hV.rk
 rw [hA] at hrk c4
 have e0:=cell_of_one hL.g
 have e1:=cell_of_one hL.h
 have e2:=World.ownsRow.frozenAt hrk (p*3+1)
 have e3:=World.ownsRow.cellAt hrk (p*3+1) (by omega)
 obtain ⟨old,hold⟩:∃ old,(ivs s.code)[p*3+1]?=some old:=⟨_,List.getElem?_eq_getElem (by rw [ivs_len]; omega)⟩
 rw [hold] at e3
 obtain ⟨hst1,hst2⟩:=World.ownsRow.stored hrk (p*3+1) (.int .i64 (s.code.length:Int))
 rw [ivs_set] at hst1
 have hcodes:=hV.cm
 have HO:Hid (WrAt base K E nm pr (w.setCell ⟨G,p*3+1,none⟩ (.int .i64 (s.code.length:Int))) (s.lay p) V):=Lib.hid (by
   have hgk:V.k.ownBlock=some G:=by rw [hA]; rfl
   have h1:CmAt base K E (w.setCell ⟨G,p*3+1,none⟩ (.int .i64 (s.code.length:Int))) s.cs s.ts V:=hV.cm.keep hst2 (fun e=>row_ne hV.rk hV.cm.h (fun c fr e2=>by injection e2 with _ e3; exact absurd e3 (by decide)) (hgk.trans e.symm)) (fun es cl b hb e=>row_ne hV.rk hb (fun c fr e2=>by cases e2) (hgk.trans e.symm)) (by rw [← hgk]; exact rows_ne hV.cm.rc hV.rk (by decide)) (by rw [← hgk]; exact rows_ne hV.cm.rt hV.rk (by decide))
   refine ⟨h1,(hst2.block _ (lt_heap hV.h) (fun e=>row_ne hV.rk hV.h (fun c fr e2=>by injection e2 with _ e3; exact absurd e3 (by decide)) (hgk.trans e.symm))).trans hV.h,?_,World.ownsRow.kept hV.rs hst2 (by rw [← hgk]; exact rows_ne hV.rs hV.rk (by decide)),hV.ne,hV.sok⟩
   show World.ownsRow _ _ _ _ V.k (s.code.modify p _).length (ivs (s.code.modify p _))
   rw [List.length_modify,hA]
   exact hst1)
 have HC:Hid (Cf base K w (w.setCell ⟨G,p*3+1,none⟩ (.int .i64 (s.code.length:Int)))):=Lib.hid ((Cf.refl base K w).row hV.rk hV.cm.ok.le.2.2.2.2.2 (.inl ⟨rfl,Nat.le_refl _⟩) hb (by rw [hA]; exact hst2))
 have hix:(p:Int)<(s.code.length:Int):=by omega
 clear hV hrk hst1 hst2 hL hcodes hold hA
 unfold at0 at *
 go_enter Tryz.func218,Tryz.ntmps218
 go_region
 go_wp2_with fail
 go_end0
 exact ⟨rfl,⟨V,HO.out.drew⟩,HC.out.drew⟩
end
end Go.Proofs.YtcmopnkldplngabGreatDoor
namespace Go.Proofs.YtcmopnkldplngabGreatDoor
open Go.RowKit
set_option linter.unusedVariables false
theorem rowK {w w':World} {B sz n:Nat} {e:TypeId} {v:Value} {xs:List Value} (h:w.ownsRow B e sz v n xs) (hk:∀ g o,v.ownBlock=some g→w.heap[g]?=some o→w'.heap[g]?=some o):w'.ownsRow B e sz v n xs:=by
 obtain ⟨h1,h2⟩:=h
 refine ⟨h1,?_⟩
 rcases h2 with h2 | ⟨g,cap,cur,he,hb,hh,h3⟩
 · exact .inl h2
 · exact .inr ⟨g,cap,cur,he,hb,hk g _ (by rw [he]; rfl) hh,h3⟩
theorem mapK {w w':World} {b n:Nat} {k:TypeId} {R:Value→Option (DataW Unit × List MemPlace)} {D:DataW Unit} (h:w.ownsMap Tryz.prog k R b n D) (hk:∀ o,w.heap[b]?=some o→w'.heap[b]?=some o):w'.ownsMap Tryz.prog k R b n D:=by
 obtain ⟨es,cl,hb,r⟩:=h
 exact ⟨es,cl,hk _ hb,r⟩
theorem ne_kind {w:World} {i j:Nat} {o o':Obj} (h1:w.heap[i]?=some o) (h2:w.heap[j]?=some o') (h:o≠o'):i≠j:=fun e=>by
 subst e
 rw [h1] at h2
 exact h (Option.some.inj h2)
theorem ne_own {w:World} {base sz n k:Nat} {E:TypeId} {v:Value} {xs:List Value} {o:Obj} (h:w.ownsRow base E sz v n xs) (hk:w.heap[k]?=some o) (hn:∀ c fr,o ≠ .cells c E fr):v.ownBlock≠some k:=row_ne h hk hn
section
variable {base:Nat} {K:Bk} {E:Env} {nm:List Nat} {pr:Nat} {w W:World} {s:Ws} {V:Vs}
theorem IxAt.k {w w':World} {b:Nat} {l:Tss} (h:IxAt w b l) (hk:∀ o,w.heap[b]?=some o→w'.heap[b]?=some o):IxAt w' b l:=by
 obtain ⟨D,n,h1,h2⟩:=h.own
 exact ⟨D,n,mapK h1 hk,h2⟩
theorem OpAt.k {w w':World} {b:Nat} {f:List Nat→Nat} (h:OpAt w b f) (hk:∀ o,w.heap[b]?=some o→w'.heap[b]?=some o):OpAt w' b f:=by
 obtain ⟨D,n,h1,h2⟩:=h.own
 exact ⟨D,n,mapK h1 hk,h2⟩
theorem CtAt.k {w w':World} {b:Nat} {l:List Cst} (h:CtAt w b l) (hk:∀ o,w.heap[b]?=some o→w'.heap[b]?=some o):CtAt w' b l:=by
 obtain ⟨D,h1,h2⟩:=h.own
 exact ⟨D,mapK h1 hk,h2⟩
theorem TgAt.k {w w':World} {b:Nat} {l:Tss} (h:TgAt w b l) (hk:∀ o,w.heap[b]?=some o→w'.heap[b]?=some o):TgAt w' b l:=by
 obtain ⟨D,h1,h2⟩:=h.own
 exact ⟨D,mapK h1 hk,h2⟩
--TAGS
theorem WrAt.tags {v:Value} {ts:Tss} (h:WrAt base K E nm pr w s V) (hk:∀ k o,w.heap[k]?=some o→k≠K.bt→V.t.ownBlock≠some k→k≠K.qc→W.heap[k]?=some o) (hq:W.heap[K.qc]?=some (.cells (cmCells K { V with t:=v }) 112 (0,0)))
   (ht:TgAt W K.bt ts) (ho:W.ownsRow base 9 1 v ts.length (tvs ts)) (hor:v.ownBlock=V.t.ownBlock∨∀ k,v.ownBlock=some k→w.heap.size≤k) (hs:∀ x∈ts,NmOk x) :
   WrAt base K E nm pr W { s with ts:=ts } { V with t:=v }:=by
 obtain ⟨k1,k2,k3,k4,k5,k6,k7,k8,k9⟩:=h.cm.ok
 have hm:∀ b,(∃ es cl,w.heap[b]?=some (.map es cl))→b≠K.bt→∀ o,w.heap[b]?=some o→W.heap[b]?=some o:=fun b hb hn o ho2=>by
   obtain ⟨es,cl,hb⟩:=hb
   exact hk b o ho2 hn (ne_own h.cm.rt hb (fun c fr e=>by cases e)) (ne_kind hb h.cm.h (fun e=>by cases e))
 have mo:∀ {b n:Nat} {k:TypeId} {R:Value→Option (DataW Unit × List MemPlace)} {D:DataW Unit},w.ownsMap Tryz.prog k R b n D→∃ es cl,w.heap[b]?=some (.map es cl):=fun h=>own_map h
 have hr:∀ {B:Nat} {E':TypeId} {sz n:Nat} {v':Value} {xs:List Value},w.ownsRow B E' sz v' n xs→(v'.ownBlock=none∨v'.ownBlock≠V.t.ownBlock)→E'≠112→W.ownsRow B E' sz v' n xs:=fun h1 h2 h3=>rowK h1 (fun g o hg ho2=>by
   obtain ⟨c,fz,hc⟩:=own_kind h1 g hg
   obtain ⟨D,hm1,-⟩:=h.cm.t.own
   obtain ⟨es,cl,hm2⟩:=own_map hm1
   refine hk g o ho2 (ne_kind hc hm2 (fun e=>by cases e)) (fun e=>?_) (ne_kind hc h.cm.h (fun e=>by injection e with _ e3; exact h3 e3))
   rcases h2 with h2 | h2
   · rw [h2] at hg; cases hg
   · exact h2 (hg.trans e.symm))
 have hcm:CmAt base K E W s.cs ts { V with t:=v }:=by
   refine ⟨h.cm.ok,hq,h.cm.f.k (hm _ ?_ (by omega)),h.cm.r.k (hm _ ?_ (by omega)),h.cm.o1.k (hm _ ?_ (by omega)),h.cm.o2.k (hm _ ?_ (by omega)),h.cm.o3.k (hm _ ?_ (by omega)),h.cm.c.k (hm _ ?_ (by omega)),ht,hr h.cm.rc (rows_ne h.cm.rc h.cm.rt (by decide)) (by decide),ho,h.cm.cok,hs⟩
   · obtain ⟨D,n,h1,-⟩:=h.cm.f.own; exact mo h1
   · obtain ⟨D,n,h1,-⟩:=h.cm.r.own; exact mo h1
   · obtain ⟨D,n,h1,-⟩:=h.cm.o1.own; exact mo h1
   · obtain ⟨D,n,h1,-⟩:=h.cm.o2.own; exact mo h1
   · obtain ⟨D,n,h1,-⟩:=h.cm.o3.own; exact mo h1
   · obtain ⟨D,h1,-⟩:=h.cm.c.own; exact mo h1
 have hts:V.s.ownBlock=none∨V.s.ownBlock≠V.t.ownBlock:=by
   rcases h.ne with e | e
   · cases hv:V.s.ownBlock with
     | none=>exact .inl rfl
     | some g=>exact .inr (by rw [e]; simp)
   · exact .inr (fun e2=>e e2.symm)
 refine ⟨hcm,hk _ _ h.h (by omega) (ne_own h.cm.rt h.h (fun c fr e=>by injection e with _ e3; exact absurd e3 (by decide))) (by omega),hr h.rk (rows_ne h.rk h.cm.rt (by decide)) (by decide),hr h.rs hts (by decide),?_,h.sok⟩
 show v.ownBlock=none∨v.ownBlock≠V.s.ownBlock
 rcases hor with e | e
 · rw [e]; exact h.ne
 · cases hv:v.ownBlock with
   | none=>exact .inl rfl
   | some g =>
     right
     intro e2
     have h1:=e g hv
     have h2:=(World.ownsRow.lt h.rs g e2.symm).2
     omega
--CONSTS
theorem WrAt.consts {v:Value} {cs:List Cst} (h:WrAt base K E nm pr w s V) (hk:∀ k o,w.heap[k]?=some o→k≠K.bc→V.c.ownBlock≠some k→k≠K.qc→W.heap[k]?=some o) (hq:W.heap[K.qc]?=some (.cells (cmCells K { V with c:=v }) 112 (0,0)))
   (ht:CtAt W K.bc cs) (ho:W.ownsRow base 116 4 v cs.length (cvs cs)) (hs:∀ x∈cs,CsOk x) :
   WrAt base K E nm pr W { s with cs:=cs } { V with c:=v }:=by
 obtain ⟨k1,k2,k3,k4,k5,k6,k7,k8,k9⟩:=h.cm.ok
 have hm:∀ b,(∃ es cl,w.heap[b]?=some (.map es cl))→b≠K.bc→∀ o,w.heap[b]?=some o→W.heap[b]?=some o:=fun b hb hn o ho2=>by
   obtain ⟨es,cl,hb⟩:=hb
   exact hk b o ho2 hn (ne_own h.cm.rc hb (fun c fr e=>by cases e)) (ne_kind hb h.cm.h (fun e=>by cases e))
 have mo:∀ {b n:Nat} {k:TypeId} {R:Value→Option (DataW Unit × List MemPlace)} {D:DataW Unit},w.ownsMap Tryz.prog k R b n D→∃ es cl,w.heap[b]?=some (.map es cl):=fun h=>own_map h
 have hr:∀ {B:Nat} {E':TypeId} {sz n:Nat} {v':Value} {xs:List Value},w.ownsRow B E' sz v' n xs→(v'.ownBlock=none∨v'.ownBlock≠V.c.ownBlock)→E'≠112→W.ownsRow B E' sz v' n xs:=fun h1 h2 h3=>rowK h1 (fun g o hg ho2=>by
   obtain ⟨c,fz,hc⟩:=own_kind h1 g hg
   obtain ⟨D,hm1,-⟩:=h.cm.c.own
   obtain ⟨es,cl,hm2⟩:=own_map hm1
   refine hk g o ho2 (ne_kind hc hm2 (fun e=>by cases e)) (fun e=>?_) (ne_kind hc h.cm.h (fun e=>by injection e with _ e3; exact h3 e3))
   rcases h2 with h2 | h2
   · rw [h2] at hg; cases hg
   · exact h2 (hg.trans e.symm))
 have hcm:CmAt base K E W cs s.ts { V with c:=v }:=by
   refine ⟨h.cm.ok,hq,h.cm.f.k (hm _ ?_ (by omega)),h.cm.r.k (hm _ ?_ (by omega)),h.cm.o1.k (hm _ ?_ (by omega)),h.cm.o2.k (hm _ ?_ (by omega)),h.cm.o3.k (hm _ ?_ (by omega)),ht,h.cm.t.k (hm _ ?_ (by omega)),ho,hr h.cm.rt (rows_ne h.cm.rt h.cm.rc (by decide)) (by decide),hs,h.cm.tok⟩
   · obtain ⟨D,n,h1,-⟩:=h.cm.f.own; exact mo h1
   · obtain ⟨D,n,h1,-⟩:=h.cm.r.own; exact mo h1
   · obtain ⟨D,n,h1,-⟩:=h.cm.o1.own; exact mo h1
   · obtain ⟨D,n,h1,-⟩:=h.cm.o2.own; exact mo h1
   · obtain ⟨D,n,h1,-⟩:=h.cm.o3.own; exact mo h1
   · obtain ⟨D,h1,-⟩:=h.cm.t.own; exact mo h1
 exact ⟨hcm,hk _ _ h.h (by omega) (ne_own h.cm.rc h.h (fun c fr e=>by injection e with _ e3; exact absurd e3 (by decide))) (by omega),hr h.rk (rows_ne h.rk h.cm.rc (by decide)) (by decide),hr h.rs (rows_ne h.rs h.cm.rc (by decide)) (by decide),h.ne,h.sok⟩
theorem bx9 {X:World} {g:Nat} {y0 y1 y2 y3 y4 y5 y6 y7 y8:Value} {E:TypeId} (h:X.heap[g]?=some (.cells #[y0,y1,y2,y3,y4,y5,y6,y7,y8] E (0,0))) :
   (X.cell? ⟨g,0,none⟩=some y0∧X.cell? ⟨g,1,none⟩=some y1∧X.cell? ⟨g,2,none⟩=some y2∧X.cell? ⟨g,3,none⟩=some y3∧X.cell? ⟨g,4,none⟩=some y4∧X.cell? ⟨g,5,none⟩=some y5∧X.cell? ⟨g,6,none⟩=some y6∧X.cell? ⟨g,7,none⟩=some y7∧X.cell? ⟨g,8,none⟩=some y8)∧X.frozen? ⟨g,6,none⟩=false∧X.frozen? ⟨g,8,none⟩=false :=
 ⟨⟨cell_block h 0,cell_block h 1,cell_block h 2,cell_block h 3,cell_block h 4,cell_block h 5,cell_block h 6,cell_block h 7,cell_block h 8⟩,free_block h 6,free_block h 8⟩
def OutPl (base:Nat) (K:Bk) (E:Env) (nm:List Nat) (pr:Nat) (w:World) (s:Ws) (i:Nat) (e:Ending) (w':World):Prop:=e = .returned (.int .i64 (i:Int))∧WrS base K E nm pr w' s∧Cf base K w w'
theorem nm_key (x:List Nat):WideAt.IsKeyLit (nk x):=trivial
set_option maxRecDepth 100000 in
set_option maxHeartbeats 4000000 in
theorem placeT_any (h:WrS base K E nm pr w s) (x:List Nat) (hx:NmOk x) (hl:s.ts.length≤1000000) :
   Calls Tryz.prog 196 #[.pointer (some ⟨K.qc,7,none⟩),.string (strOf x),.string (strOf x)] w (OutPl base K E nm pr w { s with ts:=plcL x s.ts } (plcI x s.ts)):=by
 obtain ⟨V,hV⟩:=h
 obtain ⟨⟨c0,c1,c2,c3,c4,c5,c6,c7,c8⟩,f6,f8⟩:=bx9 hV.cm.h
 obtain ⟨hq1,hq2,hb⟩:=hV.lt
 obtain ⟨D,ho,hD1,hD2⟩:=hV.cm.t.own
 have hk:=Lib.hid (key_nk x hx.2)
 obtain ⟨hh1,hh2⟩:=hD2 x hx
 unfold plcI plcL
 cases hi:idxO x s.ts with
 | some i =>
   rw [hi] at hh1
   have H1':Maps.has D (nk x)=true:=hh1
   have H2:=Lib.hid (hh2 i hi)
   have HW:=Lib.hid (show WrS base K E nm pr w { s with ts:=s.ts } from ⟨V,hV⟩)
   dsimp only
   clear hV hh1 hh2 hD1 hD2 hi hx
   go_enter Tryz.func196,Tryz.ntmps196
   go_wp2_with (first
     | (at_lookup
        refine wpList_lookup_own_ok_int _ rfl _ _ 107 rfl 9 3 .i64 str_key Tryz.underlying107 Tryz.underlying3 (zero_int _) K.bt s.ts.length D rfl ho _ _ rfl hk.out ?_
        intro c hc1 hc2
        have hc:c=(i:Int):=by rw [H2.out] at hc1; simpa using hc1.symm
        subst hc
        clear hc1 hc2)
     | (fail))
   go_ret
   exact ⟨rfl,HW.out,Cf.refl _ _ _⟩
 | none =>
   rw [hi] at hh1
   have H1':Maps.has D (nk x)=false:=hh1
   obtain ⟨i0,hi0,hz0,hz1,hz2⟩:=info_parts str_info
   obtain ⟨A,c,hA,hc1,hc2⟩:=row_form hV.cm.rt
   have HV:=Lib.hid hV
   have HA:=Lib.hid hA
   have HX:=Lib.hid hx
   have HD:=Lib.hid (hD2.put hD1 nm_key (fun a b ha hb e=>nk_inj ha.1 hb.1 e) x hx hi)
   have HD1:=Lib.hid (hD1.put (nk x) (iL (s.ts.length:Int)))
   have hwf:(Lit.int .i64 (s.ts.length:Int)).wf=true:=wf_nat (by omega)
   have hbq:=hV.cm.ok.le
   obtain ⟨hb1,hb2,hb3,hb4,hb5,hb6⟩:=hbq
   rw [hA] at c8
   have hNB:K.bt≠K.qc:=by have:=hV.cm.ok.q; omega
   have hTB:V.t.ownBlock=none∨V.t.ownBlock≠some K.bt:=by
     obtain ⟨es,cl,hm⟩:=own_map ho
     exact .inr (ne_own hV.cm.rt hm (fun c fr e=>by cases e))
   have hTB:=Lib.hid hTB
   generalize hX:strOf x=X at *
   dsimp only
   clear hV hh1 hh2 hD1 hD2 hi hx hA
   go_enter Tryz.func196,Tryz.ntmps196
   go_wp2_with (first
     | (at_lookup
        refine wpList_lookup_own_ok_int _ rfl _ _ 107 rfl 9 3 .i64 str_key Tryz.underlying107 Tryz.underlying3 (zero_int _) K.bt s.ts.length D rfl ho _ _ rfl hk.out ?_
        intro cq hcq1 hcq2
        clear hcq1 hcq2)
     | (at_mapUpdate
        refine wpList_mapUpdate_own _ rfl _ _ _ 107 rfl 9 3 str_key Tryz.underlying107 (plainElem Tryz.prog 3) K.bt s.ts.length _ rfl ho (by unfold maxLen; omega) _ _ _ rfl rfl hk.out _ [] (plainElem_int Tryz.underlying3 hwf) ?_
        intro w1 ho1 hg1
        have HO1:=Lib.hid ho1
        have HG1:=Lib.hid hg1
        have HQ1:Hid (w1.heap[K.qc]?=some (.cells (cmCells K V) 112 (0,0))):=Lib.hid ((hg1.block _ (lt_heap HV.out.cm.h) (fun e=>hNB (Option.some.inj e).symm)).trans HV.out.cm.h)
        obtain ⟨⟨d0,d1,d2,d3,d4,d5,d6,d7,d8⟩,g6,g8⟩:=bx9 HQ1.out
        rw [HA.out] at d8
        have h1q:=lt_heap HQ1.out
        have h1s:w.heap.size≤w1.heap.size:=hg1.size
        have HR1:Hid (w1.ownsRow base 9 1 V.t s.ts.length (tvs s.ts)):=Lib.hid (World.ownsRow.kept HV.out.cm.rt hg1 hTB.out)
        have HC1:Hid (Cf base K w w1):=Lib.hid ((Cf.refl base K w).map (.inr rfl) hb4 hb hg1)
        clear ho1 hg1)
     | (at_builtin
        refine wpList_append_at _ rfl (.tmp 35) (.tmp 37) 29 rfl base 9 i0 _ 1 16 Tryz.underlying29 hi0 hz0 hz1 hz2 rfl (by omega) (.slice A s.ts.length c) _ _ rfl (by rw [← HA.out]; exact HR1.out.alloc (.cells #[.string X] 9)) _ _ 1 1 [.string X] rfl (At.made _ _ _) rfl (by intro u hu; simp at hu; subst hu; rfl) (by unfold maxLen; omega) (by omega) (by simp; omega) ?_
        intro v' w7 ho7 hg7 hor7
        rw [← HA.out] at hg7 hor7
        obtain ⟨A7,c7,rfl,-,-⟩:=row_form ho7
        have HG7:=Lib.hid hg7
        have HO7:=Lib.hid ho7
        have HR7:=Lib.hid hor7
        have HQ7:Hid (w7.heap[K.qc]?=some (.cells (cmCells K V) 112 (0,0))):=Lib.hid ((hg7.block _ (by simp; omega) (fun e=>ne_own HV.out.cm.rt HV.out.cm.h (fun c fr e2=>by injection e2 with _ e3; exact absurd e3 (by decide)) e.symm)).trans (heap_old HQ1.out _))
        obtain ⟨⟨-,-,-,-,-,-,-,-,z8⟩,-,y8⟩:=bx9 HQ7.out
        have h7q:=lt_heap HQ7.out
        have HC7:Hid (Cf base K w w7):=Lib.hid ((HC1.out.alloc (by omega) (.cells #[.string X] 9)).row (HR1.out.alloc _) (Nat.le_refl _) (.inr (.inl rfl)) (by simp; omega) hg7)
        clear ho7 hg7 hor7)
     | (fail))
   go_ret
   have hkk:∀ k o,w.heap[k]?=some o→k≠K.bt→V.t.ownBlock≠some k→k≠K.qc→(w7.setCell ⟨K.qc,8,none⟩ (.slice A7 (s.ts.length+1) c7)).heap[k]?=some o:=fun k o hk h1 h2 h3=>by
     refine (Below.heap_setCell _ _ _ _ h3).trans ?_
     have e1:w1.heap[k]?=some o:=(HG1.out.block k (lt_heap hk) (fun e=>h1 (Option.some.inj e))).trans hk
     exact (HG7.out.block k (lt_heap (heap_old e1 _)) (fun e=>h2 e.symm)).trans (heap_old e1 _)
   have hk8:=(Kp.refl K.qc w7).set (p:=⟨K.qc,8,none⟩) rfl (.slice A7 (s.ts.length+1) c7)
   have ho8:w7.ownsRow base 9 1 (.slice A7 (s.ts.length+1) c7) (s.ts ++ [x]).length (tvs (s.ts ++ [x])):=by
     rw [tvs_snoc,List.length_append,hX]
     exact HO7.out
   have hm8:w7.ownsMap Tryz.prog 9 (plainElem Tryz.prog 3) K.bt (s.ts.length+1) (D.put (nk x) (iL (s.ts.length:Int))):=mapK HO1.out (fun o ho=>by
     obtain ⟨es,cl,hm⟩:=own_map HO1.out
     rw [hm] at ho
     cases ho
     exact (HG7.out.block _ (lt_heap (heap_old hm _)) (fun e=>ne_own (HR1.out) hm (fun c fr e=>by cases e) e.symm)).trans (heap_old hm _))
   refine ⟨rfl,⟨_,HV.out.tags (v := .slice A7 (s.ts.length+1) c7) (ts:=s.ts ++ [x]) hkk (by simpa [cmCells] using heap_set HQ7.out 8 (.slice A7 (s.ts.length+1) c7)) ⟨_,?_,HD1.out,HD.out⟩ (World.ownsRow.kept ho8 hk8 (.inr (ne_own ho8 HQ7.out (fun c fr e=>by injection e with _ e3; exact absurd e3 (by decide))))) ?_ ?_⟩,HC7.out.set (p:=⟨K.qc,8,none⟩) (.inl rfl) hb5 _⟩
   · rw [List.length_append]
     exact hm8.kept hk8 (fun e=>hNB (Option.some.inj e))
   · rcases HR7.out with e | e
     · exact .inl e
     · right
       intro k hk
       rw [e] at hk
       have:=Option.some.inj hk
       simp at this
       omega
   · intro y hy
     rcases List.mem_append.1 hy with hy | hy
     · exact HV.out.cm.tok y hy
     · rw [List.mem_singleton.1 hy]; exact HX.out
end
end Go.Proofs.YtcmopnkldplngabGreatDoor
namespace Go.Proofs.YtcmopnkldplngabGreatDoor
open Go.RowKit
set_option linter.unusedVariables false
section
variable {base:Nat} {K:Bk} {E:Env} {nm:List Nat} {pr:Nat} {w W:World} {s:Ws} {V:Vs}
theorem bx3k {X:World} {g:Nat} {y0 y1 y2:Value} {E:TypeId} (h:X.heap[g]?=some (.cells #[y0,y1,y2] E (0,0))):X.cell? ⟨g,0,none⟩=some y0∧X.cell? ⟨g,1,none⟩=some y1∧X.cell? ⟨g,2,none⟩=some y2:=⟨cell_block h 0,cell_block h 1,cell_block h 2⟩
theorem bx4k {X:World} {g:Nat} {y0 y1 y2 y3:Value} {E:TypeId} (h:X.heap[g]?=some (.cells #[y0,y1,y2,y3] E (0,0))):X.cell? ⟨g,0,none⟩=some y0∧X.cell? ⟨g,1,none⟩=some y1∧X.cell? ⟨g,2,none⟩=some y2∧X.cell? ⟨g,3,none⟩=some y3:=⟨cell_block h 0,cell_block h 1,cell_block h 2,cell_block h 3⟩
def thV (c:Cst):Value := .agg #[.int .u8 (c.k:Int),.int .i64 c.n,.string (strOf c.s),.slice none 0 0]
theorem val_info:(Tryz.prog.info? 116).map (fun i=>(i.zero,i.size,i.bytes))=some (some (.agg #[.int .u8 0,.int .i64 0,.string ⟨#[]⟩,.slice none 0 0]),4,56):=by kernel_rfl
theorem setCell_comm (w:World) {p q:Addr} (h:p.block≠q.block) (u v:Value):(w.setCell p u).setCell q v=(w.setCell q v).setCell p u:=by
 have e:((w.setCell p u).setCell q v).heap=((w.setCell q v).setCell p u).heap:=by
   apply Array.ext_getElem?
   intro i
   by_cases h1:i=p.block
   · have h2:i≠q.block:=fun e=>h (h1.symm.trans e)
     rw [Below.heap_setCell _ _ _ _ h2]
     unfold World.setCell
     dsimp only
     rw [Array.getElem?_modify,Array.getElem?_modify,Array.getElem?_modify,if_pos h1.symm,if_pos h1.symm,if_neg (fun e=>h2 e.symm)]
   · rw [Below.heap_setCell (w.setCell q v) p u i h1]
     by_cases h2:i=q.block
     · unfold World.setCell
       dsimp only
       rw [Array.getElem?_modify,Array.getElem?_modify,Array.getElem?_modify,if_pos h2.symm,if_pos h2.symm,if_neg (fun e=>h1 e.symm)]
     · rw [Below.heap_setCell _ _ _ _ h2,Below.heap_setCell _ _ _ _ h1,Below.heap_setCell _ _ _ _ h2]
 have e2:((w.setCell p u).setCell q v)={ ((w.setCell q v).setCell p u) with heap:=((w.setCell p u).setCell q v).heap }:=rfl
 rw [e2,e]
theorem cvs_put (l:List Cst) (x:Cst) (y0 y1 y2 y3:Value):((((cvs l ++ [y0,y1,y2,y3]).set ((cvs l).length) (.int .u8 (x.k:Int))).set ((cvs l).length+1) (.int .i64 x.n)).set ((cvs l).length+2) (.string (strOf x.s))).set ((cvs l).length+3) (.slice none 0 0)=cvs (l ++ [x]):=by
 rw [cvs_snoc]
 generalize cvs l=c
 rw [List.set_append_right _ _ (Nat.le_refl _),List.set_append_right _ _ (Nat.le_add_right _ _),List.set_append_right _ _ (Nat.le_add_right _ _),List.set_append_right _ _ (Nat.le_add_right _ _)]
 simp
theorem step_run {w w':World} {ops:Array Oper} {o:Oper} {a:Act} {K:Act→World→Prop} {Q:Exit→Act→World→Prop} {E:Prop} (hgd:o.guard=none) (s x:Operand) (t:TypeId)
   (ho:o.op = .call { callee := .builtin .append,args:=#[s,x],argTypes:=#[t,t] }) {v y v':Value} (hs:a.eval s=v) (hx:a.eval x=y) (hr:(Builtin.append_ #[t,t] o.type #[v,y]).run Tryz.prog w = .ok v' w')
   (h:K (a.put o.dst v') w'):if Region.wanted o (yielded ops a.tmps)=true then Oper.wp Tryz.prog o a w K Q else E:=by
 have hw:Region.wanted o (yielded ops a.tmps)=true:=by simp [Region.wanted,hgd]
 rw [if_pos hw]
 unfold Oper.wp execOp
 simp only [ho,resolve,invoke,builtin,Sem.run_bind,Sem.run_pure,Result.andThen_ok,List.map_toArray,List.map_cons,List.map_nil,hs,hx,hr]
 exact h
def OutC (base:Nat) (K:Bk) (E:Env) (nm:List Nat) (pr:Nat) (w:World) (s:Ws) (i:Nat) (V:Vs) (e:Ending) (w':World):Prop:=e = .returned (.int .i64 (i:Int))∧(∃ v,WrAt base K E nm pr w' s { V with c:=v })∧Cf base K w w'∧∀ k o,w.heap[k]?=some o→k≠K.bc→V.c.ownBlock≠some k→k≠K.qc→w'.heap[k]?=some o
theorem cmap_u:Tryz.prog.underlying 104=some (.map 246 3):=Tryz.underlying104
set_option maxRecDepth 100000 in
set_option maxHeartbeats 4000000 in
theorem placeC_any {V:Vs} (hV0:WrAt base K E nm pr w s V) (x:Cst) (hx:CsOk x) (hl:s.cs.length≤1000000) :
   Calls Tryz.prog 111 #[.pointer (some ⟨K.qc,5,none⟩),ckV x,thV x] w (OutC base K E nm pr w { s with cs:=plcL x s.cs } (plcI x s.cs) V):=by
 have hV:=hV0.below (two w (.cells #[.int .u8 (x.k:Int),.int .i64 x.n,.string (strOf x.s)] 246) (.cells #[.int .u8 (x.k:Int),.int .i64 x.n,.string (strOf x.s),.slice none 0 0] 116))
 have hb0:=hV0.lt.2.2
 have HC0:=Lib.hid ((Cf.refl base K w).below hb0 (two w (.cells #[.int .u8 (x.k:Int),.int .i64 x.n,.string (strOf x.s)] 246) (.cells #[.int .u8 (x.k:Int),.int .i64 x.n,.string (strOf x.s),.slice none 0 0] 116)))
 have hk1:=heap_old (heap_new w (.cells #[.int .u8 (x.k:Int),.int .i64 x.n,.string (strOf x.s)] 246)) (.cells #[.int .u8 (x.k:Int),.int .i64 x.n,.string (strOf x.s),.slice none 0 0] 116)
 have hk2:=heap_new' (w.alloc (.cells #[.int .u8 (x.k:Int),.int .i64 x.n,.string (strOf x.s)] 246)) (.cells #[.int .u8 (x.k:Int),.int .i64 x.n,.string (strOf x.s),.slice none 0 0] 116) (w.heap.size+1) (by simp)
 obtain ⟨g,hg⟩:∃ g,g=w.heap.size:=⟨_,rfl⟩
 rw [← hg] at hk1 hk2
 have hq0:=hV0.lt.1
 clear hV0
 obtain ⟨W,hW⟩:∃ W,Hid ((w.alloc (.cells #[.int .u8 (x.k:Int),.int .i64 x.n,.string (strOf x.s)] 246)).alloc (.cells #[.int .u8 (x.k:Int),.int .i64 x.n,.string (strOf x.s),.slice none 0 0] 116)=W):=⟨_,Lib.hid rfl⟩
 rw [hW.out] at hV HC0 hk1 hk2
 obtain ⟨⟨c0,c1,c2,c3,c4,c5,c6,c7,c8⟩,f6,f8⟩:=bx9 hV.cm.h
 obtain ⟨hq1,hq2,hb⟩:=hV.lt
 obtain ⟨D,ho,hD1,hD2⟩:=hV.cm.c.own
 obtain ⟨u0,u1,u2⟩:=bx3k hk1
 obtain ⟨v0,v1,v2,v3⟩:=bx4k hk2
 have hk:=key_ck x hx
 obtain ⟨hh1,hh2⟩:=hD2 x hx
 obtain ⟨vv,ps,hlk,hrd⟩:=ho.drew.look_ok cst_law cmap_u (zero_int W.drew) (plainElem_int (H:=Unit) Tryz.underlying3 (show (Lit.int .i64 0).wf=true by decide)) hk
 obtain ⟨z,hz1,hz2,-⟩:=plainElem_int_inv Tryz.underlying3 hrd
 subst hz1
 have hz3:=congrArg Prod.fst hz2
 dsimp only at hz3
 unfold plcI plcL
 cases hi:idxO x s.cs with
 | some i =>
   rw [hi] at hh1
   rw [show Maps.has D (ck x)=true from hh1] at hlk
   have hzi:z=(i:Int):=by have:=hz3.symm.trans (hh2 i hi); simpa using this
   subst hzi
   have HW:=Lib.hid (show WrAt base K E nm pr W.drew { s with cs:=s.cs } { V with c:=V.c } from hV.drew)
   have HK0:Hid (∀ k o,w.heap[k]?=some o→W.drew.heap[k]?=some o):=Lib.hid (fun k o hk=>by rw [← hW.out]; exact heap_old (heap_old hk _) _)
   unfold ckV at *
   unfold thV
   dsimp only
   clear hV hh1 hh2 hD1 hD2 hi hx hz2 hz3 hrd ho hk
   go_enter Tryz.func111,Tryz.ntmps111
   go_upto_region 1 with fail
   rw [hW.out]
   simp only [← hg]
   clear hg
   go_region
   go_wp2_with fail
   go_ret
   exact ⟨rfl,⟨_,HW.out⟩,HC0.out.drew,fun k o hk _ _ _ => HK0.out k o hk⟩
 | none =>
   rw [hi] at hh1
   rw [show Maps.has D (ck x)=false from hh1] at hlk
   obtain ⟨i0,hi0,hz0,hz1,hz2⟩:=info_parts val_info
   obtain ⟨A,c,hA,hc1,hc2⟩:=row_form hV.cm.rc
   have HD:=Lib.hid (hD2.put hD1 (fun c=>trivial) (fun a b ha hb e=>ck_inj ha hb e) x hx hi)
   have HD1:=Lib.hid (hD1.put (ck x) (iL (s.cs.length:Int)))
   have hwf:(Lit.int .i64 (s.cs.length:Int)).wf=true:=wf_nat (by omega)
   obtain ⟨w2,hup,ho2,hg2⟩:=ho.drew.drew.update cst_law cmap_u (by unfold maxLen; omega) hk (plainElem_int (H:=Unit) Tryz.underlying3 hwf)
   obtain ⟨hb1,hb2,hb3,hb4,hb5,hb6⟩:=hV.cm.ok.le
   have hNB:K.bc≠K.qc:=by have:=hV.cm.ok.q; have:=hV.cm.ok.t; omega
   rw [hA] at c6
   have HV:=Lib.hid hV
   have HA:=Lib.hid hA
   have HX:=Lib.hid hx
   unfold ckV at *
   unfold thV
   dsimp only
   have HO2:=Lib.hid ho2
   have HG2:=Lib.hid hg2
   have hg2w:W.grownBy w2 (some K.bc):=⟨hg2.os,hg2.tape,hg2.output,hg2.size,hg2.block⟩
   have HGW:=Lib.hid hg2w
   have HQ2:Hid (w2.heap[K.qc]?=some (.cells (cmCells K V) 112 (0,0))):=Lib.hid ((hg2w.block _ (lt_heap hV.cm.h) (fun e=>hNB (Option.some.inj e).symm)).trans hV.cm.h)
   have hm0:∃ es cl,W.heap[K.bc]?=some (.map es cl):=own_map ho
   have HT2:Hid (w2.heap[g+1]?=some (.cells #[.int .u8 (x.k:Int),.int .i64 x.n,.string (strOf x.s),.slice none 0 0] 116 (0,0))):=Lib.hid ((hg2w.block _ (lt_heap hk2) (fun e=>by
     obtain ⟨es,cl,hm0⟩:=hm0
     exact ne_kind hk2 hm0 (fun e=>by cases e) (Option.some.inj e))).trans hk2)
   have HR2:Hid (w2.ownsRow base 116 4 V.c s.cs.length (cvs s.cs)):=Lib.hid (World.ownsRow.kept hV.cm.rc hg2w (.inr (by
     obtain ⟨es,cl,hm0⟩:=hm0
     exact ne_own hV.cm.rc hm0 (fun c fr e=>by cases e))))
   have HC2:Hid (Cf base K w w2):=Lib.hid (HC0.out.map (.inl rfl) hb3 hb hg2w)
   obtain ⟨⟨d0,d1,d2,d3,d4,d5,d6,d7,d8⟩,e6,e8⟩:=bx9 HQ2.out
   rw [hA] at d6
   obtain ⟨t0,t1,t2,t3⟩:=bx4k HT2.out
   have l1:=lt_heap HT2.out
   have l2:=lt_heap HQ2.out
   obtain ⟨v7,w7,hap,ho7,hg7,hlt7,hor7⟩:=run_append_own_at (P:=Tryz.prog) (w2.alloc (.cells #[.int .u8 0,.int .i64 0,.string ⟨#[]⟩,.slice none 0 0] 116)).drew base 28 28 116 i0 _ 4 56 Tryz.underlying28 hi0 hz0 hz1 hz2 rfl (by omega) V.c s.cs.length (cvs s.cs) (HR2.out.alloc _).drew ⟨w2.heap.size,0,none⟩ 1 1 [.int .u8 0,.int .i64 0,.string ⟨#[]⟩,.slice none 0 0] rfl (by
     intro j u hu
     have:=(At.made w2 #[.int .u8 0,.int .i64 0,.string ⟨#[]⟩,.slice none 0 0] 116) (by simp)
     obtain ⟨b,o,e1,-,e2⟩:=this
     cases e1
     have:=e2 j u hu
     rw [Addr.add_lit]
     exact this) (by intro u hu; simp at hu; rcases hu with rfl | rfl | rfl | rfl <;> rfl) (by unfold maxLen; omega) (by omega) (by simp; have:=HC2.out.b.size; omega)
   obtain ⟨G,cap,rfl,hG1,hG2⟩:=World.ownsRow.form ho7 (by omega)
   rw [hA] at hap
   have hcl:(cvs s.cs).length=s.cs.length*4:=HR2.out.1
   have n0:w7.cell? ⟨G,s.cs.length*4,none⟩=some (.int .u8 0):=(World.ownsRow.cellAt ho7 (s.cs.length*4) (by omega)).trans (by rw [List.getElem?_append_right (by omega),hcl,Nat.sub_self]; rfl)
   have n1:w7.cell? ⟨G,s.cs.length*4+1,none⟩=some (.int .i64 0):=(World.ownsRow.cellAt ho7 (s.cs.length*4+1) (by omega)).trans (by rw [List.getElem?_append_right (by omega),hcl,Nat.add_sub_cancel_left]; rfl)
   have n2:w7.cell? ⟨G,s.cs.length*4+2,none⟩=some (.string ⟨#[]⟩):=(World.ownsRow.cellAt ho7 (s.cs.length*4+2) (by omega)).trans (by rw [List.getElem?_append_right (by omega),hcl,Nat.add_sub_cancel_left]; rfl)
   have n3:w7.cell? ⟨G,s.cs.length*4+3,none⟩=some (.slice none 0 0):=(World.ownsRow.cellAt ho7 (s.cs.length*4+3) (by omega)).trans (by rw [List.getElem?_append_right (by omega),hcl,Nat.add_sub_cancel_left]; rfl)
   have q0:=World.ownsRow.frozenAt ho7 (s.cs.length*4)
   have q1:=World.ownsRow.frozenAt ho7 (s.cs.length*4+1)
   have q2:=World.ownsRow.frozenAt ho7 (s.cs.length*4+2)
   have q3:=World.ownsRow.frozenAt ho7 (s.cs.length*4+3)
   have hix:(s.cs.length:Int)<(s.cs.length:Int)+1:=by omega
   have hVQ:V.c.ownBlock≠some K.qc:=ne_own hV.cm.rc hV.cm.h (fun c fr e=>by injection e with _ e3; exact absurd e3 (by decide))
   have HQ7:Hid (w7.heap[K.qc]?=some (.cells (cmCells K V) 112 (0,0))):=Lib.hid ((hg7.block _ (by simp; omega) (fun e=>hVQ e.symm)).trans (heap_old HQ2.out _))
   obtain ⟨⟨-,-,-,-,-,-,m6,-,-⟩,y6,-⟩:=bx9 HQ7.out
   have hGQ:G≠K.qc:=fun e=>by
     rcases hor7 with e2 | e2
     · exact hVQ (e2.symm.trans (congrArg some e))
     · have:=Option.some.inj e2
       simp at this
       omega
   have hQG:K.qc≠G:=fun e=>hGQ e.symm
   have l7:=lt_heap HQ7.out
   have HO7:=Lib.hid ho7
   have hkk:∀ k o,W.heap[k]?=some o→k≠K.bc→V.c.ownBlock≠some k→k≠K.qc→w7.heap[k]?=some o:=fun k o hk h1 h2 h3=>by
     have e1:w2.heap[k]?=some o:=(HGW.out.block k (lt_heap hk) (fun e=>h1 (Option.some.inj e))).trans hk
     exact (hg7.block k (lt_heap (heap_old e1 _)) (fun e=>h2 e.symm)).trans (heap_old e1 _)
   have hm7:w7.ownsMap Tryz.prog 246 (plainElem Tryz.prog 3) K.bc (s.cs.length+1) (D.put (ck x) (iL (s.cs.length:Int))):=mapK ho2 (fun o ho=>by
     obtain ⟨es,cl,hm⟩:=own_map ho2
     rw [hm] at ho
     cases ho
     exact (hg7.block _ (lt_heap (heap_old hm _)) (fun e=>ne_own HR2.out hm (fun c fr e=>by cases e) e.symm)).trans (heap_old hm _))
   have hGB:K.bc≠G:=fun e=>by
     obtain ⟨es,cl,hm⟩:=own_map hm7
     exact ne_own ho7 hm (fun c fr e2=>by cases e2) (congrArg some e.symm)
   have HK0:Hid (∀ k o,w.heap[k]?=some o→W.heap[k]?=some o):=Lib.hid (fun k o hk=>by rw [← hW.out]; exact heap_old (heap_old hk _) _)
   have HA7:Hid ((∃ v,WrAt base K E nm pr (((((w7.setCell ⟨G,s.cs.length*4,none⟩ (.int .u8 (x.k:Int))).setCell ⟨G,s.cs.length*4+1,none⟩ (.int .i64 x.n)).setCell ⟨G,s.cs.length*4+2,none⟩ (.string (strOf x.s))).setCell ⟨G,s.cs.length*4+3,none⟩ (.slice none 0 0)).setCell ⟨K.qc,6,none⟩ (.slice (some ⟨G,0,none⟩) (s.cs.length+1) cap)) { s with cs:=s.cs ++ [x] } { V with c:=v }) ∧
       Cf base K w (((((w7.setCell ⟨G,s.cs.length*4,none⟩ (.int .u8 (x.k:Int))).setCell ⟨G,s.cs.length*4+1,none⟩ (.int .i64 x.n)).setCell ⟨G,s.cs.length*4+2,none⟩ (.string (strOf x.s))).setCell ⟨G,s.cs.length*4+3,none⟩ (.slice none 0 0)).setCell ⟨K.qc,6,none⟩ (.slice (some ⟨G,0,none⟩) (s.cs.length+1) cap)) ∧
       ∀ k o,w.heap[k]?=some o→k≠K.bc→V.c.ownBlock≠some k→k≠K.qc→(((((w7.setCell ⟨G,s.cs.length*4,none⟩ (.int .u8 (x.k:Int))).setCell ⟨G,s.cs.length*4+1,none⟩ (.int .i64 x.n)).setCell ⟨G,s.cs.length*4+2,none⟩ (.string (strOf x.s))).setCell ⟨G,s.cs.length*4+3,none⟩ (.slice none 0 0)).setCell ⟨K.qc,6,none⟩ (.slice (some ⟨G,0,none⟩) (s.cs.length+1) cap)).heap[k]?=some o):=Lib.hid (by
     obtain ⟨r1,k1⟩:=World.ownsRow.stored ho7 (s.cs.length*4) (.int .u8 (x.k:Int))
     obtain ⟨r2,k2⟩:=World.ownsRow.stored r1 (s.cs.length*4+1) (.int .i64 x.n)
     obtain ⟨r3,k3⟩:=World.ownsRow.stored r2 (s.cs.length*4+2) (.string (strOf x.s))
     obtain ⟨r4,k4⟩:=World.ownsRow.stored r3 (s.cs.length*4+3) (.slice none 0 0)
     rw [show s.cs.length*4=(cvs s.cs).length from hcl.symm,cvs_put,hcl] at r4
     have kk:Kp G w7 ((((w7.setCell ⟨G,s.cs.length*4,none⟩ (.int .u8 (x.k:Int))).setCell ⟨G,s.cs.length*4+1,none⟩ (.int .i64 x.n)).setCell ⟨G,s.cs.length*4+2,none⟩ (.string (strOf x.s))).setCell ⟨G,s.cs.length*4+3,none⟩ (.slice none 0 0)):=(((Kp.refl G w7).set rfl _).set rfl _).set rfl _ |>.set rfl _
     have hq4:=kk.heap HQ7.out hQG
     have hk5:=(Kp.refl K.qc ((((w7.setCell ⟨G,s.cs.length*4,none⟩ (.int .u8 (x.k:Int))).setCell ⟨G,s.cs.length*4+1,none⟩ (.int .i64 x.n)).setCell ⟨G,s.cs.length*4+2,none⟩ (.string (strOf x.s))).setCell ⟨G,s.cs.length*4+3,none⟩ (.slice none 0 0))).set (p:=⟨K.qc,6,none⟩) rfl (.slice (some ⟨G,0,none⟩) (s.cs.length+1) cap)
     have r5 : _ := World.ownsRow.kept r4 hk5 (.inr (ne_own r4 hq4 (fun c fr e=>by injection e with _ e3; exact absurd e3 (by decide))))
     have hC7:Cf base K w w7:=((HC2.out.alloc (by have:=HC2.out.b.size; omega) (.cells #[.int .u8 0,.int .i64 0,.string ⟨#[]⟩,.slice none 0 0] 116)).drew).row (HR2.out.alloc _).drew (Nat.le_refl _) (.inr (.inr rfl)) (by simp; have:=HC2.out.b.size; omega) hg7
     have hK9:∀ k o,W.heap[k]?=some o→k≠K.bc→V.c.ownBlock≠some k→k≠K.qc→(((((w7.setCell ⟨G,s.cs.length*4,none⟩ (.int .u8 (x.k:Int))).setCell ⟨G,s.cs.length*4+1,none⟩ (.int .i64 x.n)).setCell ⟨G,s.cs.length*4+2,none⟩ (.string (strOf x.s))).setCell ⟨G,s.cs.length*4+3,none⟩ (.slice none 0 0)).setCell ⟨K.qc,6,none⟩ (.slice (some ⟨G,0,none⟩) (s.cs.length+1) cap)).heap[k]?=some o:=fun k o hk h1 h2 h3=>by
       refine (Below.heap_setCell _ _ _ _ h3).trans ((kk.block k (lt_heap (hkk k o hk h1 h2 h3)) (fun e=>?_)).trans (hkk k o hk h1 h2 h3))
       have e:=Option.some.inj e
       rcases hor7 with e2 | e2
       · exact h2 (by rw [e]; exact e2.symm)
       · have e3:=Option.some.inj e2
         have e4:=lt_heap hk
         have e5:=HGW.out.size
         simp at e3
         omega
     refine ⟨⟨.slice (some ⟨G,0,none⟩) (s.cs.length+1) cap,hV.consts (v := .slice (some ⟨G,0,none⟩) (s.cs.length+1) cap) (cs:=s.cs ++ [x]) hK9 (by simpa [cmCells] using heap_set hq4 6 (.slice (some ⟨G,0,none⟩) (s.cs.length+1) cap)) ⟨_,?_,HD1.out,HD.out⟩ ?_ ?_⟩,(hC7.row ho7 (Nat.le_refl _) (.inr (.inr rfl)) (by have:=hC7.b.size; omega) kk).set (p:=⟨K.qc,6,none⟩) (.inl rfl) hb5 _,fun k o hk=>hK9 k o (HK0.out k o hk)⟩
     · rw [List.length_append]
       exact (hm7.kept kk (fun e=>hGB (Option.some.inj e))).kept hk5 (fun e=>hNB (Option.some.inj e))
     · rw [List.length_append]
       exact r5
     · intro y hy
       rcases List.mem_append.1 hy with hy | hy
       · exact hV.cm.cok y hy
       · rw [List.mem_singleton.1 hy]; exact HX.out)
   have HB7:=HA7
   rw [setCell_comm _ (show (⟨G,s.cs.length*4+3,none⟩:Addr).block≠(⟨K.qc,6,none⟩:Addr).block from hGQ),setCell_comm _ (show (⟨G,s.cs.length*4+2,none⟩:Addr).block≠(⟨K.qc,6,none⟩:Addr).block from hGQ),setCell_comm _ (show (⟨G,s.cs.length*4+1,none⟩:Addr).block≠(⟨K.qc,6,none⟩:Addr).block from hGQ),setCell_comm _ (show (⟨G,s.cs.length*4,none⟩:Addr).block≠(⟨K.qc,6,none⟩:Addr).block from hGQ)] at HB7
   clear hV hh1 hh2 hD1 hD2 hi hx hz3 hrd ho hk hA ho2 hg2 hg2w hm0 ho7 hkk hm7 hGB hor7 hVQ
   go_enter Tryz.func111,Tryz.ntmps111
   go_upto_region 1 with fail
   rw [hW.out]
   simp only [← hg]
   clear hg
   go_region
   go_upto_region 4 with fail
   go_region
   clear c0 c1 c2 c3 c4 c5 c6 c7 c8 f6 f8 hk1 hk2 u0 u1 u2 v0 v1 v2 v3 hlk hup
   go_upto_region 5 with fail
   go_region_law (first | (refine step_run rfl (.tmp 34) (.tmp 37) 28 rfl rfl rfl hap ?_) | (fail))
   all_goals go_wp2_with fail
   all_goals go_ret
   all_goals refine ⟨rfl,?_⟩
   all_goals first | (with_reducible exact HA7.out) | (with_reducible exact HB7.out)
end
end Go.Proofs.YtcmopnkldplngabGreatDoor
namespace Go.Proofs.YtcmopnkldplngabGreatDoor
open Go.RowKit
set_option linter.unusedVariables false
section
variable {base:Nat} {K:Bk} {E:Env} {nm:List Nat} {pr:Nat} {w:World} {s:Ws}
theorem own_lt {w:World} {B sz n k:Nat} {e:TypeId} {v:Value} {xs:List Value} (h:w.ownsRow B e sz v n xs) (hk:w.heap.size≤k):v.ownBlock≠some k:=fun e=>by
 have:=(World.ownsRow.lt h k e).2
 omega
set_option maxRecDepth 100000 in
set_option maxHeartbeats 4000000 in
theorem constant_any (h:WrS base K E nm pr w s) (c:Cst) (hc:CsOk c) (hl:s.code.length≤1000000) (hl2:s.cs.length≤1000000) :
   Calls Tryz.prog 65 #[at0 K.qw,thV c] w (OutW base K E nm pr w (s.cst c)):=by
 obtain ⟨V,hV0⟩:=h
 have hb0:=hV0.lt.2.2
 have hqw:=hV0.lt.2.1
 have hqc:=hV0.lt.1
 have hok:=hV0.cm.ok
 have HC0:=Lib.hid (((Cf.refl base K w).alloc hb0 (.cells #[.int .u8 (c.k:Int),.int .i64 c.n,.string (strOf c.s),.slice none 0 0] 116)).drew)
 have hV:=(hV0.alloc (.cells #[.int .u8 (c.k:Int),.int .i64 c.n,.string (strOf c.s),.slice none 0 0] 116)).drew
 have hQ:=heap_new w (.cells #[.int .u8 (c.k:Int),.int .i64 c.n,.string (strOf c.s),.slice none 0 0] 116)
 have HQ:Hid ((w.alloc (.cells #[.int .u8 (c.k:Int),.int .i64 c.n,.string (strOf c.s),.slice none 0 0] 116)).drew.heap[w.heap.size]?=some (.cells #[.int .u8 (c.k:Int),.int .i64 c.n,.string (strOf c.s),.slice none 0 0] 116 (0,0))):=Lib.hid hQ
 have HP:=Lib.hid (placeC_any hV c hc hl2)
 have h1:V.c.ownBlock≠some w.heap.size:=own_lt hV0.cm.rc (Nat.le_refl _)
 have h2:V.k.ownBlock≠some w.heap.size:=own_lt hV0.rk (Nat.le_refl _)
 have HWR:=Lib.hid (fun (w':World) (V':Vs) (h:WrAt base K E nm pr w' { s with cs:=plcL c s.cs } V')=>write_v h 1 (plcI c s.cs:Int) 0 hl)
 have n1:w.heap.size≠K.bc:=by have:=hok.t; have:=hok.q; omega
 have n2:w.heap.size≠K.qc:=by omega
 have n3:w.heap.size≠K.qw:=by omega
 obtain ⟨⟨a0,-⟩,-⟩:=bx6 hV0.h
 obtain ⟨b0,b1,b2,b3⟩:=bx4k hQ
 clear hV0 hV hQ hc
 unfold at0 at *
 unfold ckV at HP
 unfold thV at *
 go_enter Tryz.func65,Tryz.ntmps65
 go_wp2_with fail
 go_region_held3 (fun w'=>w'.cell? ⟨K.qw,0,none⟩=some (.pointer (some ⟨K.qc,0,none⟩))∧w'.cell? ⟨w.heap.size,0,none⟩=some (.int .u8 (c.k:Int))∧w'.cell? ⟨w.heap.size,1,none⟩=some (.int .i64 c.n)∧w'.cell? ⟨w.heap.size,2,none⟩=some (.string (strOf c.s))∧w'.cell? ⟨w.heap.size,3,none⟩=some (.slice none 0 0)) (go_keep)
   (first
     | (go_at_call 111
        refine HP.out.mono ?_
        rintro e w1 ⟨rfl,⟨v1,hv1⟩,hc1,hk1⟩
        have HV1:=Lib.hid hv1
        have HC1:=Lib.hid (HC0.out.trans hc1)
        have HQ1:=Lib.hid (hk1 _ _ HQ.out n1 h1 n2)
        obtain ⟨⟨d0,-⟩,-⟩:=bx6 hv1.h
        obtain ⟨e0,e1,e2,e3⟩:=bx4k HQ1.out
        clear hv1 hc1 hk1)
     | (go_at_call 66
        refine (HWR.out _ _ HV1.out).mono ?_
        rintro e w2 ⟨⟨rfl,⟨V2,hv2⟩,hc2⟩,hk2⟩
        have HV2:=Lib.hid hv2
        have HC2:=Lib.hid (HC1.out.trans hc2)
        have HQ2:=Lib.hid (hk2 _ _ HQ1.out n3 h2)
        obtain ⟨⟨i0,-⟩,-⟩:=bx6 hv2.h
        obtain ⟨j0,j1,j2,j3⟩:=bx4k HQ2.out
        clear hv2 hc2 hk2)
     | (fail))
 go_wp2_with fail
 go_end0
 exact ⟨rfl,⟨V2,HV2.out⟩,HC2.out⟩
theorem op_u:Tryz.prog.underlying 108=some (.map 9 43):=Tryz.underlying108
theorem zero_op (w:World):(zeroValue 43).run Tryz.prog w = .ok (.int .u8 0) w:=by kernel_rfl
theorem OpAt.look {w:World} {b:Nat} {f:List Nat→Nat} (h:OpAt w b f) (s:List Nat) (h8:NmOk s) (hf:∀ s,f s<256):(Instr.lookup 108 (.map (some b)) (.string (strOf s)) false).run Tryz.prog w = .ok (.int .u8 (f s:Int)) w∧(Instr.lookup 108 (.map (some b)) (.string (strOf s)) true).run Tryz.prog w = .ok (.tuple #[.int .u8 (f s:Int),.bool (decide (f s≠0))]) w:=by
 obtain ⟨D,n,h1,h2⟩:=h.own
 obtain ⟨h3,h4⟩:=h2 s h8.1
 have hk:=key_nk s h8.2
 constructor
 · obtain ⟨c,hc,h5,-⟩:=h1.lookup_int str_key op_u Tryz.underlying43 (zero_op w) hk
   rw [hc]
   have:c=(f s:Int):=by rw [h4] at h5; simpa using h5.symm
   rw [this]
 · obtain ⟨v,ps,hr,h5⟩:=h1.look_ok str_key op_u (zero_op w) (plainElem_int (H:=Unit) Tryz.underlying43 (show (Lit.int .u8 0).wf=true by decide)) hk
   obtain ⟨z,hz1,hz2,-⟩:=plainElem_int_inv Tryz.underlying43 h5
   rw [hr,h3,hz1]
   have h6:=congrArg Prod.fst hz2
   dsimp only at h6
   rw [h4] at h6
   have:z=(f s:Int):=by simpa using h6.symm
   rw [this]
theorem IxAt.look {w:World} {b:Nat} {l:Tss} (h:IxAt w b l) (s:List Nat) (h8:NmOk s):(Instr.lookup 107 (.map (some b)) (.string (strOf s)) false).run Tryz.prog w = .ok (.int .i64 (locL s l:Int)) w:=by
 obtain ⟨D,n,h1,-,-,h2⟩:=h.own
 have hk:=key_nk s h8.2
 obtain ⟨c,hc,h5,-⟩:=h1.lookup_int str_key Tryz.underlying107 Tryz.underlying3 (zero_int w) hk
 rw [hc]
 have:c=(locL s l:Int):=by rw [h2 s h8.1] at h5; simpa using h5.symm
 rw [this]
theorem opOne_lt (s:List Nat):opOne s<256:=by
 unfold opOne
 repeat' split
 all_goals omega
theorem opTwo_lt (s:List Nat):opTwo s<256:=by
 unfold opTwo
 repeat' split
 all_goals omega
theorem opSkip_lt (s:List Nat):opSkip s<256:=by
 unfold opSkip
 repeat' split
 all_goals omega
set_option maxRecDepth 100000 in
set_option maxHeartbeats 4000000 in
theorem opOf_any (h:WrS base K E nm pr w s) (k:Int) (x:List Nat) (hx:NmOk x) (n:Int) (A:Option Addr) (m c:Nat) :
   Calls Tryz.prog 249 #[at0 K.qw,.agg #[.int .u8 k,.string (strOf x),.int .i64 n,.slice A m c]] w fun e w'=>e = .returned (.int .u8 ((if m=1 then opOne x else opTwo x:Nat):Int))∧Below w.heap.size w w':=by
 obtain ⟨V,hV0⟩:=h
 have hqw:=hV0.lt.2.1
 have hqc:=hV0.lt.1
 have hV:=(hV0.alloc (.cells #[.int .u8 k,.string (strOf x),.int .i64 n,.slice A m c] 276)).drew
 have hQ:=heap_new w (.cells #[.int .u8 k,.string (strOf x),.int .i64 n,.slice A m c] 276)
 have HB:=Lib.hid (((Below.refl w.heap.size w).alloc (Nat.le_refl _) (.cells #[.int .u8 k,.string (strOf x),.int .i64 n,.slice A m c] 276)).drew)
 obtain ⟨⟨a0,-⟩,-⟩:=bx6 hV0.h
 obtain ⟨⟨c0,c1,c2,c3,c4,c5,c6,c7,c8⟩,-⟩:=bx9 hV0.cm.h
 obtain ⟨b0,b1,b2,b3⟩:=bx4k hQ
 have hl1:=(hV.cm.o1.look x hx opOne_lt).1
 have hl2:=(hV.cm.o2.look x hx opTwo_lt).1
 clear hV0 hV hQ hx
 unfold at0 at *
 generalize strOf x=X at *
 by_cases hm:m=1
 · subst hm
   rw [if_pos rfl]
   go_enter Tryz.func249,Tryz.ntmps249
   go_upto_region 2 with fail
   go_region
   go_wp2_with fail
   go_ret
   exact ⟨rfl,HB.out⟩
 · rw [if_neg hm]
   have t1:((m:Int) == 1)=false:=beq_eq_false_iff_ne.2 (by omega)
   go_enter Tryz.func249,Tryz.ntmps249
   go_upto_region 3 with fail
   go_region
   go_wp2_with fail
   go_ret
   exact ⟨rfl,HB.out⟩
end
end Go.Proofs.YtcmopnkldplngabGreatDoor
