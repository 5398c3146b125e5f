/- Texts Tb,Tc,Td,Te of this seat in one: see each part. -/
import Derived.Deep.MidRow
import Derived.Deep.RegionHeld3
import Derived.Deep.DeepCutAuto
import Derived.Defers
import Derived.Test.YtcmopnkldplngabGreatDoorTa
import Derived.Test.YtcmopnkldplngabGreatDoorKpc
import Derived.Test.YtcmopnkldplngabGreatDoorOwn2
namespace Go.Proofs.YtcmopnkldplngabGreatDoor
open Go.RowKit
set_option linter.unusedVariables false
inductive Nd
 | num (k:IntKind) (n:Int)
 | str (s:List Nat)
 | row (sz:Nat) (l:List Nd)
 | st (l:List Nd)
mutual
def Rd (w:World) (S:Nat→Prop):Nd→Value→Prop
 | .num k n,v=>v = .int k n
 | .str s,v=>v = .string (strOf s)∧(∀ y∈s,y<256)∧s.length≤140737488355328
 | .row sz l,v=>∃ A c,v = .slice A l.length c∧l.length≤c∧c≤maxLen∧Rds w S A sz 0 l
 | .st cs,v=>∃ vs,v = .agg vs∧Rcs w S cs vs.toList
def Rcs (w:World) (S:Nat→Prop):List Nd→List Value→Prop
 | [],vs=>vs=[]
 | c :: r,vs=>∃ v vr,vs=v :: vr∧Rd w S c v∧Rcs w S r vr
def Rds (w:World) (S:Nat→Prop) (A:Option Addr) (sz:Nat):Nat→List Nd→Prop
 | _,[]=>True
 | i,x :: r=>(∃ b o vs,A=some ⟨b,o,none⟩∧S b∧vs.length=sz∧w.rangeAt b (o+i*sz) vs∧Rd w S x (.agg vs.toArray))∧Rds w S A sz (i+1) r
end
section
variable {w w':World} {S S':Nat→Prop}
theorem rangeAt_keep {b o:Nat} {vs:List Value} (h:w.rangeAt b o vs) (hk:∀ p:Addr,p.block=b→w'.cell? p=w.cell? p):w'.rangeAt b o vs:=fun j u hu=>(hk _ rfl).trans (h j u hu)
mutual
theorem Rd.keep (hk:∀ p:Addr,S p.block→w'.cell? p=w.cell? p) (hS:∀ b,S b→S' b):∀ (x:Nd) (v:Value),Rd w S x v→Rd w' S' x v
 | .num k n,v,h=>by
   rw [Rd] at h ⊢
   exact h
 | .str s,v,h=>by
   rw [Rd] at h ⊢
   exact h
 | .row sz l,v,h=>by
   rw [Rd] at h ⊢
   obtain ⟨A,c,h1,h2,h3,h4⟩:=h
   exact ⟨A,c,h1,h2,h3,Rds.keep hk hS A sz 0 l h4⟩
 | .st cs,v,h=>by
   rw [Rd] at h ⊢
   obtain ⟨vs,h1,h2⟩:=h
   exact ⟨vs,h1,Rcs.keep hk hS cs _ h2⟩
theorem Rcs.keep (hk:∀ p:Addr,S p.block→w'.cell? p=w.cell? p) (hS:∀ b,S b→S' b):∀ (cs:List Nd) (vs:List Value),Rcs w S cs vs→Rcs w' S' cs vs
 | [],vs,h=>by
   rw [Rcs] at h ⊢
   exact h
 | c :: r,vs,h=>by
   rw [Rcs] at h ⊢
   obtain ⟨v,vr,h1,h2,h3⟩:=h
   exact ⟨v,vr,h1,Rd.keep hk hS c v h2,Rcs.keep hk hS r vr h3⟩
theorem Rds.keep (hk:∀ p:Addr,S p.block→w'.cell? p=w.cell? p) (hS:∀ b,S b→S' b) (A:Option Addr) (sz:Nat):∀ (i:Nat) (l:List Nd),Rds w S A sz i l→Rds w' S' A sz i l
 | _,[],h=>by
   rw [Rds]
   trivial
 | i,x :: r,h=>by
   rw [Rds] at h ⊢
   obtain ⟨⟨b,o,vs,h1,h2,h3,h4,h5⟩,h6⟩:=h
   exact ⟨⟨b,o,vs,h1,hS b h2,h3,rangeAt_keep h4 (fun p hp=>hk p (hp ▸ h2)),Rd.keep hk hS x _ h5⟩,Rds.keep hk hS A sz (i+1) r h6⟩
end
theorem Rds.at {A:Option Addr} {sz:Nat}:∀ {i:Nat} {l:List Nd},Rds w S A sz i l→∀ (j:Nat) (x:Nd),l[j]?=some x→∃ b o vs,A=some ⟨b,o,none⟩∧S b∧vs.length=sz∧w.rangeAt b (o+(i+j)*sz) vs∧Rd w S x (.agg vs.toArray)
 | i,[],h,j,x,hx=>by simp at hx
 | i,y :: r,h,0,x,hx=>by
   rw [Rds] at h
   simp at hx
   subst hx
   exact h.1
 | i,y :: r,h,j+1,x,hx=>by
   rw [Rds] at h
   have:=Rds.at h.2 j x (by simpa using hx)
   rw [show i+1+j=i+(j+1) by omega] at this
   exact this
theorem Rds.of {A:Option Addr} {sz:Nat}:∀ {i:Nat} {l:List Nd},(∀ (j:Nat) (x:Nd),l[j]?=some x→∃ b o vs,A=some ⟨b,o,none⟩∧S b∧vs.length=sz∧w.rangeAt b (o+(i+j)*sz) vs∧Rd w S x (.agg vs.toArray))→Rds w S A sz i l
 | i,[],h=>by
   rw [Rds]
   trivial
 | i,y :: r,h=>by
   rw [Rds]
   refine ⟨h 0 y rfl,Rds.of fun j x hx=>?_⟩
   have:=h (j+1) x (by simpa using hx)
   rw [show i+(j+1)=i+1+j by omega] at this
   exact this
theorem Rd.nil (sz:Nat):Rd w S (.row sz []) (.slice none 0 0):=by
 rw [Rd]
 refine ⟨none,0,rfl,Nat.le_refl _,by unfold maxLen; omega,?_⟩
 rw [Rds]
 trivial
end
def Nw (w w':World) (b:Nat):Prop:=w.heap.size≤b∧b<w'.heap.size
theorem Kp.cellq {q:Nat} {w w':World} (h:Kp q w w') {p:Addr} (hp:p.block<w.heap.size) (hq:p.block≠q):w'.cell? p=w.cell? p:=by
 have:=h.block p.block hp (fun e=>hq (Option.some.inj e))
 unfold World.cell?
 rw [this]
theorem Rd.more {q:Nat} {a w w':World} {x:Nd} {v:Value} (h:Rd w (Nw a w) x v) (hk:Kp q w w') (hq:q<a.heap.size):Rd w' (Nw a w') x v :=
 Rd.keep (fun p hp=>hk.cellq hp.2 (by have:=hp.1; omega)) (fun b hb=>⟨hb.1,Nat.lt_of_lt_of_le hb.2 hk.size⟩) x v h
theorem Rd.early {a b w:World} {x:Nd} {v:Value} (h:Rd w (Nw b w) x v) (hs:a.heap.size≤b.heap.size):Rd w (Nw a w) x v :=
 Rd.keep (fun _ _ => rfl) (fun k hk=>⟨Nat.le_trans hs hk.1,hk.2⟩) x v h
def Flat (w:World) (S:Nat→Prop) (sz:Nat) (xs:List Value) (l:List Nd):Prop:=xs.length=l.length*sz∧∀ i x,l[i]?=some x→Rd w S x (.agg ((xs.drop (i*sz)).take sz).toArray)
section
variable {w w':World} {S S':Nat→Prop} {sz:Nat} {xs:List Value} {l:List Nd}
theorem Flat.nil (w:World) (S:Nat→Prop) (sz:Nat):Flat w S sz [] []:=⟨by simp,by simp⟩
theorem Flat.keep (h:Flat w S sz xs l) (hk:∀ p:Addr,S p.block→w'.cell? p=w.cell? p) (hS:∀ b,S b→S' b):Flat w' S' sz xs l:=⟨h.1,fun i x hx=>Rd.keep hk hS _ _ (h.2 i x hx)⟩
theorem Flat.snoc (h:Flat w S sz xs l) {vs:List Value} {x:Nd} (hv:vs.length=sz) (hx:Rd w S x (.agg vs.toArray)):Flat w S sz (xs ++ vs) (l ++ [x]):=by
 have hl:=h.1
 refine ⟨by rw [List.length_append,List.length_append,hl,hv,Nat.add_mul]; simp,fun i y hy=>?_⟩
 by_cases hi:i<l.length
 · rw [List.getElem?_append_left hi] at hy
   have h1:(i+1)*sz≤l.length*sz:=Nat.mul_le_mul_right _ hi
   rw [Nat.add_mul,Nat.one_mul] at h1
   rw [List.drop_append_of_le_length (by omega),List.take_append_of_le_length (by rw [List.length_drop]; omega)]
   exact h.2 i y hy
 · obtain rfl:i=l.length:=by
     have:=(List.getElem?_eq_some_iff.1 hy).1
     simp at this
     omega
   simp at hy
   subst hy
   rw [← hl,List.drop_left,List.take_of_length_le (by omega)]
   exact hx
theorem Flat.row (h:Flat w S sz xs l) {base:Nat} {e:TypeId} {v:Value} (ho:w.ownsRow base e sz v l.length xs) (hS:∀ b,base≤b→b<w.heap.size→S b):Rd w S (.row sz l) v:=by
 rw [Rd]
 rcases ho.2 with ⟨h1,h2⟩ | ⟨g,cap,cur,h1,h2,h3,h4,h5, _⟩
 · have:l=[]:=List.eq_nil_of_length_eq_zero h2
   subst this
   refine ⟨none,0,h1,Nat.le_refl _,by unfold maxLen; omega,?_⟩
   rw [Rds]
   trivial
 · refine ⟨_,cap,h1,h4,h5,Rds.of fun j x hx=>⟨g,0,(xs.drop (j*sz)).take sz,rfl,hS g h2 (lt_heap h3),?_,fun k u hu=>?_,h.2 j x hx⟩⟩
   · have hj:=(List.getElem?_eq_some_iff.1 hx).1
     have h6:(j+1)*sz≤l.length*sz:=Nat.mul_le_mul_right _ hj
     rw [Nat.add_mul,Nat.one_mul] at h6
     have:=h.1
     rw [List.length_take,List.length_drop]
     omega
   · have hk:=(List.getElem?_eq_some_iff.1 hu).1
     rw [List.length_take] at hk
     rw [List.getElem?_take_of_lt (by omega),List.getElem?_drop] at hu
     subst h1
     have:=World.ownsRow.cells ho rfl (j*sz+k) u hu
     rw [Addr.add_lit] at this
     rw [Nat.zero_add] at this ⊢
     rwa [Nat.zero_add]
end
mutual
def Ex.nd:Ex→Nd
 | .mk k s n l => .st [.num .u8 (k:Int),.str s,.num .i64 n,.row 4 (Ex.nds l)]
def Ex.nds:List Ex→List Nd
 | []=>[]
 | x :: r=>Ex.nd x :: Ex.nds r
end
mutual
def Sm.nd:Sm→Nd
 | .mk k s x b c ln => .st [.num .u8 (k:Int),.str s,.row 4 (Ex.nds x),.row 6 (Sm.nds b),.row 6 (Sm.nds c),.num .i64 ln]
def Sm.nds:List Sm→List Nd
 | []=>[]
 | x :: r=>Sm.nd x :: Sm.nds r
end
theorem Ex.nds_eq (l:List Ex):Ex.nds l=l.map Ex.nd:=by
 induction l with
 | nil=>rw [Ex.nds]; rfl
 | cons x r ih=>rw [Ex.nds,ih]; rfl
theorem Sm.nds_eq (l:List Sm):Sm.nds l=l.map Sm.nd:=by
 induction l with
 | nil=>rw [Sm.nds]; rfl
 | cons x r ih=>rw [Sm.nds,ih]; rfl
def nmNd (s:List Nat):Nd := .st [.str s]
def Bd.nd (b:Bd):Nd := .st [.str b.name,.row 1 (b.ps.map nmNd),.row 6 (b.st.map Sm.nd),.num .i64 b.ln]
def Rl.nd (b:Rl):Nd := .st [.str b.name,.row 1 (b.ps.map nmNd),.row 4 (b.on.map Bd.nd),.num .i64 b.ln]
def Pg.nd (g:Pg):Nd := .st [.row 4 (g.fns.map Bd.nd),.row 4 (g.roles.map Rl.nd)]
section
variable {w:World} {S:Nat→Prop}
theorem Ex.rd (k:Nat) (s:List Nat) (n:Int) (l:List Ex) (v:Value):Rd w S (Ex.nd (.mk k s n l)) v ↔ ∃ y,v = .agg #[.int .u8 (k:Int),.string (strOf s),.int .i64 n,y]∧(∀ y∈s,y<256)∧s.length≤140737488355328∧Rd w S (.row 4 (l.map Ex.nd)) y:=by
 rw [Ex.nd,Ex.nds_eq]
 constructor
 · intro h
   rw [Rd] at h
   obtain ⟨vs,rfl,h⟩:=h
   simp only [Rcs] at h
   obtain ⟨v0,r0,e0,h0,v1,r1,e1,h1,v2,r2,e2,h2,v3,r3,e3,h3,e4⟩:=h
   simp only [Rd] at h0 h1 h2
   obtain ⟨h1,h8,hn⟩:=h1
   subst h0 h1 h2 e1 e2 e3 e4
   obtain ⟨a⟩:=vs
   simp at e0
   subst e0
   exact ⟨v3,rfl,h8,hn,h3⟩
 · rintro ⟨y,rfl,h8,hn,h⟩
   rw [Rd]
   refine ⟨_,rfl,?_⟩
   simp only [Rcs]
   refine ⟨_, _,rfl,?_, _, _,rfl,?_, _, _,rfl,?_, _, _,rfl,h,rfl⟩
   · rw [Rd]
   · rw [Rd]
     exact ⟨rfl,h8,hn⟩
   · rw [Rd]
theorem Sm.rd (k:Nat) (s:List Nat) (x:List Ex) (b c:List Sm) (ln:Int) (v:Value):Rd w S (Sm.nd (.mk k s x b c ln)) v ↔ ∃ y z u,v = .agg #[.int .u8 (k:Int),.string (strOf s),y,z,u,.int .i64 ln]∧(∀ y∈s,y<256)∧s.length≤140737488355328∧Rd w S (.row 4 (x.map Ex.nd)) y∧Rd w S (.row 6 (b.map Sm.nd)) z∧Rd w S (.row 6 (c.map Sm.nd)) u:=by
 rw [Sm.nd,Ex.nds_eq,Sm.nds_eq,Sm.nds_eq]
 constructor
 · intro h
   rw [Rd] at h
   obtain ⟨vs,rfl,h⟩:=h
   simp only [Rcs] at h
   obtain ⟨v0,r0,e0,h0,v1,r1,e1,h1,v2,r2,e2,h2,v3,r3,e3,h3,v4,r4,e4,h4,v5,r5,e5,h5,e6⟩:=h
   simp only [Rd] at h0 h1 h5
   obtain ⟨h1,h8,hn⟩:=h1
   subst h0 h1 h5 e1 e2 e3 e4 e5 e6
   obtain ⟨a⟩:=vs
   simp at e0
   subst e0
   exact ⟨v2,v3,v4,rfl,h8,hn,h2,h3,h4⟩
 · rintro ⟨y,z,u,rfl,h8,hn,h1,h2,h3⟩
   rw [Rd]
   refine ⟨_,rfl,?_⟩
   simp only [Rcs]
   refine ⟨_, _,rfl,?_, _, _,rfl,?_, _, _,rfl,h1, _, _,rfl,h2, _, _,rfl,h3, _, _,rfl,?_,rfl⟩
   · rw [Rd]
   · rw [Rd]
     exact ⟨rfl,h8,hn⟩
   · rw [Rd]
theorem nm_rd (s:List Nat) (v:Value):Rd w S (nmNd s) v ↔ v = .agg #[.string (strOf s)]∧(∀ y∈s,y<256)∧s.length≤140737488355328:=by
 unfold nmNd
 constructor
 · intro h
   rw [Rd] at h
   obtain ⟨vs,rfl,h⟩:=h
   simp only [Rcs] at h
   obtain ⟨v0,r0,e0,h0,e1⟩:=h
   rw [Rd] at h0
   obtain ⟨h1,h8,hn⟩:=h0
   subst h1 e1
   obtain ⟨a⟩:=vs
   simp at e0
   subst e0
   exact ⟨rfl,h8,hn⟩
 · rintro ⟨rfl,h8,hn⟩
   rw [Rd]
   refine ⟨_,rfl,?_⟩
   simp only [Rcs]
   refine ⟨_, _,rfl,?_,rfl⟩
   rw [Rd]
   exact ⟨rfl,h8,hn⟩
theorem hd_rd (s:List Nat) (ps:List (List Nat)) (sz:Nat) (l:List Nd) (ln:Int) (v:Value):Rd w S (.st [.str s,.row 1 (ps.map nmNd),.row sz l,.num .i64 ln]) v ↔ ∃ y z,v = .agg #[.string (strOf s),y,z,.int .i64 ln]∧(∀ y∈s,y<256)∧s.length≤140737488355328∧Rd w S (.row 1 (ps.map nmNd)) y∧Rd w S (.row sz l) z:=by
 constructor
 · intro h
   rw [Rd] at h
   obtain ⟨vs,rfl,h⟩:=h
   simp only [Rcs] at h
   obtain ⟨v0,r0,e0,h0,v1,r1,e1,h1,v2,r2,e2,h2,v3,r3,e3,h3,e4⟩:=h
   simp only [Rd] at h0 h3
   obtain ⟨h0,h8,hn⟩:=h0
   subst h0 h3 e1 e2 e3 e4
   obtain ⟨a⟩:=vs
   simp at e0
   subst e0
   exact ⟨v1,v2,rfl,h8,hn,h1,h2⟩
 · rintro ⟨y,z,rfl,h8,hn,h1,h2⟩
   rw [Rd]
   refine ⟨_,rfl,?_⟩
   simp only [Rcs]
   refine ⟨_, _,rfl,?_, _, _,rfl,h1, _, _,rfl,h2, _, _,rfl,?_,rfl⟩
   · rw [Rd]
     exact ⟨rfl,h8,hn⟩
   · rw [Rd]
theorem Pg.rd (g:Pg) (v:Value):Rd w S g.nd v ↔ ∃ y z,v = .agg #[y,z]∧Rd w S (.row 4 (g.fns.map Bd.nd)) y∧Rd w S (.row 4 (g.roles.map Rl.nd)) z:=by
 unfold Pg.nd
 constructor
 · intro h
   rw [Rd] at h
   obtain ⟨vs,rfl,h⟩:=h
   simp only [Rcs] at h
   obtain ⟨v0,r0,e0,h0,v1,r1,e1,h1,e2⟩:=h
   subst e1 e2
   obtain ⟨a⟩:=vs
   simp at e0
   subst e0
   exact ⟨v0,v1,rfl,h0,h1⟩
 · rintro ⟨y,z,rfl,h1,h2⟩
   rw [Rd]
   refine ⟨_,rfl,?_⟩
   simp only [Rcs]
   exact ⟨_, _,rfl,h1, _, _,rfl,h2,rfl⟩
end
end Go.Proofs.YtcmopnkldplngabGreatDoor
namespace Go.Proofs.YtcmopnkldplngabGreatDoor
open Go.RowKit
set_option linter.unusedVariables false
def Tx (w:World) (A:Option Addr) (l:List (List Nat)):Prop:=∀ i s,l[i]?=some s→∃ b o,A=some ⟨b,o,none⟩∧w.cell? ⟨b,o+i,none⟩=some (.string (strOf s))
theorem Tx.made (w:World) (arr:Array Value) (t:TypeId) (l:List (List Nat)) (h:arr.toList=l.map fun s => .string (strOf s)):Tx (w.alloc (.cells arr t)) (some ⟨w.heap.size,0,none⟩) l:=fun i s hs=>by
 refine ⟨w.heap.size,0,rfl,?_⟩
 have h1:=heap_alloc_new w (.cells arr t)
 have h2:arr[i]?=some (.string (strOf s)):=by
   have:arr.toList[i]?=some (.string (strOf s)):=by rw [h,List.getElem?_map,hs]; rfl
   simpa using this
 rw [cell_block h1,Nat.zero_add]
 exact h2
theorem Tx.cells {w:World} {g:Nat} {l:List (List Nat)} {t:TypeId} (h:w.heap[g]?=some (.cells (l.map fun s=>Value.string (strOf s)).toArray t (0,0))):Tx w (some ⟨g,0,none⟩) l:=fun i s hs=>by
 refine ⟨g,0,rfl,?_⟩
 rw [cell_block h,Nat.zero_add]
 simp [hs]
set_option maxRecDepth 100000 in
set_option maxHeartbeats 800000 in
theorem index_any (l:List (List Nat)) (s:List Nat) (A:Option Addr) (c:Nat) (w:World) (ht:Tx w A l) (h8:∀ t∈l,∀ x∈t,x<256) (hs:∀ x∈s,x<256) (hl:l.length≤1000) :
   Calls Tryz.prog 217 #[.slice A l.length c,.string (strOf s)] w fun e w'=>∃ z:Int,e = .returned (.int .i64 z)∧decide (0≤z)=decide (s∈l)∧w'=w:=by
 go_enter Tryz.func217,Tryz.ntmps217
 go_wp2_with fail
 go_loopw [8,5] (fun i x wr=>∃ j:Nat,j≤l.length∧i = .int .i64 (j:Int)∧wr=w∧s ∉ l.take j) (fun i _ _ => l.length-(intOf i).toNat)
 case atStart=>exact ⟨0,Nat.zero_le _,rfl,rfl,by simp⟩
 case round =>
   obtain ⟨j,hj,rfl,rfl,hm⟩:=hrel
   by_cases hlt:j<l.length
   · obtain ⟨t,hlt2⟩:∃ t,l[j]?=some t:=⟨l[j],List.getElem?_eq_getElem hlt⟩
     obtain ⟨b,o,rfl,hc⟩:=ht j t hlt2
     have HM:Hid (s ∉ l.take j):=Lib.hid hm
     have HS:=Lib.hid (List.take_add_one (l:=l) (i:=j))
     have ht8:∀ x∈t,x<256:=h8 t (List.mem_of_getElem? hlt2)
     have he:((strOf s).toList == (strOf t).toList)=decide (s=t):=strOf_eq s t hs ht8
     by_cases hst:s=t
     · have he2:((strOf s).toList == (strOf t).toList)=true:=by rw [he]; exact decide_eq_true hst
       have HI:Hid (s∈l):=Lib.hid (by rw [hst]; exact List.mem_of_getElem? hlt2)
       clear he hst hm
       go_wp2_with fail
       go_ret
       exact ⟨(j:Int),rfl,by rw [decide_eq_true HI.out]; exact decide_eq_true (by omega),rfl⟩
     · have he2:((strOf s).toList == (strOf t).toList)=false:=by rw [he]; exact decide_eq_false hst
       have HN:Hid (s ∉ l.take (j+1)):=Lib.hid (by
         rw [HS.out,hlt2]
         simp only [List.mem_append,not_or]
         exact ⟨HM.out,by simpa using hst⟩)
       clear he hst hm
       go_wp2_with fail
       go_roundw
       case rel=>exact ⟨j+1,by omega,by go_num,by first | rfl | trivial,HN.out⟩
       case measure=>simp [intOf]; omega
   · have hj':j=l.length:=by omega
     have HN:Hid (s ∉ l):=Lib.hid (by rw [hj',List.take_length] at hm; exact hm)
     clear hm
     go_wp2_with fail
     go_ret
     exact ⟨-1,rfl,by rw [decide_eq_false HN.out]; rfl,rfl⟩
set_option maxHeartbeats 800000 in
theorem contains_any (l:List (List Nat)) (s:List Nat) (A:Option Addr) (c:Nat) (w:World) (ht:Tx w A l) (h8:∀ t∈l,∀ x∈t,x<256) (hs:∀ x∈s,x<256) (hl:l.length≤1000) :
   Calls Tryz.prog 208 #[.slice A l.length c,.string (strOf s)] w fun e w'=>e = .returned (.bool (decide (s∈l)))∧w'=w:=by
 obtain ⟨b,hb⟩:∃ b,Hid (decide (s∈l)=b):=⟨_,Lib.hid rfl⟩
 rw [hb.out]
 go_enter Tryz.func208,Tryz.ntmps208
 go_wp2_with fail
 refine (index_any l s A c w ht h8 hs hl).mono ?_
 rintro e w' ⟨z,rfl,hz,rfl⟩
 rw [hb.out] at hz
 go_wp2_with fail
 go_ret
 exact ⟨by rw [← hz]; rfl,rfl⟩
/-! The parser in memory. -/
structure Lv where
 bp:Nat
 bb:Nat
 bm:Nat
 bs:Nat
 sa:Nat
structure Ru where
 mul:Lv
 add:Lv
 cmp:Lv
 and:Lv
 or:Lv
def at0 (b:Nat):Value := .pointer (some ⟨b,0,none⟩)
def lvF (l:Lv):Value := .func (.func 171) #[] #[at0 l.bb,at0 l.bm,at0 l.bp,at0 l.bs]
def unF (q:Nat):Value := .func (.func 140) #[at0 q] #[]
structure LvAt (w:World) (q:Nat) (l:Lv) (below:Value) (most:Int) (sg:List (List Nat)):Prop where
 p:w.heap[l.bp]?=some (.cells #[at0 q] 220 (0,0))
 b:w.heap[l.bb]?=some (.cells #[below] 227 (0,0))
 m:w.heap[l.bm]?=some (.cells #[.int .i64 most] 3 (0,0))
 s:w.heap[l.bs]?=some (.cells #[.slice (some ⟨l.sa,0,none⟩) sg.length sg.length] 29 (0,0))
 a:w.heap[l.sa]?=some (.cells (sg.map fun s=>Value.string (strOf s)).toArray 9 (0,0))
 np:l.bp≠q
 nb:l.bb≠q
 nm:l.bm≠q
 ns:l.bs≠q
 na:l.sa≠q
theorem LvAt.kp {w w':World} {q:Nat} {l:Lv} {below:Value} {most:Int} {sg:List (List Nat)} (h:LvAt w q l below most sg) (k:Kp q w w'):LvAt w' q l below most sg :=
 ⟨k.heap h.p h.np,k.heap h.b h.nb,k.heap h.m h.nm,k.heap h.s h.ns,k.heap h.a h.na,h.np,h.nb,h.nm,h.ns,h.na⟩
structure RuAt (w:World) (q:Nat) (R:Ru):Prop where
 mul:LvAt w q R.mul (unF q) 32768 sMul
 add:LvAt w q R.add (lvF R.mul) 32768 sAdd
 cmp:LvAt w q R.cmp (lvF R.add) 1 sCmp
 and:LvAt w q R.and (lvF R.cmp) 32768 sAnd
 or:LvAt w q R.or (lvF R.and) 32768 sOr
theorem RuAt.kp {w w':World} {q:Nat} {R:Ru} (h:RuAt w q R) (k:Kp q w w'):RuAt w' q R:=⟨h.mul.kp k,h.add.kp k,h.cmp.kp k,h.and.kp k,h.or.kp k⟩
def pcells (T:List Nat) (R:Ru) (p:Pst):Array Value:=#[.string (strOf T),.int .u8 (p.k:Int),.string (strOf p.s),.int .i64 (p.n:Int),.int .i64 (p.ln:Int),.int .i64 (p.a:Int),.int .i64 (p.e:Int),.int .i64 (p.er:Int),.int .i64 (p.fl:Int),.int .i64 (p.g:Int),lvF R.or]
def wordV (p:Pst):Value := .agg #[.int .u8 (p.k:Int),.string (strOf p.s),.int .i64 (p.n:Int),.int .i64 (p.ln:Int),.int .i64 (p.a:Int),.int .i64 (p.e:Int)]
def fltV (p:Pst):Value := .agg #[.int .i64 (p.er:Int),.int .i64 (p.fl:Int)]
def Sok (s:List Nat):Prop:=(∀ x∈s,x<256)∧s.length≤32768
structure TxtOk (w0:World) (T:List Nat):Prop where
 next:∀ (p:Pst) (w:World),Below w0.heap.size w0 w→Calls Tryz.prog 176 #[.string (strOf T),.int .i64 (p.e:Int)] w fun e w'=>e = .returned (.tuple #[wordV (p.step T),fltV (p.step T)])∧Below w.heap.size w w'
 ok:∀ p:Pst,Sok (p.step T).s
structure Cx (w0:World) (T:List Nat) (R:Ru) (q:Nat) (w:World) (p:Pst):Prop where
 hb:Below w0.heap.size w0 w
 hq:w0.heap.size≤q
 hp:w.heap[q]?=some (.cells (pcells T R p) 229 (0,0))
 hr:RuAt w q R
 ok:Sok p.s
theorem Cx.lt {w0:World} {T:List Nat} {R:Ru} {q:Nat} {w:World} {p:Pst} (h:Cx w0 T R q w p):q<w.heap.size:=lt_heap h.hp
theorem Cx.on {w0:World} {T:List Nat} {R:Ru} {q:Nat} {w w':World} {p p':Pst} (h:Cx w0 T R q w p) (k:Kp q w w') (hp:w'.heap[q]?=some (.cells (pcells T R p') 229 (0,0))) (ok:Sok p'.s):Cx w0 T R q w' p' :=
 ⟨h.hb.trans (k.below h.hq h.hb.size),h.hq,hp,h.hr.kp k,ok⟩
theorem Cx.below {w0:World} {T:List Nat} {R:Ru} {q:Nat} {w w':World} {p:Pst} (h:Cx w0 T R q w p) (k:Below w.heap.size w w'):Cx w0 T R q w' p :=
 h.on (Kp.of_below k) (heap_below h.hp k) h.ok
theorem Cx.alloc {w0:World} {T:List Nat} {R:Ru} {q:Nat} {w:World} {p:Pst} (h:Cx w0 T R q w p) (o:Obj):Cx w0 T R q (w.alloc o) p:=h.below ((Below.refl _ _).alloc (Nat.le_refl _) o)
theorem Cx.drew {w0:World} {T:List Nat} {R:Ru} {q:Nat} {w:World} {p:Pst} (h:Cx w0 T R q w p):Cx w0 T R q w.drew p:=h.on ((Kp.refl q w).drew) h.hp h.ok
end Go.Proofs.YtcmopnkldplngabGreatDoor
namespace Go.Proofs.YtcmopnkldplngabGreatDoor
open Go.RowKit
set_option linter.unusedVariables false
theorem box11 {X:World} {g:Nat} {T:List Nat} {R:Ru} {p:Pst} {E:TypeId} (h:X.heap[g]?=some (.cells (pcells T R p) E (0,0))) :
   (X.cell? ⟨g,0,none⟩=some (.string (strOf T))∧X.cell? ⟨g,1,none⟩=some (.int .u8 (p.k:Int))∧X.cell? ⟨g,2,none⟩=some (.string (strOf p.s))∧X.cell? ⟨g,3,none⟩=some (.int .i64 (p.n:Int))∧X.cell? ⟨g,4,none⟩=some (.int .i64 (p.ln:Int))∧X.cell? ⟨g,5,none⟩=some (.int .i64 (p.a:Int))∧X.cell? ⟨g,6,none⟩=some (.int .i64 (p.e:Int))∧X.cell? ⟨g,7,none⟩=some (.int .i64 (p.er:Int))∧X.cell? ⟨g,8,none⟩=some (.int .i64 (p.fl:Int))∧X.cell? ⟨g,9,none⟩=some (.int .i64 (p.g:Int))∧X.cell? ⟨g,10,none⟩=some (lvF R.or)) ∧
   (X.frozen? ⟨g,0,none⟩=false∧X.frozen? ⟨g,1,none⟩=false∧X.frozen? ⟨g,2,none⟩=false∧X.frozen? ⟨g,3,none⟩=false∧X.frozen? ⟨g,4,none⟩=false∧X.frozen? ⟨g,5,none⟩=false∧X.frozen? ⟨g,6,none⟩=false∧X.frozen? ⟨g,7,none⟩=false∧X.frozen? ⟨g,8,none⟩=false∧X.frozen? ⟨g,9,none⟩=false∧X.frozen? ⟨g,10,none⟩=false) :=
 ⟨⟨cell_block h 0,cell_block h 1,cell_block h 2,cell_block h 3,cell_block h 4,cell_block h 5,cell_block h 6,cell_block h 7,cell_block h 8,cell_block h 9,cell_block h 10⟩,
  ⟨free_block h 0,free_block h 1,free_block h 2,free_block h 3,free_block h 4,free_block h 5,free_block h 6,free_block h 7,free_block h 8,free_block h 9,free_block h 10⟩⟩
theorem bx6 {X:World} {g:Nat} {y0 y1 y2 y3 y4 y5:Value} {E:TypeId} (h:X.heap[g]?=some (.cells #[y0,y1,y2,y3,y4,y5] E (0,0))) :
   (X.cell? ⟨g,0,none⟩=some y0∧X.cell? ⟨g,1,none⟩=some y1∧X.cell? ⟨g,2,none⟩=some y2∧X.cell? ⟨g,3,none⟩=some y3∧X.cell? ⟨g,4,none⟩=some y4∧X.cell? ⟨g,5,none⟩=some y5)∧X.frozen? ⟨g,0,none⟩=false∧X.frozen? ⟨g,1,none⟩=false∧X.frozen? ⟨g,2,none⟩=false∧X.frozen? ⟨g,3,none⟩=false∧X.frozen? ⟨g,4,none⟩=false∧X.frozen? ⟨g,5,none⟩=false :=
 ⟨⟨cell_block h 0,cell_block h 1,cell_block h 2,cell_block h 3,cell_block h 4,cell_block h 5⟩,free_block h 0,free_block h 1,free_block h 2,free_block h 3,free_block h 4,free_block h 5⟩
theorem bx2 {X:World} {g:Nat} {y0 y1:Value} {E:TypeId} (h:X.heap[g]?=some (.cells #[y0,y1] E (0,0))) :
   (X.cell? ⟨g,0,none⟩=some y0∧X.cell? ⟨g,1,none⟩=some y1)∧X.frozen? ⟨g,0,none⟩=false∧X.frozen? ⟨g,1,none⟩=false :=
 ⟨⟨cell_block h 0,cell_block h 1⟩,free_block h 0,free_block h 1⟩
theorem st6 {X:World} {g:Nat} {E:TypeId} {y0 y1 y2 y3 y4 y5:Value} (q:X.heap[g]?=some (.cells #[y0,y1,y2,y3,y4,y5] E (0,0))) (z0 z1 z2 z3 z4 z5:Value):((((((X.setCell ⟨g,0,none⟩ z0).setCell ⟨g,1,none⟩ z1).setCell ⟨g,2,none⟩ z2).setCell ⟨g,3,none⟩ z3).setCell ⟨g,4,none⟩ z4).setCell ⟨g,5,none⟩ z5).heap[g]?=some (.cells #[z0,z1,z2,z3,z4,z5] E (0,0)):=by
 have:=heap_set (heap_set (heap_set (heap_set (heap_set (heap_set q 0 z0) 1 z1) 2 z2) 3 z3) 4 z4) 5 z5
 simpa using this
theorem st2 {X:World} {g:Nat} {E:TypeId} {y0 y1:Value} (q:X.heap[g]?=some (.cells #[y0,y1] E (0,0))) (z0 z1:Value):((X.setCell ⟨g,0,none⟩ z0).setCell ⟨g,1,none⟩ z1).heap[g]?=some (.cells #[z0,z1] E (0,0)):=by
 have:=heap_set (heap_set q 0 z0) 1 z1
 simpa using this
theorem ne2 {X:World} {g k:Nat} {o:Obj} (h:X.heap[k]?=some o) (hk:k≠g) (z0 z1:Value):((X.setCell ⟨g,0,none⟩ z0).setCell ⟨g,1,none⟩ z1).heap[k]?=some o:=heap_set_ne (heap_set_ne h hk 0 z0) hk 1 z1
theorem ne6 {X:World} {g k:Nat} {o:Obj} (h:X.heap[k]?=some o) (hk:k≠g) (z0 z1 z2 z3 z4 z5:Value):((((((X.setCell ⟨g,0,none⟩ z0).setCell ⟨g,1,none⟩ z1).setCell ⟨g,2,none⟩ z2).setCell ⟨g,3,none⟩ z3).setCell ⟨g,4,none⟩ z4).setCell ⟨g,5,none⟩ z5).heap[k]?=some o :=
 heap_set_ne (heap_set_ne (heap_set_ne (heap_set_ne (heap_set_ne (heap_set_ne h hk 0 z0) hk 1 z1) hk 2 z2) hk 3 z3) hk 4 z4) hk 5 z5
structure Mid (w0:World) (T:List Nat) (R:Ru) (q:Nat) (p:Pst) (w X:World):Prop where
 c:Cx w0 T R q X p
 k:Kp q w X
section
variable {w0 w X:World} {T:List Nat} {R:Ru} {q:Nat} {p:Pst}
theorem Mid.start (h:Cx w0 T R q w p):Mid w0 T R q p w w:=⟨h,Kp.refl _ _⟩
theorem Mid.alloc (h:Mid w0 T R q p w X) (o:Obj):Mid w0 T R q p w (X.alloc o):=⟨h.c.alloc o,h.k.alloc o⟩
theorem Mid.drew (h:Mid w0 T R q p w X):Mid w0 T R q p w X.drew:=⟨h.c.drew,h.k.drew⟩
theorem Mid.below {Y:World} (h:Mid w0 T R q p w X) (hb:Below X.heap.size X Y):Mid w0 T R q p w Y:=⟨h.c.below hb,h.k.trans (Kp.of_below hb)⟩
theorem Mid.setNew (h:Mid w0 T R q p w X) (hw:Cx w0 T R q w p) {g i:Nat} (hg:w.heap.size≤g) (v:Value):Mid w0 T R q p w (X.setCell ⟨g,i,none⟩ v):=by
 have hk:=h.k.setNew (p:=⟨g,i,none⟩) hg v
 have:=hw.lt
 exact ⟨hw.on hk (heap_set_ne h.c.hp (show q≠g by omega) i v) h.c.ok,hk⟩
theorem Mid.set2 (h:Mid w0 T R q p w X) (hw:Cx w0 T R q w p) {g:Nat} (hg:w.heap.size≤g) (z0 z1:Value):Mid w0 T R q p w ((X.setCell ⟨g,0,none⟩ z0).setCell ⟨g,1,none⟩ z1):=(h.setNew hw hg _).setNew hw hg _
theorem Mid.set6 (h:Mid w0 T R q p w X) (hw:Cx w0 T R q w p) {g:Nat} (hg:w.heap.size≤g) (z0 z1 z2 z3 z4 z5:Value):Mid w0 T R q p w ((((((X.setCell ⟨g,0,none⟩ z0).setCell ⟨g,1,none⟩ z1).setCell ⟨g,2,none⟩ z2).setCell ⟨g,3,none⟩ z3).setCell ⟨g,4,none⟩ z4).setCell ⟨g,5,none⟩ z5) :=
 (((((h.setNew hw hg _).setNew hw hg _).setNew hw hg _).setNew hw hg _).setNew hw hg _).setNew hw hg _
def StepW (w0:World) (T:List Nat) (R:Ru) (q:Nat) (p:Pst) (w:World) (P:Pst) (a b:Value) (wx:World):Prop :=
 ∃ g1 g2,a = .pointer (some ⟨g1,0,none⟩)∧b = .pointer (some ⟨g2,0,none⟩)∧g1≠q∧g2≠q∧wx.heap[g1]?=some (.cells #[.int .u8 (P.k:Int),.string (strOf P.s),.int .i64 (P.n:Int),.int .i64 (P.ln:Int),.int .i64 (P.a:Int),.int .i64 (P.e:Int)] 225 (0,0))∧wx.heap[g2]?=some (.cells #[.int .i64 (P.er:Int),.int .i64 (P.fl:Int)] 36 (0,0))∧Mid w0 T R q p w wx
section
variable {P:Pst} {k s n ln a e er fl:Value} {y0 y1 y2 y3 y4 y5 x0 x1:Value} {A B:Nat}
theorem sw1 (hw:Cx w0 T R q w p) (M:Mid w0 T R q p w X):StepW w0 T R q p w P (.pointer (some ⟨X.heap.size,0,none⟩)) (.pointer (some ⟨X.heap.size+1,0,none⟩)) ((X.alloc (.cells #[.int .u8 (P.k:Int),.string (strOf P.s),.int .i64 (P.n:Int),.int .i64 (P.ln:Int),.int .i64 (P.a:Int),.int .i64 (P.e:Int)] 225)).alloc (.cells #[.int .i64 (P.er:Int),.int .i64 (P.fl:Int)] 36)):=by
 have h1:=hw.lt
 have h2:=M.k.size
 exact ⟨_, _,rfl,rfl,by omega,by omega,heap_old (heap_new _ _) _,heap_new' _ _ _ (by simp),(M.alloc _).alloc _⟩
theorem sw2 (hw:Cx w0 T R q w p) (M:Mid w0 T R q p w X):StepW w0 T R q p w P (.pointer (some ⟨X.heap.size+1,0,none⟩)) (.pointer (some ⟨X.heap.size,0,none⟩)) ((X.alloc (.cells #[.int .i64 (P.er:Int),.int .i64 (P.fl:Int)] 36)).alloc (.cells #[.int .u8 (P.k:Int),.string (strOf P.s),.int .i64 (P.n:Int),.int .i64 (P.ln:Int),.int .i64 (P.a:Int),.int .i64 (P.e:Int)] 225)):=by
 have h1:=hw.lt
 have h2:=M.k.size
 exact ⟨_, _,rfl,rfl,by omega,by omega,heap_new' _ _ _ (by simp),heap_old (heap_new _ _) _,(M.alloc _).alloc _⟩
theorem sw3 (hw:Cx w0 T R q w p) (M:Mid w0 T R q p w X) (hA:w.heap.size≤A) (q1:X.heap[A]?=some (.cells #[y0,y1,y2,y3,y4,y5] 225 (0,0))):StepW w0 T R q p w P (.pointer (some ⟨A,0,none⟩)) (.pointer (some ⟨X.heap.size,0,none⟩)) (((((((X.setCell ⟨A,0,none⟩ (.int .u8 (P.k:Int))).setCell ⟨A,1,none⟩ (.string (strOf P.s))).setCell ⟨A,2,none⟩ (.int .i64 (P.n:Int))).setCell ⟨A,3,none⟩ (.int .i64 (P.ln:Int))).setCell ⟨A,4,none⟩ (.int .i64 (P.a:Int))).setCell ⟨A,5,none⟩ (.int .i64 (P.e:Int))).alloc (.cells #[.int .i64 (P.er:Int),.int .i64 (P.fl:Int)] 36)):=by
 have h1:=hw.lt
 have h2:=M.k.size
 exact ⟨_, _,rfl,rfl,by omega,by omega,heap_old (st6 q1 _ _ _ _ _ _) _,heap_new' _ _ _ (by simp),(M.set6 hw hA _ _ _ _ _ _).alloc _⟩
theorem sw4 (hw:Cx w0 T R q w p) (M:Mid w0 T R q p w X) (hA:w.heap.size≤A) (hB:w.heap.size≤B) (hAB:A≠B) (q1:X.heap[A]?=some (.cells #[y0,y1,y2,y3,y4,y5] 225 (0,0))) (q2:X.heap[B]?=some (.cells #[x0,x1] 36 (0,0))):StepW w0 T R q p w P (.pointer (some ⟨A,0,none⟩)) (.pointer (some ⟨B,0,none⟩)) ((((((((X.setCell ⟨A,0,none⟩ (.int .u8 (P.k:Int))).setCell ⟨A,1,none⟩ (.string (strOf P.s))).setCell ⟨A,2,none⟩ (.int .i64 (P.n:Int))).setCell ⟨A,3,none⟩ (.int .i64 (P.ln:Int))).setCell ⟨A,4,none⟩ (.int .i64 (P.a:Int))).setCell ⟨A,5,none⟩ (.int .i64 (P.e:Int))).setCell ⟨B,0,none⟩ (.int .i64 (P.er:Int))).setCell ⟨B,1,none⟩ (.int .i64 (P.fl:Int))):=by
 have h1:=hw.lt
 have h2:=M.k.size
 exact ⟨_, _,rfl,rfl,by omega,by omega,ne2 (st6 q1 _ _ _ _ _ _) hAB _ _,st2 (ne6 q2 (Ne.symm hAB) _ _ _ _ _ _) _ _,(M.set6 hw hA _ _ _ _ _ _).set2 hw hB _ _⟩
theorem sw5 (hw:Cx w0 T R q w p) (M:Mid w0 T R q p w X) (hB:w.heap.size≤B) (q2:X.heap[B]?=some (.cells #[x0,x1] 36 (0,0))):StepW w0 T R q p w P (.pointer (some ⟨X.heap.size,0,none⟩)) (.pointer (some ⟨B,0,none⟩)) (((X.setCell ⟨B,0,none⟩ (.int .i64 (P.er:Int))).setCell ⟨B,1,none⟩ (.int .i64 (P.fl:Int))).alloc (.cells #[.int .u8 (P.k:Int),.string (strOf P.s),.int .i64 (P.n:Int),.int .i64 (P.ln:Int),.int .i64 (P.a:Int),.int .i64 (P.e:Int)] 225)):=by
 have h1:=hw.lt
 have h2:=M.k.size
 exact ⟨_, _,rfl,rfl,by omega,by omega,heap_new' _ _ _ (by simp),heap_old (st2 q2 _ _) _,(M.set2 hw hB _ _).alloc _⟩
end
end
section
variable {w0 w:World} {T:List Nat} {R:Ru} {q:Nat} {p:Pst}
theorem setWF {k s n ln a e er fl:Value} {p':Pst} (h:w.heap[q]?=some (.cells (pcells T R p) 229 (0,0))) (hg:p'.g=p.g)
   (hk:k = .int .u8 (p'.k:Int)) (hs:s = .string (strOf p'.s)) (hn:n = .int .i64 (p'.n:Int)) (hln:ln = .int .i64 (p'.ln:Int)) (ha:a = .int .i64 (p'.a:Int)) (he:e = .int .i64 (p'.e:Int)) (her:er = .int .i64 (p'.er:Int)) (hfl:fl = .int .i64 (p'.fl:Int)) :
   ((((((((w.setCell ⟨q,1,none⟩ k).setCell ⟨q,2,none⟩ s).setCell ⟨q,3,none⟩ n).setCell ⟨q,4,none⟩ ln).setCell ⟨q,5,none⟩ a).setCell ⟨q,6,none⟩ e).setCell ⟨q,7,none⟩ er).setCell ⟨q,8,none⟩ fl).heap[q]?=some (.cells (pcells T R p') 229 (0,0)):=by
 subst hk hs hn hln ha he her hfl
 have:=heap_set (heap_set (heap_set (heap_set (heap_set (heap_set (heap_set (heap_set h 1 (.int .u8 (p'.k:Int))) 2 (.string (strOf p'.s))) 3 (.int .i64 (p'.n:Int))) 4 (.int .i64 (p'.ln:Int))) 5 (.int .i64 (p'.a:Int))) 6 (.int .i64 (p'.e:Int))) 7 (.int .i64 (p'.er:Int))) 8 (.int .i64 (p'.fl:Int))
 rw [this]
 unfold pcells
 rw [hg]
 simp
theorem Kp.setWF {a:World} {k s n ln a' e er fl:Value} (h:Kp q a w):Kp q a ((((((((w.setCell ⟨q,1,none⟩ k).setCell ⟨q,2,none⟩ s).setCell ⟨q,3,none⟩ n).setCell ⟨q,4,none⟩ ln).setCell ⟨q,5,none⟩ a').setCell ⟨q,6,none⟩ e).setCell ⟨q,7,none⟩ er).setCell ⟨q,8,none⟩ fl) :=
 (((((((h.set rfl _).set rfl _).set rfl _).set rfl _).set rfl _).set rfl _).set rfl _).set rfl _
set_option maxRecDepth 100000 in
set_option maxHeartbeats 1600000 in
theorem step_any (ht:TxtOk w0 T) (h:Cx w0 T R q w p):Calls Tryz.prog 141 #[at0 q] w fun e w'=>e = .returned (.tuple #[])∧Cx w0 T R q w' (p.step T)∧Kp q w w':=by
 have HN:=Lib.hid (ht.next p)
 have HOK:=Lib.hid (ht.ok p)
 obtain ⟨⟨c0,-,-,-,-,-,c6,-⟩,-⟩:=box11 h.hp
 have HC:=Lib.hid h
 have h0:=h
 have hq:=h.lt
 have HG:Hid ((p.step T).g=p.g):=Lib.hid (by unfold Pst.step; split <;> (try split) <;> (try split) <;> rfl)
 clear h ht
 obtain ⟨P,hP⟩:∃ P,Hid (p.step T=P):=⟨_,Lib.hid rfl⟩
 rw [hP.out] at HN HG HOK ⊢
 unfold wordV fltV at HN
 unfold at0
 go_enter Tryz.func141,Tryz.ntmps141
 go_wp2_with fail
 go_cut [2,3] (fun a b wx=>StepW w0 T R q p w P a b wx)
 have hqa:¬ q=w.heap.size:=by omega
 have hqb:¬ w.heap.size=q:=by omega
 have hqc:¬ q=w.heap.size+1:=by omega
 have hqd:¬ w.heap.size+1=q:=by omega
 case first =>
   go_region_held3 (fun w'=>w'.cell? ⟨q,0,none⟩=some (.string (strOf T))∧w'.cell? ⟨q,6,none⟩=some (.int .i64 (p.e:Int))) (go_keep)
     (first
       | (go_at_call 176
          refine (HN.out _ HC.out.drew.hb).mono ?_
          rintro e w1 ⟨rfl,hb⟩
          have hb':Below w.heap.size w w1:=of_drew hb
          have HC1:=Lib.hid (HC.out.below hb')
          obtain ⟨⟨d0,-,-,-,-,-,d6,-⟩,-⟩:=box11 HC1.out.hp
          clear hb)
       | (go_at_call 176
          refine (HN.out _ (HC.out.alloc _).drew.hb).mono ?_
          rintro e w1 ⟨rfl,hb⟩
          have hb':=of_drew hb
          have HC1:=Lib.hid ((HC.out.alloc _).below hb')
          obtain ⟨⟨d0,-,-,-,-,-,d6,-⟩,-⟩:=box11 HC1.out.hp
          have q1:=heap_below (heap_new w _) hb'
          have n1:=lt_heap q1
          have n2:¬ w.heap.size=w1.heap.size:=by omega
          have n3:¬ w1.heap.size=w.heap.size:=by omega
          first
            | obtain ⟨⟨y0,y1,y2,y3,y4,y5⟩,z0,z1,z2,z3,z4,z5⟩:=bx6 q1
            | obtain ⟨⟨y0,y1⟩,z0,z1⟩:=bx2 q1
          clear hb)
       | (go_at_call 176
          refine (HN.out _ ((HC.out.alloc _).alloc _).drew.hb).mono ?_
          rintro e w1 ⟨rfl,hb⟩
          have hb':=of_drew hb
          have HC1:=Lib.hid (((HC.out.alloc _).alloc _).below hb')
          obtain ⟨⟨d0,-,-,-,-,-,d6,-⟩,-⟩:=box11 HC1.out.hp
          have q1:=heap_below (heap_old (heap_new w _) _) hb'
          have q2:=heap_below (heap_new' _ _ (w.heap.size+1) (by simp)) hb'
          have n1:=lt_heap q1
          have n2:=lt_heap q2
          first
            | (obtain ⟨⟨y0,y1,y2,y3,y4,y5⟩,z0,z1,z2,z3,z4,z5⟩:=bx6 q1
               obtain ⟨⟨r0,r1⟩,s0,s1⟩:=bx2 q2)
            | (obtain ⟨⟨y0,y1,y2,y3,y4,y5⟩,z0,z1,z2,z3,z4,z5⟩:=bx6 q2
               obtain ⟨⟨r0,r1⟩,s0,s1⟩:=bx2 q1)
          clear hb)
       | (fail))
   all_goals
     go_wp2_with fail
     go_meet
     case rel =>
       have HM:Mid w0 T R q p w w1:=by
         first
           | exact (Mid.start HC.out).below hb'
           | exact ((Mid.start HC.out).alloc _).below hb'
           | exact (((Mid.start HC.out).alloc _).alloc _).below hb'
       first
         | with_reducible exact sw1 HC.out HM
         | with_reducible exact sw2 HC.out HM
         | with_reducible exact sw3 HC.out HM (Nat.le_refl _) q1
         | with_reducible exact sw5 HC.out HM (Nat.le_refl _) q1
         | with_reducible exact sw4 HC.out HM (by omega) (by omega) (by omega) q1 q2
         | with_reducible exact sw4 HC.out HM (by omega) (by omega) (by omega) q2 q1
 case rest =>
   clear c0 c6
   obtain ⟨g1,g2,rfl,rfl,n1,n2,Q1,Q2,M⟩:=hcut
   obtain ⟨⟨y0,y1,y2,y3,y4,y5⟩,-⟩:=bx6 Q1
   obtain ⟨⟨x0,x1⟩,-⟩:=bx2 Q2
   have HM:=Lib.hid M
   obtain ⟨⟨-,c1,c2,c3,c4,c5,c6,c7,c8,-⟩,-,f1,f2,f3,f4,f5,f6,f7,f8,-⟩:=box11 M.c.hp
   have hlt:=M.c.lt
   have m1:¬ q=g1:=fun e=>n1 e.symm
   have m2:¬ q=g2:=fun e=>n2 e.symm
   clear M Q1 Q2 HN HC
   go_wp2_with fail
   go_region
   go_end0
   have HK:=HM.out.k.setWF (k := .int .u8 (P.k:Int)) (s := .string (strOf P.s)) (n := .int .i64 (P.n:Int)) (ln := .int .i64 (P.ln:Int)) (a' := .int .i64 (P.a:Int)) (e := .int .i64 (P.e:Int)) (er := .int .i64 (P.er:Int)) (fl := .int .i64 (P.fl:Int))
   have HH:=setWF (p':=P) HM.out.c.hp HG.out rfl rfl rfl rfl rfl rfl rfl rfl
   exact ⟨rfl,(h0.on HK HH HOK.out).drew,HK.drew⟩
end
end Go.Proofs.YtcmopnkldplngabGreatDoor
namespace Go.Proofs.YtcmopnkldplngabGreatDoor
open Go.RowKit
set_option linter.unusedVariables false
section
variable {w0 w:World} {T:List Nat} {R:Ru} {q:Nat} {p:Pst}
theorem one_empty (s:List Nat):(strOf s).toList.isEmpty=decide (s=[]):=by
 rw [ByteArray.toList_eq]
 cases s <;> simp [strOf]
theorem Cx.setG {p':Pst} {g:Nat} (h:Cx w0 T R q w p) (hg:p'.k=p.k∧p'.s=p.s∧p'.n=p.n∧p'.ln=p.ln∧p'.a=p.a∧p'.e=p.e∧p'.er=p.er∧p'.fl=p.fl) (hG:p'.g=g):Cx w0 T R q (w.setCell ⟨q,9,none⟩ (.int .i64 (g:Int))) p':=by
 obtain ⟨e1,e2,e3,e4,e5,e6,e7,e8⟩:=hg
 have hh:=heap_set h.hp 9 (.int .i64 (g:Int))
 refine h.on ((Kp.refl q w).set rfl _) ?_ (by rw [e2]; exact h.ok)
 rw [hh]
 unfold pcells
 rw [e1,e2,e3,e4,e5,e6,e7,e8,hG]
 simp
set_option maxHeartbeats 800000 in
theorem ok_any (h:Cx w0 T R q w p):Calls Tryz.prog 142 #[at0 q] w fun e w'=>e = .returned (.bool (decide (p.er=0)))∧w'=w:=by
 obtain ⟨⟨-,-,-,-,-,-,-,c7,-⟩,-⟩:=box11 h.hp
 have e0:((p.er:Int) == 0)=decide (p.er=0):=by
   rw [Bool.eq_iff_iff,beq_iff_eq,decide_eq_true_iff]
   omega
 unfold at0
 generalize decide (p.er=0)=b at *
 go_enter Tryz.func142,Tryz.ntmps142
 go_wp2_with fail
 go_ret
 exact ⟨by rw [← e0]; rfl,rfl⟩
set_option maxRecDepth 100000 in
set_option maxHeartbeats 1600000 in
theorem fail_any (h:Cx w0 T R q w p) (er:Nat):Calls Tryz.prog 146 #[at0 q,.int .i64 (er:Int)] w fun e w'=>e = .returned (.tuple #[])∧Cx w0 T R q w' (p.fail er)∧Kp q w w':=by
 have HO:=Lib.hid (ok_any h)
 obtain ⟨⟨-,c1,c2,c3,c4,c5,c6,c7,c8,-⟩,-,f1,f2,f3,f4,f5,f6,f7,f8,-⟩:=box11 h.hp
 have HC:=Lib.hid h
 have hlt:=h.lt
 by_cases h0:p.er=0
 · have HP:Hid (p.fail er=⟨0,[],0,0,0,0,er,p.ln,p.g⟩):=Lib.hid (by unfold Pst.fail; rw [if_pos h0])
   rw [decide_eq_true h0] at HO
   rw [HP.out]
   clear h0 h
   unfold at0 at *
   go_enter Tryz.func146,Tryz.ntmps146
   go_wp2_with fail
   refine HO.out.mono ?_
   rintro e w1 ⟨rfl,rfl⟩
   go_wp2_with fail
   go_end0
   have HK:=(Kp.refl q w1).setWF (k := .int .u8 0) (s := .string ⟨#[]⟩) (n := .int .i64 0) (ln := .int .i64 0) (a' := .int .i64 0) (e := .int .i64 0) (er := .int .i64 (er:Int)) (fl := .int .i64 (p.ln:Int))
   have HH:=setWF (p':=⟨0,[],0,0,0,0,er,p.ln,p.g⟩) HC.out.hp rfl (k := .int .u8 0) (s := .string ⟨#[]⟩) (n := .int .i64 0) (ln := .int .i64 0) (a := .int .i64 0) (e := .int .i64 0) (er := .int .i64 (er:Int)) (fl := .int .i64 (p.ln:Int)) rfl rfl rfl rfl rfl rfl rfl rfl
   exact ⟨rfl,HC.out.on HK HH ⟨by simp,by simp⟩,HK⟩
 · have HP:Hid (p.fail er=p):=Lib.hid (by unfold Pst.fail; rw [if_neg h0])
   rw [decide_eq_false h0] at HO
   rw [HP.out]
   clear h0 h
   unfold at0 at *
   go_enter Tryz.func146,Tryz.ntmps146
   go_wp2_with fail
   refine HO.out.mono ?_
   rintro e w1 ⟨rfl,rfl⟩
   go_wp2_with fail
   go_end0
   exact ⟨rfl,HC.out,Kp.refl _ _⟩
set_option maxRecDepth 100000 in
set_option maxHeartbeats 1600000 in
theorem fin_any (h:Cx w0 T R q w p) (hg:1≤p.g) (hg2:p.g≤1000000000000000):Calls Tryz.prog 174 #[at0 q] w fun e w'=>e = .returned (.tuple #[])∧Cx w0 T R q w' p.fin∧Kp q w w':=by
 obtain ⟨⟨-,-,-,-,-,-,-,-,-,c9,-⟩,-,-,-,-,-,-,-,-,-,f9,-⟩:=box11 h.hp
 have HC:=Lib.hid h
 have hlt:=h.lt
 obtain ⟨g,hg'⟩:∃ g,p.g=g+1:=⟨p.g-1,by omega⟩
 have e0:((g+1:Nat):Int)-1=(g:Int):=by omega
 have HF:Hid (p.fin.g=g):=Lib.hid (by unfold Pst.fin; rw [hg']; rfl)
 rw [hg'] at c9
 have HG:=Lib.hid hg'
 have hb:g≤1000000000000000:=by omega
 clear hg hg2 hg' h
 unfold at0
 go_enter Tryz.func174,Tryz.ntmps174
 go_wp2_with fail
 go_end0
 exact ⟨rfl,HC.out.setG ⟨rfl,rfl,rfl,rfl,rfl,rfl,rfl,rfl⟩ HF.out,(Kp.refl q w).set rfl _⟩
set_option maxRecDepth 100000 in
set_option maxHeartbeats 1600000 in
theorem finD_any (u:FrameMode) (h:Cx w0 T R q w p) (hg:1≤p.g) (hg2:p.g≤1000000000000000):CallsD Tryz.prog 174 #[at0 q] u w fun e u' w'=>u'=u∧(e = .returned (.tuple #[])∧Cx w0 T R q w' p.fin∧Kp q w w'):=by
 obtain ⟨⟨-,-,-,-,-,-,-,-,-,c9,-⟩,-,-,-,-,-,-,-,-,-,f9,-⟩:=box11 h.hp
 have HC:=Lib.hid h
 have hlt:=h.lt
 obtain ⟨g,hg'⟩:∃ g,p.g=g+1:=⟨p.g-1,by omega⟩
 have e0:((g+1:Nat):Int)-1=(g:Int):=by omega
 have HF:Hid (p.fin.g=g):=Lib.hid (by unfold Pst.fin; rw [hg']; rfl)
 rw [hg'] at c9
 have HG:=Lib.hid hg'
 have hb:g≤1000000000000000:=by omega
 clear hg hg2 hg' h
 unfold at0
 go_enter_d Tryz.func174,Tryz.ntmps174
 go_wp2
 go_end0
 exact ⟨rfl,HC.out.setG ⟨rfl,rfl,rfl,rfl,rfl,rfl,rfl,rfl⟩ HF.out,(Kp.refl q w).set rfl _⟩
set_option maxRecDepth 100000 in
set_option maxHeartbeats 1600000 in
theorem begin_any (h:Cx w0 T R q w p) (hg2:p.g≤1000000000000000):Calls Tryz.prog 173 #[at0 q] w fun e w'=>e = .returned (.tuple #[])∧Cx w0 T R q w' p.begin∧Kp q w w':=by
 obtain ⟨⟨-,-,-,-,-,-,-,-,-,c9,-⟩,-,-,-,-,-,-,-,-,-,f9,-⟩:=box11 h.hp
 have HFA:=Lib.hid (fail_any h 102)
 have HC:=Lib.hid h
 have hlt:=h.lt
 have hgf:(p.fail 102).g=p.g:=by unfold Pst.fail; split <;> rfl
 by_cases hm:250≤p.g
 · have HB:Hid (p.begin={ p.fail 102 with g:=(p.fail 102).g+1 }):=Lib.hid (by unfold Pst.begin; rw [if_pos hm])
   have d0:decide ((250:Int)≤(p.g:Int))=true:=decide_eq_true (by omega)
   have HGF:=Lib.hid hgf
   rw [HB.out]
   clear h hm hgf
   unfold at0 at *
   go_enter Tryz.func173,Tryz.ntmps173
   go_wp2_with fail
   refine HFA.out.mono ?_
   rintro e w1 ⟨rfl,h1,hk⟩
   obtain ⟨⟨-,-,-,-,-,-,-,-,-,d9,-⟩,-,-,-,-,-,-,-,-,-,g9,-⟩:=box11 h1.hp
   have H1:=Lib.hid h1
   have HK:=Lib.hid hk
   have hlt1:=h1.lt
   rw [HGF.out] at d9
   clear h1 hk c9 f9 d0
   go_wp2_with fail
   go_end0
   exact ⟨rfl,H1.out.setG ⟨rfl,rfl,rfl,rfl,rfl,rfl,rfl,rfl⟩ (by dsimp only; rw [HGF.out]),HK.out.set rfl _⟩
 · have HB:Hid (p.begin={ p with g:=p.g+1 }):=Lib.hid (by unfold Pst.begin; rw [if_neg hm])
   have d0:decide ((250:Int)≤(p.g:Int))=false:=decide_eq_false (by omega)
   rw [HB.out]
   clear h hm hgf HFA
   unfold at0 at *
   go_enter Tryz.func173,Tryz.ntmps173
   go_wp2_with fail
   go_end0
   exact ⟨rfl,HC.out.setG ⟨rfl,rfl,rfl,rfl,rfl,rfl,rfl,rfl⟩ rfl,(Kp.refl q w).set rfl _⟩
set_option maxRecDepth 100000 in
set_option maxHeartbeats 1600000 in
theorem oneOf_any (ht:TxtOk w0 T) (h:Cx w0 T R q w p) (kind:Nat) (says:List (List Nat)) (A:Option Addr) (c:Nat) (hx:Tx w A says) (h8:∀ t∈says,∀ x∈t,x<256) (hl:says.length≤1000) (hA:∀ a,A=some a→a.block<w.heap.size) :
   Calls Tryz.prog 177 #[at0 q,.int .u8 (kind:Int),.slice A says.length c] w fun e w'=>e = .returned (.string (strOf (p.one T kind says).1))∧Cx w0 T R q w' (p.one T kind says).2∧Kp q w w':=by
 obtain ⟨⟨-,c1,c2,c3,c4,c5,c6,-⟩,-⟩:=box11 h.hp
 have HC:=Lib.hid h
 have hlt:=h.lt
 have hqa:¬ q=w.heap.size:=by omega
 have hx1:∀ o,Tx (w.alloc o) A says:=fun o i s hs=>by
   obtain ⟨b,k,rfl,hc⟩:=hx i s hs
   exact ⟨b,k,rfl,(((Below.refl w.heap.size w).alloc (Nat.le_refl _) o).cell (p:=⟨b,k+i,none⟩) (hA ⟨b,k,none⟩ rfl)).trans hc⟩
 have HCO:=Lib.hid (fun o=>contains_any says p.s A c (w.alloc o) (hx1 o) h8 h.ok.1 hl)
 have HST:=Lib.hid (fun o=>step_any ht (h.alloc o))
 have HQ:=Lib.hid (fun o=>heap_new w o)
 by_cases hk:p.k=kind
 · have d0:((p.k:Int) != (kind:Int))=false:=by rw [hk]; simp
   by_cases hs:p.s∈says
   · have HP:Hid (p.one T kind says=(p.s,p.step T)):=Lib.hid (by unfold Pst.one; rw [if_pos ⟨hk,hs⟩])
     rw [decide_eq_true hs] at HCO
     rw [HP.out]
     clear h hk hs hx hx1 h8 ht hA
     unfold at0 at *
     go_enter Tryz.func177,Tryz.ntmps177
     go_wp2_with (first
       | (go_at_call 208
          refine (HCO.out _).mono ?_
          rintro e w' ⟨rfl,rfl⟩)
       | (fail))
     refine (HST.out _).mono ?_
     rintro e w1 ⟨rfl,h1,hk⟩
     have H1:=Lib.hid h1
     have HK:=Lib.hid (((Kp.refl q w).alloc _).trans hk)
     obtain ⟨⟨-,y1,-⟩,-⟩:=bx6 (hk.heap (heap_new w _) (fun e=>hqa e.symm))
     clear h1 hk
     go_wp2_with fail
     go_ret
     exact ⟨rfl,H1.out,HK.out⟩
   · have HP:Hid (p.one T kind says=([],p)):=Lib.hid (by unfold Pst.one; rw [if_neg (fun h=>hs h.2)])
     rw [decide_eq_false hs] at HCO
     rw [HP.out]
     clear h hk hs hx hx1 h8 ht hA HST
     unfold at0 at *
     go_enter Tryz.func177,Tryz.ntmps177
     go_wp2_with (first
       | (go_at_call 208
          refine (HCO.out _).mono ?_
          rintro e w' ⟨rfl,rfl⟩)
       | (fail))
     go_ret
     exact ⟨rfl,HC.out.alloc _,(Kp.refl q w).alloc _⟩
 · have d0:((p.k:Int) != (kind:Int))=true:=bne_iff_ne.2 (by omega)
   have HP:Hid (p.one T kind says=([],p)):=Lib.hid (by unfold Pst.one; rw [if_neg (fun h=>hk h.1)])
   rw [HP.out]
   clear h hk hx hx1 h8 ht hA HST HCO
   unfold at0 at *
   go_enter Tryz.func177,Tryz.ntmps177
   go_wp2_with fail
   go_ret
   exact ⟨rfl,HC.out.alloc _,(Kp.refl q w).alloc _⟩
set_option maxHeartbeats 800000 in
theorem sign_any' (ht:TxtOk w0 T) (h:Cx w0 T R q w p) (says:List (List Nat)) (A:Option Addr) (c n:Nat) (hn:n=says.length) (hx:Tx w A says) (h8:∀ t∈says,∀ x∈t,x<256) (hl:says.length≤1000) (hA:∀ a,A=some a→a.block<w.heap.size) :
   Calls Tryz.prog 172 #[at0 q,.slice A n c] w fun e w'=>e = .returned (.string (strOf (p.one T 5 says).1))∧Cx w0 T R q w' (p.one T 5 says).2∧Kp q w w':=by
 subst hn
 have HO:=Lib.hid (oneOf_any ht h 5 says A c hx h8 hl hA)
 clear ht h hx h8 hA
 unfold at0 at *
 go_enter Tryz.func172,Tryz.ntmps172
 go_wp2_with fail
 refine HO.out.mono ?_
 rintro e w1 ⟨rfl,h1,hk⟩
 go_wp2_with fail
 go_ret
 exact ⟨rfl,h1,hk⟩
set_option maxHeartbeats 800000 in
theorem key_any' (ht:TxtOk w0 T) (h:Cx w0 T R q w p) (says:List (List Nat)) (A:Option Addr) (c n:Nat) (hn:n=says.length) (hx:Tx w A says) (h8:∀ t∈says,∀ x∈t,x<256) (hl:says.length≤1000) (hA:∀ a,A=some a→a.block<w.heap.size) :
   Calls Tryz.prog 143 #[at0 q,.slice A n c] w fun e w'=>e = .returned (.string (strOf (p.one T 4 says).1))∧Cx w0 T R q w' (p.one T 4 says).2∧Kp q w w':=by
 subst hn
 have HO:=Lib.hid (oneOf_any ht h 4 says A c hx h8 hl hA)
 clear ht h hx h8 hA
 unfold at0 at *
 go_enter Tryz.func143,Tryz.ntmps143
 go_wp2_with fail
 refine HO.out.mono ?_
 rintro e w1 ⟨rfl,h1,hk⟩
 go_wp2_with fail
 go_ret
 exact ⟨rfl,h1,hk⟩
theorem sign_made (ht:TxtOk w0 T) (h:Cx w0 T R q w p) (says:List (List Nat)) (arr:Array Value) (t:TypeId) (c n:Nat) (hn:n=says.length) (ha:arr.toList=says.map fun s=>Value.string (strOf s)) (h8:∀ t∈says,∀ x∈t,x<256) (hl:says.length≤1000) :
   Calls Tryz.prog 172 #[at0 q,.slice (some ⟨w.heap.size,0,none⟩) n c] (w.alloc (.cells arr t)) fun e w'=>e = .returned (.string (strOf (p.one T 5 says).1))∧Cx w0 T R q w' (p.one T 5 says).2∧Kp q w w':=by
 refine (sign_any' ht (h.alloc (.cells arr t)) says (some ⟨w.heap.size,0,none⟩) c n hn (Tx.made w arr t says ha) h8 hl (fun a e=>by cases e; simp)).mono ?_
 rintro e w' ⟨h1,h2,h3⟩
 exact ⟨h1,h2,((Kp.refl q w).alloc _).trans h3⟩
theorem key_made (ht:TxtOk w0 T) (h:Cx w0 T R q w p) (says:List (List Nat)) (arr:Array Value) (t:TypeId) (c n:Nat) (hn:n=says.length) (ha:arr.toList=says.map fun s=>Value.string (strOf s)) (h8:∀ t∈says,∀ x∈t,x<256) (hl:says.length≤1000) :
   Calls Tryz.prog 143 #[at0 q,.slice (some ⟨w.heap.size,0,none⟩) n c] (w.alloc (.cells arr t)) fun e w'=>e = .returned (.string (strOf (p.one T 4 says).1))∧Cx w0 T R q w' (p.one T 4 says).2∧Kp q w w':=by
 refine (key_any' ht (h.alloc (.cells arr t)) says (some ⟨w.heap.size,0,none⟩) c n hn (Tx.made w arr t says ha) h8 hl (fun a e=>by cases e; simp)).mono ?_
 rintro e w' ⟨h1,h2,h3⟩
 exact ⟨h1,h2,((Kp.refl q w).alloc _).trans h3⟩
set_option maxHeartbeats 800000 in
theorem must_any (ht:TxtOk w0 T) (h:Cx w0 T R q w p) (s:List Nat) (S:ByteArray) (hS:S=strOf s) (h8:∀ x∈s,x<256) :
   Calls Tryz.prog 181 #[at0 q,.string S] w fun e w'=>e = .returned (.bool (p.must T s).1)∧Cx w0 T R q w' (p.must T s).2∧Kp q w w':=by
 subst hS
 have HO:=Lib.hid (fun t=>sign_made ht h [s] #[.string (strOf s)] t 1 1 rfl rfl (by simpa using h8) (by simp))
 have HF:=Lib.hid (fun w' (h':Cx w0 T R q w' (p.one T 5 [s]).2)=>fail_any h' 101)
 have he:((strOf (p.one T 5 [s]).1).toList.isEmpty)=decide ((p.one T 5 [s]).1=[]):=one_empty _
 by_cases h0:(p.one T 5 [s]).1=[]
 · have HP:Hid (p.must T s=(false,(p.one T 5 [s]).2.fail 101)):=Lib.hid (by unfold Pst.must; rw [if_pos h0])
   rw [decide_eq_true h0] at he
   rw [HP.out]
   clear h0 h ht h8
   generalize p.one T 5 [s]=P at *
   obtain ⟨r,p1⟩:=P
   dsimp only at *
   unfold at0 at *
   go_enter Tryz.func181,Tryz.ntmps181
   go_wp2_with fail
   refine (HO.out _).mono ?_
   rintro e w1 ⟨rfl,h1,hk⟩
   have HK:=Lib.hid hk
   have HFF:=Lib.hid (HF.out w1 h1)
   clear hk h1
   go_wp2_with fail
   refine HFF.out.mono ?_
   rintro e w2 ⟨rfl,h2,hk2⟩
   go_wp2_with fail
   go_ret
   exact ⟨rfl,h2,HK.out.trans hk2⟩
 · have HP:Hid (p.must T s=(true,(p.one T 5 [s]).2)):=Lib.hid (by unfold Pst.must; rw [if_neg h0])
   rw [decide_eq_false h0] at he
   rw [HP.out]
   clear h0 h ht h8 HF
   generalize p.one T 5 [s]=P at *
   obtain ⟨r,p1⟩:=P
   dsimp only at *
   unfold at0 at *
   go_enter Tryz.func181,Tryz.ntmps181
   go_wp2_with fail
   refine (HO.out _).mono ?_
   rintro e w1 ⟨rfl,h1,hk⟩
   have HK:=Lib.hid hk
   have H1:=Lib.hid h1
   clear hk h1
   go_wp2_with fail
   go_ret
   exact ⟨rfl,H1.out,HK.out⟩
set_option maxRecDepth 100000 in
set_option maxHeartbeats 1600000 in
theorem name_any' (ht:TxtOk w0 T) (h:Cx w0 T R q w p) :
   Calls Tryz.prog 178 #[at0 q] w fun e w'=>e = .returned (.string (strOf (p.name T).1))∧Cx w0 T R q w' (p.name T).2∧Kp q w w':=by
 obtain ⟨⟨-,c1,c2,c3,c4,c5,c6,-⟩,-⟩:=box11 h.hp
 have HC:=Lib.hid h
 have hlt:=h.lt
 have hqa:¬ q=w.heap.size:=by omega
 have HST:=Lib.hid (fun o=>step_any ht (h.alloc o))
 have HF:=Lib.hid (fun o=>fail_any (h.alloc o) 101)
 by_cases hk:p.k=3
 · have d0:((p.k:Int) != 3)=false:=by rw [hk]; rfl
   have HP:Hid (p.name T=(p.s,p.step T)):=Lib.hid (by unfold Pst.name; rw [if_pos hk])
   rw [HP.out]
   clear h hk ht HF
   unfold at0 at *
   go_enter Tryz.func178,Tryz.ntmps178
   go_wp2_with fail
   refine (HST.out _).mono ?_
   rintro e w1 ⟨rfl,h1,hk⟩
   have H1:=Lib.hid h1
   have HK:=Lib.hid (((Kp.refl q w).alloc _).trans hk)
   obtain ⟨⟨-,y1,-⟩,-⟩:=bx6 (hk.heap (heap_new w _) (fun e=>hqa e.symm))
   clear h1 hk
   go_wp2_with fail
   go_ret
   exact ⟨rfl,H1.out,HK.out⟩
 · have d0:((p.k:Int) != 3)=true:=bne_iff_ne.2 (by omega)
   have HP:Hid (p.name T=([],p.fail 101)):=Lib.hid (by unfold Pst.name; rw [if_neg hk])
   rw [HP.out]
   clear h hk ht HST
   unfold at0 at *
   go_enter Tryz.func178,Tryz.ntmps178
   go_wp2_with fail
   refine (HF.out _).mono ?_
   rintro e w1 ⟨rfl,h1,hk⟩
   have H1:=Lib.hid h1
   have HK:=Lib.hid (((Kp.refl q w).alloc _).trans hk)
   clear h1 hk
   go_wp2_with fail
   go_ret
   exact ⟨rfl,H1.out,HK.out⟩
theorem key_eq' (s k:List Nat) (h8:∀ x∈s,x<256) (L:List UInt8) (hk:L=k.map UInt8.ofNat) (k8:∀ x∈k,x<256):((strOf s).toList == L)=decide (s=k):=by
 rw [hk,← show (strOf k).toList=k.map UInt8.ofNat by rw [ByteArray.toList_eq]; simp [strOf]]
 exact strOf_eq s k h8 k8
theorem one_sok (ht:TxtOk w0 T) (kind:Nat) (says:List (List Nat)) (h:Sok p.s):Sok (p.one T kind says).1∧Sok (p.one T kind says).2.s:=by
 unfold Pst.one
 split
 · exact ⟨h,ht.ok p⟩
 · exact ⟨⟨by simp,by simp⟩,h⟩
set_option maxRecDepth 100000 in
set_option maxHeartbeats 1600000 in
theorem stmtKind_any (ht:TxtOk w0 T) (h:Cx w0 T R q w p) :
   Calls Tryz.prog 241 #[at0 q] w fun e w'=>e = .returned (.int .u8 (kindF (p.one T 4 keysS).1:Int))∧Cx w0 T R q w' (p.one T 4 keysS).2∧Kp q w w':=by
 have HO:=Lib.hid (fun t=>key_made ht h keysS #[.string ⟨#[108,101,116]⟩,.string ⟨#[115,101,116]⟩,.string ⟨#[105,102]⟩,.string ⟨#[119,104,105,108,101]⟩,.string ⟨#[114,101,116,117,114,110]⟩,.string ⟨#[115,101,110,100]⟩,.string ⟨#[98,101,99,111,109,101]⟩,.string ⟨#[115,116,111,112]⟩] t 8 8 rfl rfl (by decide) (by decide))
 have hs:=(one_sok ht 4 keysS h.ok).1.1
 have q0:=key_eq' _ [108,101,116] hs [108,101,116] rfl (by decide)
 have q1:=key_eq' _ [115,101,116] hs [115,101,116] rfl (by decide)
 have q2:=key_eq' _ [105,102] hs [105,102] rfl (by decide)
 have q3:=key_eq' _ [119,104,105,108,101] hs [119,104,105,108,101] rfl (by decide)
 have q4:=key_eq' _ [114,101,116,117,114,110] hs [114,101,116,117,114,110] rfl (by decide)
 have q5:=key_eq' _ [115,101,110,100] hs [115,101,110,100] rfl (by decide)
 have q6:=key_eq' _ [98,101,99,111,109,101] hs [98,101,99,111,109,101] rfl (by decide)
 have q7:=key_eq' _ [115,116,111,112] hs [115,116,111,112] rfl (by decide)
 have HKF:Hid (kindF (p.one T 4 keysS).1=bif decide ((p.one T 4 keysS).1=[108,101,116]) then 1 else bif decide ((p.one T 4 keysS).1=[115,101,116]) then 2 else bif decide ((p.one T 4 keysS).1=[105,102]) then 3 else bif decide ((p.one T 4 keysS).1=[119,104,105,108,101]) then 4 else bif decide ((p.one T 4 keysS).1=[114,101,116,117,114,110]) then 5 else bif decide ((p.one T 4 keysS).1=[115,101,110,100]) then 6 else bif decide ((p.one T 4 keysS).1=[98,101,99,111,109,101]) then 7 else bif decide ((p.one T 4 keysS).1=[115,116,111,112]) then 8 else 9):=Lib.hid (by unfold kindF; simp only [cond_eq_ite,decide_eq_true_eq])
 rw [HKF.out]
 clear HKF h ht hs
 generalize decide ((p.one T 4 keysS).1=[108,101,116])=b0 at *
 generalize decide ((p.one T 4 keysS).1=[115,101,116])=b1 at *
 generalize decide ((p.one T 4 keysS).1=[105,102])=b2 at *
 generalize decide ((p.one T 4 keysS).1=[119,104,105,108,101])=b3 at *
 generalize decide ((p.one T 4 keysS).1=[114,101,116,117,114,110])=b4 at *
 generalize decide ((p.one T 4 keysS).1=[115,101,110,100])=b5 at *
 generalize decide ((p.one T 4 keysS).1=[98,101,99,111,109,101])=b6 at *
 generalize decide ((p.one T 4 keysS).1=[115,116,111,112])=b7 at *
 generalize p.one T 4 keysS=P at *
 obtain ⟨r,p1⟩:=P
 dsimp only at *
 generalize strOf r=S at *
 unfold at0 at *
 go_enter Tryz.func241,Tryz.ntmps241
 go_wp2_with fail
 refine (HO.out _).mono ?_
 rintro e w1 ⟨rfl,h1,hk⟩
 have H1:=Lib.hid h1
 have HK:=Lib.hid hk
 clear h1 hk HO
 go_wp2_with fail
 all_goals
   go_ret
   refine ⟨?_,H1.out,HK.out⟩
   clear q0 q1 q2 q3 q4 q5 q6 q7 H1 HK
   subst_vars
   first | rfl | simp_all
end
end Go.Proofs.YtcmopnkldplngabGreatDoor
