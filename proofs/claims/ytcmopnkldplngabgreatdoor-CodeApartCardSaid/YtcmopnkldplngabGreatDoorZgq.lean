/- Texts Zg,Zq of this seat in one: see each part. -/
import Derived.Deep.Slices
import Derived.Deep.Fields
import Derived.Lib.SmallJoins
import Derived.Test.YtcmopnkldplngabGreatDoorTbe
import Derived.Test.YtcmopnkldplngabGreatDoorZac
import Derived.Test.YtcmopnkldplngabGreatDoorRow
import Derived.Test.YtcmopnkldplngabGreatDoorNx
namespace Go.Proofs.YtcmopnkldplngabGreatDoor
open Go.RowKit
set_option linter.unusedVariables false
mutual
def Rw (w:World) (S:Nat→Prop):Nd→Value→Prop
 | .num k n,v=>v = .int k n
 | .str s,v=>v = .string (strOf s)∧(∀ y∈s,y<256)∧s.length≤9223372036854775807
 | .row sz l,v=>∃ A c,v = .slice A l.length c∧l.length≤c∧c≤maxLen∧Rws w S A sz 0 l
 | .st cs,v=>∃ vs,v = .agg vs∧Rwc w S cs vs.toList
def Rwc (w:World) (S:Nat→Prop):List Nd→List Value→Prop
 | [],vs=>vs=[]
 | c :: r,vs=>∃ v vr,vs=v :: vr∧Rw w S c v∧Rwc w S r vr
def Rws (w:World) (S:Nat→Prop) (A:Option Addr) (sz:Nat):Nat→List Nd→Prop
 | _,[]=>True
 | i,x :: r=>(∃ b o vs,A=some ⟨b,o,none⟩∧S b∧vs.length=sz∧w.rangeAt b (o+i*sz) vs∧Rw w S x (.agg vs.toArray))∧Rws w S A sz (i+1) r
end
section
variable {w w':World} {S S':Nat→Prop}
mutual
theorem Rw.keep (hk:∀ p:Addr,S p.block→w'.cell? p=w.cell? p) (hS:∀ b,S b→S' b):∀ (x:Nd) (v:Value),Rw w S x v→Rw w' S' x v
 | .num k n,v,h=>by
   rw [Rw] at h ⊢
   exact h
 | .str s,v,h=>by
   rw [Rw] at h ⊢
   exact h
 | .row sz l,v,h=>by
   rw [Rw] at h ⊢
   obtain ⟨A,c,h1,h2,h3,h4⟩:=h
   exact ⟨A,c,h1,h2,h3,Rws.keep hk hS A sz 0 l h4⟩
 | .st cs,v,h=>by
   rw [Rw] at h ⊢
   obtain ⟨vs,h1,h2⟩:=h
   exact ⟨vs,h1,Rwc.keep hk hS cs _ h2⟩
theorem Rwc.keep (hk:∀ p:Addr,S p.block→w'.cell? p=w.cell? p) (hS:∀ b,S b→S' b):∀ (cs:List Nd) (vs:List Value),Rwc w S cs vs→Rwc w' S' cs vs
 | [],vs,h=>by
   rw [Rwc] at h ⊢
   exact h
 | c :: r,vs,h=>by
   rw [Rwc] at h ⊢
   obtain ⟨v,vr,h1,h2,h3⟩:=h
   exact ⟨v,vr,h1,Rw.keep hk hS c v h2,Rwc.keep hk hS r vr h3⟩
theorem Rws.keep (hk:∀ p:Addr,S p.block→w'.cell? p=w.cell? p) (hS:∀ b,S b→S' b) (A:Option Addr) (sz:Nat):∀ (i:Nat) (l:List Nd),Rws w S A sz i l→Rws w' S' A sz i l
 | _,[],h=>by
   rw [Rws]
   trivial
 | i,x :: r,h=>by
   rw [Rws] at h ⊢
   obtain ⟨⟨b,o,vs,h1,h2,h3,h4,h5⟩,h6⟩:=h
   exact ⟨⟨b,o,vs,h1,hS b h2,h3,rangeAt_keep h4 (fun p hp=>hk p (hp ▸ h2)),Rw.keep hk hS x _ h5⟩,Rws.keep hk hS A sz (i+1) r h6⟩
end
theorem Rws.at {A:Option Addr} {sz:Nat}:∀ {i:Nat} {l:List Nd},Rws w S A sz i l→∀ (j:Nat) (x:Nd),l[j]?=some x→∃ b o vs,A=some ⟨b,o,none⟩∧S b∧vs.length=sz∧w.rangeAt b (o+(i+j)*sz) vs∧Rw w S x (.agg vs.toArray)
 | i,[],h,j,x,hx=>by simp at hx
 | i,y :: r,h,0,x,hx=>by
   rw [Rws] at h
   simp at hx
   subst hx
   exact h.1
 | i,y :: r,h,j+1,x,hx=>by
   rw [Rws] at h
   have:=Rws.at h.2 j x (by simpa using hx)
   rw [show i+1+j=i+(j+1) by omega] at this
   exact this
theorem Rws.of {A:Option Addr} {sz:Nat}:∀ {i:Nat} {l:List Nd},(∀ (j:Nat) (x:Nd),l[j]?=some x→∃ b o vs,A=some ⟨b,o,none⟩∧S b∧vs.length=sz∧w.rangeAt b (o+(i+j)*sz) vs∧Rw w S x (.agg vs.toArray))→Rws w S A sz i l
 | i,[],h=>by
   rw [Rws]
   trivial
 | i,y :: r,h=>by
   rw [Rws]
   refine ⟨h 0 y rfl,Rws.of fun j x hx=>?_⟩
   have:=h (j+1) x (by simpa using hx)
   rw [show i+(j+1)=i+1+j by omega] at this
   exact this
theorem Rw.nil (sz:Nat):Rw w S (.row sz []) (.slice none 0 0):=by
 rw [Rw]
 refine ⟨none,0,rfl,Nat.le_refl _,by unfold maxLen; omega,?_⟩
 rw [Rws]
 trivial
end
section
variable {w:World} {S:Nat→Prop}
theorem Ex.rw (k:Nat) (s:List Nat) (n:Int) (l:List Ex) (v:Value):Rw w S (Ex.nd (.mk k s n l)) v ↔ ∃ y,v = .agg #[.int .u8 (k:Int),.string (strOf s),.int .i64 n,y]∧(∀ y∈s,y<256)∧s.length≤9223372036854775807∧Rw w S (.row 4 (l.map Ex.nd)) y:=by
 rw [Ex.nd,Ex.nds_eq]
 constructor
 · intro h
   rw [Rw] at h
   obtain ⟨vs,rfl,h⟩:=h
   simp only [Rwc] at h
   obtain ⟨v0,r0,e0,h0,v1,r1,e1,h1,v2,r2,e2,h2,v3,r3,e3,h3,e4⟩:=h
   simp only [Rw] at h0 h1 h2
   obtain ⟨h1,h8,hn⟩:=h1
   subst h0 h1 h2 e1 e2 e3 e4
   obtain ⟨a⟩:=vs
   simp at e0
   subst e0
   exact ⟨v3,rfl,h8,hn,h3⟩
 · rintro ⟨y,rfl,h8,hn,h⟩
   rw [Rw]
   refine ⟨_,rfl,?_⟩
   simp only [Rwc]
   refine ⟨_, _,rfl,?_, _, _,rfl,?_, _, _,rfl,?_, _, _,rfl,h,rfl⟩
   · rw [Rw]
   · rw [Rw]
     exact ⟨rfl,h8,hn⟩
   · rw [Rw]
theorem Sm.rw (k:Nat) (s:List Nat) (x:List Ex) (b c:List Sm) (ln:Int) (v:Value):Rw w S (Sm.nd (.mk k s x b c ln)) v ↔ ∃ y z u,v = .agg #[.int .u8 (k:Int),.string (strOf s),y,z,u,.int .i64 ln]∧(∀ y∈s,y<256)∧s.length≤9223372036854775807∧Rw w S (.row 4 (x.map Ex.nd)) y∧Rw w S (.row 6 (b.map Sm.nd)) z∧Rw w S (.row 6 (c.map Sm.nd)) u:=by
 rw [Sm.nd,Ex.nds_eq,Sm.nds_eq,Sm.nds_eq]
 constructor
 · intro h
   rw [Rw] at h
   obtain ⟨vs,rfl,h⟩:=h
   simp only [Rwc] at h
   obtain ⟨v0,r0,e0,h0,v1,r1,e1,h1,v2,r2,e2,h2,v3,r3,e3,h3,v4,r4,e4,h4,v5,r5,e5,h5,e6⟩:=h
   simp only [Rw] at h0 h1 h5
   obtain ⟨h1,h8,hn⟩:=h1
   subst h0 h1 h5 e1 e2 e3 e4 e5 e6
   obtain ⟨a⟩:=vs
   simp at e0
   subst e0
   exact ⟨v2,v3,v4,rfl,h8,hn,h2,h3,h4⟩
 · rintro ⟨y,z,u,rfl,h8,hn,h1,h2,h3⟩
   rw [Rw]
   refine ⟨_,rfl,?_⟩
   simp only [Rwc]
   refine ⟨_, _,rfl,?_, _, _,rfl,?_, _, _,rfl,h1, _, _,rfl,h2, _, _,rfl,h3, _, _,rfl,?_,rfl⟩
   · rw [Rw]
   · rw [Rw]
     exact ⟨rfl,h8,hn⟩
   · rw [Rw]
theorem nm_rw (s:List Nat) (v:Value):Rw w S (nmNd s) v ↔ v = .agg #[.string (strOf s)]∧(∀ y∈s,y<256)∧s.length≤9223372036854775807:=by
 unfold nmNd
 constructor
 · intro h
   rw [Rw] at h
   obtain ⟨vs,rfl,h⟩:=h
   simp only [Rwc] at h
   obtain ⟨v0,r0,e0,h0,e1⟩:=h
   rw [Rw] at h0
   obtain ⟨h1,h8,hn⟩:=h0
   subst h1 e1
   obtain ⟨a⟩:=vs
   simp at e0
   subst e0
   exact ⟨rfl,h8,hn⟩
 · rintro ⟨rfl,h8,hn⟩
   rw [Rw]
   refine ⟨_,rfl,?_⟩
   simp only [Rwc]
   refine ⟨_, _,rfl,?_,rfl⟩
   rw [Rw]
   exact ⟨rfl,h8,hn⟩
theorem hd_rw (s:List Nat) (ps:List (List Nat)) (sz:Nat) (l:List Nd) (ln:Int) (v:Value):Rw w S (.st [.str s,.row 1 (ps.map nmNd),.row sz l,.num .i64 ln]) v ↔ ∃ y z,v = .agg #[.string (strOf s),y,z,.int .i64 ln]∧(∀ y∈s,y<256)∧s.length≤9223372036854775807∧Rw w S (.row 1 (ps.map nmNd)) y∧Rw w S (.row sz l) z:=by
 constructor
 · intro h
   rw [Rw] at h
   obtain ⟨vs,rfl,h⟩:=h
   simp only [Rwc] at h
   obtain ⟨v0,r0,e0,h0,v1,r1,e1,h1,v2,r2,e2,h2,v3,r3,e3,h3,e4⟩:=h
   simp only [Rw] at h0 h3
   obtain ⟨h0,h8,hn⟩:=h0
   subst h0 h3 e1 e2 e3 e4
   obtain ⟨a⟩:=vs
   simp at e0
   subst e0
   exact ⟨v1,v2,rfl,h8,hn,h1,h2⟩
 · rintro ⟨y,z,rfl,h8,hn,h1,h2⟩
   rw [Rw]
   refine ⟨_,rfl,?_⟩
   simp only [Rwc]
   refine ⟨_, _,rfl,?_, _, _,rfl,h1, _, _,rfl,h2, _, _,rfl,?_,rfl⟩
   · rw [Rw]
     exact ⟨rfl,h8,hn⟩
   · rw [Rw]
theorem Pg.rw (g:Pg) (v:Value):Rw w S g.nd v ↔ ∃ y z,v = .agg #[y,z]∧Rw w S (.row 4 (g.fns.map Bd.nd)) y∧Rw w S (.row 4 (g.roles.map Rl.nd)) z:=by
 unfold Pg.nd
 constructor
 · intro h
   rw [Rw] at h
   obtain ⟨vs,rfl,h⟩:=h
   simp only [Rwc] at h
   obtain ⟨v0,r0,e0,h0,v1,r1,e1,h1,e2⟩:=h
   subst e1 e2
   obtain ⟨a⟩:=vs
   simp at e0
   subst e0
   exact ⟨v0,v1,rfl,h0,h1⟩
 · rintro ⟨y,z,rfl,h1,h2⟩
   rw [Rw]
   refine ⟨_,rfl,?_⟩
   simp only [Rwc]
   exact ⟨_, _,rfl,h1, _, _,rfl,h2,rfl⟩
end
mutual
def ShN:Nd→Prop
 | .num _ _ => True
 | .str s=>s.length≤140737488355328
 | .row _ l=>ShNs l
 | .st l=>ShNs l
def ShNs:List Nd→Prop
 | []=>True
 | x :: r=>ShN x∧ShNs r
end
theorem ShNs.of:∀ {l:List Nd},(∀ x∈l,ShN x)→ShNs l
 | [],h=>by rw [ShNs]; trivial
 | x :: r,h=>by rw [ShNs]; exact ⟨h x (by simp),ShNs.of fun y hy=>h y (by simp [hy])⟩
section
variable {w:World} {S:Nat→Prop}
mutual
theorem Rw.rd:∀ (x:Nd) (v:Value),ShN x→Rw w S x v→Rd w S x v
 | .num k n,v,hs,h=>by
   rw [Rw] at h
   rw [Rd]
   exact h
 | .str s,v,hs,h=>by
   rw [Rw] at h
   rw [ShN] at hs
   rw [Rd]
   exact ⟨h.1,h.2.1,hs⟩
 | .row sz l,v,hs,h=>by
   rw [Rw] at h
   rw [ShN] at hs
   rw [Rd]
   obtain ⟨A,c,h1,h2,h3,h4⟩:=h
   exact ⟨A,c,h1,h2,h3,Rws.rd A sz 0 l hs h4⟩
 | .st cs,v,hs,h=>by
   rw [Rw] at h
   rw [ShN] at hs
   rw [Rd]
   obtain ⟨vs,h1,h2⟩:=h
   exact ⟨vs,h1,Rwc.rd cs _ hs h2⟩
theorem Rwc.rd:∀ (cs:List Nd) (vs:List Value),ShNs cs→Rwc w S cs vs→Rcs w S cs vs
 | [],vs,hs,h=>by
   rw [Rwc] at h
   rw [Rcs]
   exact h
 | c :: r,vs,hs,h=>by
   rw [Rwc] at h
   rw [ShNs] at hs
   rw [Rcs]
   obtain ⟨v,vr,h1,h2,h3⟩:=h
   exact ⟨v,vr,h1,Rw.rd c v hs.1 h2,Rwc.rd r vr hs.2 h3⟩
theorem Rws.rd (A:Option Addr) (sz:Nat):∀ (i:Nat) (l:List Nd),ShNs l→Rws w S A sz i l→Rds w S A sz i l
 | _,[],hs,h=>by
   rw [Rds]
   trivial
 | i,x :: r,hs,h=>by
   rw [Rws] at h
   rw [ShNs] at hs
   rw [Rds]
   obtain ⟨⟨b,o,vs,h1,h2,h3,h4,h5⟩,h6⟩:=h
   exact ⟨⟨b,o,vs,h1,h2,h3,h4,Rw.rd x _ hs.1 h5⟩,Rws.rd A sz (i+1) r hs.2 h6⟩
end
end
/-! How great a program is: how many parts were met; none: it is too great. -/
mutual
def hgE (many:Int) (lv:Nat):Ex→Int→Option Int
 | .mk k s z l,n=>if many<n+1∨lv=0∨1000<s.length then none else hgEs many (lv-1) l (n+1)
def hgEs (many:Int) (lv:Nat):List Ex→Int→Option Int
 | [],n=>some n
 | x :: r,n=>match hgE many lv x n with
   | none=>none
   | some n'=>hgEs many lv r n'
end
mutual
def hgS (many:Int) (lv:Nat):Sm→Int→Option Int
 | .mk k s x b e ln,n =>
   if many<n+1∨lv=0∨1000<s.length then none
   else match hgEs many (lv-1) x (n+1) with
     | none=>none
     | some n1=>match hgSs many (lv-1) b n1 with
       | none=>none
       | some n2=>hgSs many (lv-1) e n2
def hgSs (many:Int) (lv:Nat):List Sm→Int→Option Int
 | [],n=>some n
 | x :: r,n=>match hgS many lv x n with
   | none=>none
   | some n'=>hgSs many lv r n'
end
def longF (l:List (List Nat)):Bool:=l.any fun s=>decide (1000<s.length)
def wi (z:Int):Int:=IntKind.i64.wrap z
theorem wi_eq (z:Int):wi z=IntKind.i64.wrap z:=rfl
theorem wi_lo (z:Int) : -9223372036854775808≤wi z∧wi z≤9223372036854775807:=by
 unfold wi
 rw [IntKind.wrap_i64]
 omega
def hgB (many:Int) (lv:Nat) (b:Bd) (n:Int):Option Int:=if many<wi (wi (n+1)+(b.ps.length:Int))∨1000<b.name.length∨longF b.ps=true then none else hgSs many lv b.st (wi (wi (n+1)+(b.ps.length:Int)))
def hgBs (many:Int) (lv:Nat):List Bd→Int→Option Int
 | [],n=>some n
 | x :: r,n=>match hgB many lv x n with
   | none=>none
   | some n'=>hgBs many lv r n'
def hgR (many:Int) (lv:Nat) (r:Rl) (n:Int):Option Int:=if many<wi (n+(r.ps.length:Int))∨1000<r.name.length∨longF r.ps=true then none else hgBs many lv r.on (wi (n+(r.ps.length:Int)))
def hgRs (many:Int) (lv:Nat):List Rl→Int→Option Int
 | [],n=>some n
 | x :: r,n=>match hgR many lv x n with
   | none=>none
   | some n'=>hgRs many lv r n'
def hgP (many:Int) (lv:Nat) (g:Pg):Option Int:=match hgBs many lv g.fns (wi ((g.fns.length:Int)+(g.roles.length:Int))) with
 | none=>none
 | some n=>match hgRs many lv g.roles n with
   | none=>none
   | some n'=>if many<n' then none else some n'
section
variable {many:Int}
theorem hgE_ok:∀ (N:Nat),(∀ (x:Ex) (lv:Nat) (n n':Int),SizeOf.sizeOf x<N→hgE many lv x n=some n'→n≤n'∧n'≤max many n∧ShN x.nd)∧(∀ (l:List Ex) (lv:Nat) (n n':Int),SizeOf.sizeOf l<N→hgEs many lv l n=some n'→n≤n'∧n'≤max many n∧ShNs (l.map Ex.nd)):=by
 intro N
 induction N with
 | zero=>exact ⟨fun x lv n n' h=>absurd h (by omega),fun x lv n n' h=>absurd h (by omega)⟩
 | succ N ih =>
   refine ⟨fun x lv n n' hs h=>?_,fun l lv n n' hs h=>?_⟩
   · obtain ⟨k,s,m,l⟩:=x
     rw [hgE] at h
     split at h
     · cases h
     · obtain ⟨a,b,c⟩:=ih.2 l (lv-1) (n+1) n' (by simp at hs; omega) h
       refine ⟨by omega,by omega,?_⟩
       rw [Ex.nd,Ex.nds_eq,ShN]
       exact ShNs.of (by
         intro y hy
         simp at hy
         rcases hy with rfl | rfl | rfl | rfl
         · rw [ShN]; trivial
         · rw [ShN]; omega
         · rw [ShN]; trivial
         · rw [ShN]; exact c)
   · cases l with
     | nil=>rw [hgEs] at h; cases h; exact ⟨Int.le_refl _,by omega,by rw [List.map_nil,ShNs]; trivial⟩
     | cons x r =>
       rw [hgEs] at h
       split at h
       · cases h
       · rename_i n1 h1
         obtain ⟨a1,a2,a3⟩:=ih.1 x lv n n1 (by simp at hs; omega) h1
         obtain ⟨b1,b2,b3⟩:=ih.2 r lv n1 n' (by simp at hs; omega) h
         exact ⟨by omega,by omega,by rw [List.map_cons,ShNs]; exact ⟨a3,b3⟩⟩
theorem hgS_ok:∀ (N:Nat),(∀ (x:Sm) (lv:Nat) (n n':Int),SizeOf.sizeOf x<N→hgS many lv x n=some n'→n≤n'∧n'≤max many n∧ShN x.nd)∧(∀ (l:List Sm) (lv:Nat) (n n':Int),SizeOf.sizeOf l<N→hgSs many lv l n=some n'→n≤n'∧n'≤max many n∧ShNs (l.map Sm.nd)):=by
 intro N
 induction N with
 | zero=>exact ⟨fun x lv n n' h=>absurd h (by omega),fun x lv n n' h=>absurd h (by omega)⟩
 | succ N ih =>
   refine ⟨fun x lv n n' hs h=>?_,fun l lv n n' hs h=>?_⟩
   · obtain ⟨k,s,x,b,e,ln⟩:=x
     rw [hgS] at h
     split at h
     · cases h
     · split at h
       · cases h
       · rename_i n1 h1
         split at h
         · cases h
         · rename_i n2 h2
           obtain ⟨a1,a2,a3⟩:=(hgE_ok _).2 x (lv-1) (n+1) n1 (Nat.lt_succ_self _) h1
           obtain ⟨b1,b2,b3⟩:=ih.2 b (lv-1) n1 n2 (by simp at hs; omega) h2
           obtain ⟨c1,c2,c3⟩:=ih.2 e (lv-1) n2 n' (by simp at hs; omega) h
           refine ⟨by omega,by omega,?_⟩
           rw [Sm.nd,Ex.nds_eq,Sm.nds_eq,Sm.nds_eq,ShN]
           exact ShNs.of (by
             intro y hy
             simp at hy
             rcases hy with rfl | rfl | rfl | rfl | rfl | rfl
             · rw [ShN]; trivial
             · rw [ShN]; omega
             · rw [ShN]; exact a3
             · rw [ShN]; exact b3
             · rw [ShN]; exact c3
             · rw [ShN]; trivial)
   · cases l with
     | nil=>rw [hgSs] at h; cases h; exact ⟨Int.le_refl _,by omega,by rw [List.map_nil,ShNs]; trivial⟩
     | cons x r =>
       rw [hgSs] at h
       split at h
       · cases h
       · rename_i n1 h1
         obtain ⟨a1,a2,a3⟩:=ih.1 x lv n n1 (by simp at hs; omega) h1
         obtain ⟨b1,b2,b3⟩:=ih.2 r lv n1 n' (by simp at hs; omega) h
         exact ⟨by omega,by omega,by rw [List.map_cons,ShNs]; exact ⟨a3,b3⟩⟩
theorem names_ok {l:List (List Nat)} (h:¬ longF l=true):ShNs (l.map nmNd):=ShNs.of (by
 intro y hy
 obtain ⟨s,hs,rfl⟩:=List.mem_map.1 hy
 have:¬ 1000<s.length:=fun e=>h (List.any_eq_true.2 ⟨s,hs,by simpa using e⟩)
 unfold nmNd
 rw [ShN]
 exact ShNs.of (by
   intro z hz
   simp at hz
   subst hz
   rw [ShN]
   omega))
theorem hdN_ok {s:List Nat} {ps:List (List Nat)} {sz:Nat} {l:List Nd} {ln:Int} (hs:¬ 1000<s.length) (hp:¬ longF ps=true) (hl:ShNs l):ShN (.st [.str s,.row 1 (ps.map nmNd),.row sz l,.num .i64 ln]):=by
 rw [ShN]
 exact ShNs.of (by
   intro y hy
   simp at hy
   rcases hy with rfl | rfl | rfl | rfl
   · rw [ShN]; omega
   · rw [ShN]; exact names_ok hp
   · rw [ShN]; exact hl
   · rw [ShN]; trivial)
theorem hgB_ok {b:Bd} {lv:Nat} {n n':Int} (h:hgB many lv b n=some n'):n'≤many ∧ -9223372036854775808≤n'∧ShN b.nd:=by
 unfold hgB at h
 split at h
 · cases h
 · rename_i hh
   obtain ⟨a1,a2,a3⟩:=(hgS_ok _).2 b.st lv _ n' (Nat.lt_succ_self _) h
   have:=wi_lo (wi (n+1)+(b.ps.length:Int))
   have h4:¬ many<wi (wi (n+1)+(b.ps.length:Int)):=fun e=>hh (.inl e)
   exact ⟨by omega,by omega,hdN_ok (fun e=>hh (.inr (.inl e))) (fun e=>hh (.inr (.inr e))) a3⟩
theorem hgBs_ok:∀ {l:List Bd} {lv:Nat} {n n':Int},hgBs many lv l n=some n'→(n'=n∨n'≤many)∧(-9223372036854775808≤n → -9223372036854775808≤n')∧ShNs (l.map Bd.nd)
 | [],lv,n,n',h=>by
   rw [hgBs] at h
   cases h
   exact ⟨.inl rfl,fun h=>h,by rw [List.map_nil,ShNs]; trivial⟩
 | x :: r,lv,n,n',h=>by
   rw [hgBs] at h
   split at h
   · cases h
   · rename_i n1 h1
     obtain ⟨a1,a2,a3⟩:=hgB_ok h1
     obtain ⟨b1,b2,b3⟩:=hgBs_ok h
     exact ⟨by omega,fun _ => b2 a2,by rw [List.map_cons,ShNs]; exact ⟨a3,b3⟩⟩
theorem hgR_ok {b:Rl} {lv:Nat} {n n':Int} (h:hgR many lv b n=some n'):n'≤many ∧ -9223372036854775808≤n'∧ShN b.nd:=by
 unfold hgR at h
 split at h
 · cases h
 · rename_i hh
   obtain ⟨a1,a2,a3⟩:=hgBs_ok h
   have:=wi_lo (n+(b.ps.length:Int))
   have h4:¬ many<wi (n+(b.ps.length:Int)):=fun e=>hh (.inl e)
   exact ⟨by omega,a2 this.1,hdN_ok (fun e=>hh (.inr (.inl e))) (fun e=>hh (.inr (.inr e))) a3⟩
theorem hgRs_ok:∀ {l:List Rl} {lv:Nat} {n n':Int},hgRs many lv l n=some n'→(n'=n∨n'≤many)∧(-9223372036854775808≤n → -9223372036854775808≤n')∧ShNs (l.map Rl.nd)
 | [],lv,n,n',h=>by
   rw [hgRs] at h
   cases h
   exact ⟨.inl rfl,fun h=>h,by rw [List.map_nil,ShNs]; trivial⟩
 | x :: r,lv,n,n',h=>by
   rw [hgRs] at h
   split at h
   · cases h
   · rename_i n1 h1
     obtain ⟨a1,a2,a3⟩:=hgR_ok h1
     obtain ⟨b1,b2,b3⟩:=hgRs_ok h
     exact ⟨by omega,fun _ => b2 a2,by rw [List.map_cons,ShNs]; exact ⟨a3,b3⟩⟩
theorem hgP_ok {g:Pg} {lv:Nat} {n:Int} (h:hgP many lv g=some n):ShN g.nd:=by
 unfold hgP at h
 split at h
 · cases h
 · rename_i n1 h1
   split at h
   · cases h
   · rename_i n2 h2
     split at h
     · cases h
     · cases h
       obtain ⟨a1,a2,a3⟩:=hgBs_ok h1
       obtain ⟨b1,b2,b3⟩:=hgRs_ok h2
       unfold Pg.nd
       rw [ShN]
       exact ShNs.of (by
         intro y hy
         simp at hy
         rcases hy with rfl | rfl
         · rw [ShN]; exact a3
         · rw [ShN]; exact b3)
end
end Go.Proofs.YtcmopnkldplngabGreatDoor
namespace Go.Proofs.YtcmopnkldplngabGreatDoor
open Go.RowKit Go.Deep Go.ChangeShapes Go.WideShapes
set_option maxRecDepth 100000
set_option linter.unusedVariables false
theorem bytes_open (s:ByteArray):∃ l:List Nat,s=strOf l∧(∀ y∈l,y<256)∧l.length=s.size:=by
 refine ⟨s.data.toList.map UInt8.toNat,?_,?_,?_⟩
 · have e:(s.data.toList.map UInt8.toNat).map UInt8.ofNat=s.data.toList:=by
     rw [List.map_map]
     exact (List.map_congr_left (g:=id) fun x _ => by exact UInt8.ofNat_toNat).trans (List.map_id _)
   unfold strOf
   rw [e]
 · intro y hy
   obtain ⟨x, _,rfl⟩:=List.mem_map.1 hy
   exact x.toNat_lt
 · rw [List.length_map,Array.length_toList]
   rfl
section
variable {H:Type} {enc:TypeId × Value→H} {w:World} {held:Bool}
abbrev Sz (w:World):Nat→Prop:=fun b=>b<w.heap.size
theorem struct_cut {t:TypeId} {fs:Array Field} {fuel:Nat} {cs:List Value} {x:DataW H × List MemPlace} (hu:Tryz.prog.underlying t=some (.struct fs)) (hone:oneCellFields Tryz.prog fs=true) (hsz:Tryz.prog.cellsOf t=fs.size) (h:DataW.trod enc Tryz.prog w 0 (fun _ => true) held fuel t cs=some x) :
   cs.length=fs.size∧∃ n,n<fuel∧∀ (j:Nat) (f:Field) (c:Value),fs[j]?=some f→cs[j]?=some c→∃ y,DataW.trod enc Tryz.prog w 0 (fun _ => true) held n f.type [c]=some y:=by
 obtain ⟨ys,n,rfl,rfl,hlen,hyl,hfl⟩:=DataW.trod_struct hu h
 rw [hsz] at hlen
 refine ⟨hlen,n,by omega,fun j f c hj hc=>?_⟩
 obtain ⟨h1,h2⟩:=hone_of hone j f hj
 have:=hfl j f hj
 rw [h1,h2] at this
 have hjl:=(List.getElem?_eq_some_iff.1 hc).1
 have e:(cs.drop j).take 1=[c]:=by
   rw [List.drop_eq_getElem_cons hjl,List.take_succ_cons,List.take_zero,(List.getElem?_eq_some_iff.1 hc).2]
 rw [e] at this
 have hys:j<ys.length:=by rw [hyl,← hlen]; exact hjl
 exact ⟨_,this.trans (List.getElem?_eq_getElem hys)⟩
theorem rows_trod {α:Type} (nd:α→Nd) (G:α→Prop) (dflt:α) {E T:TypeId} {sz:Nat} (hT:Tryz.prog.underlying T=some (.slice E)) (hsz:Tryz.prog.cellsOf E=sz) (hpos:0<sz) (N:Nat)
   (ih:∀ n,n<N→∀ (cs:List Value) (x:DataW H × List MemPlace),DataW.trod enc Tryz.prog w 0 (fun _ => true) held n E cs=some x→∃ t:α,cs.length=sz∧Rw w (Sz w) (nd t) (.agg cs.toArray)∧G t)
   {fuel:Nat} (hf:fuel≤N) {c:Value} {y:DataW H × List MemPlace} (h:DataW.trod enc Tryz.prog w 0 (fun _ => true) held fuel T [c]=some y) :
   ∃ l:List α,Rw w (Sz w) (.row sz (l.map nd)) c∧∀ t∈l,G t:=by
 rcases DataW.trod_slice hT h with ⟨hc3, _⟩ | ⟨a,len,cap,elems,rest,n',rfl,hc3, _, _,hlc,hcm,hel0,hel, _⟩
 · simp only [List.cons.injEq,and_true] at hc3
   subst hc3
   exact ⟨[],Rw.nil sz,by simp⟩
 · simp only [List.cons.injEq,and_true] at hc3
   subst hc3
   rw [hsz] at hel
   have part:∀ i,∃ t:α,i<len→(∃ b o vs,some a=some (⟨b,o,none⟩:Addr)∧Sz w b∧vs.length=sz∧w.rangeAt b (o+i*sz) vs∧Rw w (Sz w) (nd t) (.agg vs.toArray))∧G t:=by
     intro i
     by_cases hi:i<len
     · have h:=hel i hi
       rw [List.getElem?_eq_getElem (by omega)] at h
       obtain ⟨cs,h1,h2⟩:=Option.bind_eq_some_iff.1 h
       obtain ⟨t,hl,ht,hg⟩:=ih n' (by omega) cs _ h2
       obtain ⟨_, _,hc⟩:=World.cells?_some h1
       obtain ⟨b,o,s⟩:=a
       have h0:=hc 0 hpos
       obtain ⟨v0,hv0⟩:∃ v0,cs[0]?=some v0:=⟨cs[0],by rw [List.getElem?_eq_getElem (by omega)]⟩
       rw [hv0] at h0
       have hs:s=none:=by
         have h:=hel 0 (by omega)
         rw [List.getElem?_eq_getElem (by omega)] at h
         obtain ⟨cs0,h1,h2⟩:=Option.bind_eq_some_iff.1 h
         obtain ⟨t0,hl0,ht0,-⟩:=ih n' (by omega) cs0 _ h2
         obtain ⟨_, _,hc⟩:=World.cells?_some h1
         have h00:=hc 0 hpos
         obtain ⟨u0,hu0⟩:∃ u0,cs0[0]?=some u0:=⟨cs0[0],by rw [List.getElem?_eq_getElem (by omega)]⟩
         rw [hu0,Nat.zero_mul] at h00
         exact World.cell?_spot h00
       subst hs
       rw [Addr.add_lit] at h0
       have hb:b<w.heap.size:=by
         have:=World.block_lt_of_cell? w _ h0
         rw [Addr.add_lit] at this
         exact this
       refine ⟨t,fun _ => ⟨⟨b,o,cs,rfl,hb,hl,fun j v hj=>?_,ht⟩,hg⟩⟩
       have hjl:=(List.getElem?_eq_some_iff.1 hj).1
       have:=hc j (by omega)
       rw [Addr.add_lit,Addr.add_lit] at this
       rw [this]
       exact hj
     · exact ⟨dflt,fun h=>absurd h hi⟩
   obtain ⟨f,hf⟩:=Classical.axiomOfChoice part
   refine ⟨(List.range len).map f,?_,?_⟩
   · rw [Rw]
     refine ⟨some a,cap,by simp,by simpa using hlc,hcm,Rws.of fun j x hx=>?_⟩
     have hj:j<len:=by
       have:=(List.getElem?_eq_some_iff.1 hx).1
       simpa using this
     have e:x=nd (f j):=by
       rw [List.getElem?_map,List.getElem?_map,List.getElem?_range hj] at hx
       simpa using hx.symm
     subst e
     obtain ⟨b,o,vs,h1,h2,h3,h4,h5⟩:=(hf j hj).1
     exact ⟨b,o,vs,h1,h2,h3,by rw [Nat.zero_add]; exact h4,h5⟩
   · intro t ht
     obtain ⟨i,hi,rfl⟩:=List.mem_map.1 ht
     exact (hf i (by simpa using hi)).2
theorem num_cut {k:IntKind} {t:TypeId} {n:Nat} {c:Value} {y:DataW H × List MemPlace} (hu:Tryz.prog.underlying t=some (.int k)) (h:DataW.trod enc Tryz.prog w 0 (fun _ => true) held n t [c]=some y):∃ m,c = .int k m∧(Lit.int k m).wf=true:=by
 obtain ⟨m,hm, _,wm⟩:=DataW.trod_int hu h
 simp only [List.cons.injEq,and_true] at hm
 exact ⟨m,hm,wm⟩
theorem str_cut {t:TypeId} {n:Nat} {c:Value} {y:DataW H × List MemPlace} (hu:Tryz.prog.underlying t=some .string) (h:DataW.trod enc Tryz.prog w 0 (fun _ => true) held n t [c]=some y):∃ l,c = .string (strOf l)∧(∀ y∈l,y<256)∧l.length≤9223372036854775807:=by
 obtain ⟨s,hs, _,ws⟩:=DataW.trod_string hu h
 simp only [List.cons.injEq,and_true] at hs
 subst hs
 obtain ⟨l,rfl,hl8,hll⟩:=bytes_open s
 unfold maxLen at ws
 exact ⟨l,rfl,hl8,by omega⟩
theorem expr_trod:∀ (N fuel:Nat),fuel≤N→∀ (cs:List Value) (x:DataW H × List MemPlace),DataW.trod enc Tryz.prog w 0 (fun _ => true) held fuel 276 cs=some x →
   ∃ t:Ex,cs.length=4∧Rw w (Sz w) t.nd (.agg cs.toArray)∧(Nb t∧B8 t):=by
 intro N
 induction N with
 | zero =>
   intro fuel hf cs x h
   obtain rfl:fuel=0:=by omega
   simp [DataW.trod] at h
 | succ N ih =>
   intro fuel hf cs x h
   obtain ⟨hl,n,hn,hc⟩:=struct_cut Tryz.underlying276 (by kernel_rfl) (by kernel_rfl) h
   obtain ⟨c0,c1,c2,c3,rfl⟩:∃ c0 c1 c2 c3,cs=[c0,c1,c2,c3]:=by
     match cs,hl with
     | [c0,c1,c2,c3], _ => exact ⟨_, _, _, _,rfl⟩
   obtain ⟨y0,h0⟩:=hc 0 _ c0 rfl rfl
   obtain ⟨y1,h1⟩:=hc 1 _ c1 rfl rfl
   obtain ⟨y2,h2⟩:=hc 2 _ c2 rfl rfl
   obtain ⟨y3,h3⟩:=hc 3 _ c3 rfl rfl
   obtain ⟨k,rfl,wk⟩:=num_cut Tryz.underlying274 h0
   obtain ⟨s,rfl,hs8,hsl⟩:=str_cut Tryz.underlying9 h1
   obtain ⟨m,rfl,wm⟩:=num_cut Tryz.underlying2 h2
   obtain ⟨k,rfl,hk8⟩:=wf_u8 wk
   obtain ⟨hm0,hm1⟩:=wf_i64 wm
   obtain ⟨l,hl,hg⟩:=rows_trod (sz:=4) Ex.nd (fun t=>Nb t∧B8 t) (.mk 0 [] 0 []) Tryz.underlying216 (by kernel_rfl) (by decide) N (fun n hn cs x h=>ih n (by omega) cs x h) (by omega) h3
   refine ⟨.mk k s m l,rfl,(Ex.rw k s m l _).2 ⟨_,rfl,hs8,hsl,hl⟩,?_,?_⟩
   · rw [Nb]
     exact ⟨by omega,NbsOf fun y hy=>(hg y hy).1⟩
   · rw [B8]
     exact ⟨hs8,B8s.of fun y hy=>(hg y hy).2⟩
theorem stmt_trod:∀ (N fuel:Nat),fuel≤N→∀ (cs:List Value) (x:DataW H × List MemPlace),DataW.trod enc Tryz.prog w 0 (fun _ => true) held fuel 218 cs=some x →
   ∃ t:Sm,cs.length=6∧Rw w (Sz w) t.nd (.agg cs.toArray)∧(NbS t∧B8S t):=by
 intro N
 induction N with
 | zero =>
   intro fuel hf cs x h
   obtain rfl:fuel=0:=by omega
   simp [DataW.trod] at h
 | succ N ih =>
   intro fuel hf cs x h
   obtain ⟨hl,n,hn,hc⟩:=struct_cut Tryz.underlying218 (by kernel_rfl) (by kernel_rfl) h
   obtain ⟨c0,c1,c2,c3,c4,c5,rfl⟩:∃ c0 c1 c2 c3 c4 c5,cs=[c0,c1,c2,c3,c4,c5]:=by
     match cs,hl with
     | [c0,c1,c2,c3,c4,c5], _ => exact ⟨_, _, _, _, _, _,rfl⟩
   obtain ⟨y0,h0⟩:=hc 0 _ c0 rfl rfl
   obtain ⟨y1,h1⟩:=hc 1 _ c1 rfl rfl
   obtain ⟨y2,h2⟩:=hc 2 _ c2 rfl rfl
   obtain ⟨y3,h3⟩:=hc 3 _ c3 rfl rfl
   obtain ⟨y4,h4⟩:=hc 4 _ c4 rfl rfl
   obtain ⟨y5,h5⟩:=hc 5 _ c5 rfl rfl
   obtain ⟨k,rfl,wk⟩:=num_cut Tryz.underlying215 h0
   obtain ⟨s,rfl,hs8,hsl⟩:=str_cut Tryz.underlying9 h1
   obtain ⟨m,rfl,wm⟩:=num_cut Tryz.underlying3 h5
   obtain ⟨k,rfl,hk8⟩:=wf_u8 wk
   obtain ⟨l,hl,hg⟩:=rows_trod (sz:=4) Ex.nd (fun t=>Nb t∧B8 t) (.mk 0 [] 0 []) Tryz.underlying216 (by kernel_rfl) (by decide) n (fun n hn cs x h=>expr_trod n n (Nat.le_refl _) cs x h) (Nat.le_refl _) h2
   obtain ⟨l2,hl2,hg2⟩:=rows_trod (sz:=6) Sm.nd (fun t=>NbS t∧B8S t) (.mk 0 [] [] [] [] 0) Tryz.underlying85 (by kernel_rfl) (by decide) N (fun n hn cs x h=>ih n (by omega) cs x h) (by omega) h3
   obtain ⟨l3,hl3,hg3⟩:=rows_trod (sz:=6) Sm.nd (fun t=>NbS t∧B8S t) (.mk 0 [] [] [] [] 0) Tryz.underlying85 (by kernel_rfl) (by decide) N (fun n hn cs x h=>ih n (by omega) cs x h) (by omega) h4
   refine ⟨.mk k s l l2 l3 m,rfl,(Sm.rw k s l l2 l3 m _).2 ⟨_, _, _,rfl,hs8,hsl,hl,hl2,hl3⟩,?_,?_⟩
   · rw [NbS]
     exact ⟨NbsOf fun y hy=>(hg y hy).1,NbSsOf fun y hy=>(hg2 y hy).1,NbSsOf fun y hy=>(hg3 y hy).1⟩
   · rw [B8S]
     exact ⟨B8s.of fun y hy=>(hg y hy).2,B8Ss.of fun y hy=>(hg2 y hy).2,B8Ss.of fun y hy=>(hg3 y hy).2⟩
theorem names_trod {fuel:Nat} {c:Value} {y:DataW H × List MemPlace} (h:DataW.trod enc Tryz.prog w 0 (fun _ => true) held fuel 29 [c]=some y):∃ l:List (List Nat),Rw w (Sz w) (.row 1 (l.map nmNd)) c:=by
 obtain ⟨l,hl,-⟩:=rows_trod (sz:=1) nmNd (fun _ => True) [] Tryz.underlying29 (by kernel_rfl) (by decide) fuel (fun n hn cs x h=>by
   obtain ⟨s,hs, _,ws⟩:=DataW.trod_string Tryz.underlying9 h
   obtain ⟨l,rfl,hl8,hll⟩:=bytes_open s
   unfold maxLen at ws
   subst hs
   exact ⟨l,rfl,(nm_rw l _).2 ⟨rfl,hl8,by omega⟩,trivial⟩) (Nat.le_refl _) h
 exact ⟨l,hl⟩
theorem body_trod (fuel:Nat) (cs:List Value) (x:DataW H × List MemPlace) (h:DataW.trod enc Tryz.prog w 0 (fun _ => true) held fuel 87 cs=some x) :
   ∃ t:Bd,cs.length=4∧Rw w (Sz w) t.nd (.agg cs.toArray)∧(NbSs t.st∧B8Ss t.st):=by
 obtain ⟨hl,n,hn,hc⟩:=struct_cut Tryz.underlying87 (by kernel_rfl) (by kernel_rfl) h
 obtain ⟨c0,c1,c2,c3,rfl⟩:∃ c0 c1 c2 c3,cs=[c0,c1,c2,c3]:=by
   match cs,hl with
   | [c0,c1,c2,c3], _ => exact ⟨_, _, _, _,rfl⟩
 obtain ⟨y0,h0⟩:=hc 0 _ c0 rfl rfl
 obtain ⟨y1,h1⟩:=hc 1 _ c1 rfl rfl
 obtain ⟨y2,h2⟩:=hc 2 _ c2 rfl rfl
 obtain ⟨y3,h3⟩:=hc 3 _ c3 rfl rfl
 obtain ⟨s,rfl,hs8,hsl⟩:=str_cut Tryz.underlying9 h0
 obtain ⟨m,rfl,wm⟩:=num_cut Tryz.underlying3 h3
 obtain ⟨ps,hps⟩:=names_trod h1
 obtain ⟨l2,hl2,hg2⟩:=rows_trod (sz:=6) Sm.nd (fun t=>NbS t∧B8S t) (.mk 0 [] [] [] [] 0) Tryz.underlying85 (by kernel_rfl) (by decide) n (fun n hn cs x h=>stmt_trod n n (Nat.le_refl _) cs x h) (Nat.le_refl _) h2
 exact ⟨⟨s,ps,l2,m⟩,rfl,(hd_rw s ps 6 (l2.map Sm.nd) m _).2 ⟨_, _,rfl,hs8,hsl,hps,hl2⟩,NbSsOf fun y hy=>(hg2 y hy).1,B8Ss.of fun y hy=>(hg2 y hy).2⟩
theorem role_trod (fuel:Nat) (cs:List Value) (x:DataW H × List MemPlace) (h:DataW.trod enc Tryz.prog w 0 (fun _ => true) held fuel 90 cs=some x) :
   ∃ t:Rl,cs.length=4∧Rw w (Sz w) t.nd (.agg cs.toArray)∧∀ b∈t.on,(NbSs b.st∧B8Ss b.st):=by
 obtain ⟨hl,n,hn,hc⟩:=struct_cut Tryz.underlying90 (by kernel_rfl) (by kernel_rfl) h
 obtain ⟨c0,c1,c2,c3,rfl⟩:∃ c0 c1 c2 c3,cs=[c0,c1,c2,c3]:=by
   match cs,hl with
   | [c0,c1,c2,c3], _ => exact ⟨_, _, _, _,rfl⟩
 obtain ⟨y0,h0⟩:=hc 0 _ c0 rfl rfl
 obtain ⟨y1,h1⟩:=hc 1 _ c1 rfl rfl
 obtain ⟨y2,h2⟩:=hc 2 _ c2 rfl rfl
 obtain ⟨y3,h3⟩:=hc 3 _ c3 rfl rfl
 obtain ⟨s,rfl,hs8,hsl⟩:=str_cut Tryz.underlying9 h0
 obtain ⟨m,rfl,wm⟩:=num_cut Tryz.underlying3 h3
 obtain ⟨ps,hps⟩:=names_trod h1
 obtain ⟨l2,hl2,hg2⟩:=rows_trod (sz:=4) Bd.nd (fun b=>NbSs b.st∧B8Ss b.st) ⟨[],[],[],0⟩ Tryz.underlying22 (by kernel_rfl) (by decide) n (fun n hn cs x h=>body_trod n cs x h) (Nat.le_refl _) h2
 exact ⟨⟨s,ps,l2,m⟩,rfl,(hd_rw s ps 4 (l2.map Bd.nd) m _).2 ⟨_, _,rfl,hs8,hsl,hps,hl2⟩,hg2⟩
theorem prog_open {r:Reach} {b0:Nat} {v:Value} {d:DataW H} {p:List MemPlace} (hv:Value.okWide Tryz.prog w r b0 25 v) (h:DataW.Trod enc Tryz.prog w 0 (fun _ => true) held 25 v d p) :
   ∃ g:Pg,Rw w (Sz w) g.nd v∧NbP g∧B8P g:=by
 obtain ⟨cs,rfl,hsz⟩:=okWide_struct Tryz.underlying25 hv
 rw [show Tryz.prog.cellsOf 25=2 by kernel_rfl] at hsz
 obtain ⟨c0,c1,rfl⟩:∃ c0 c1,cs=#[c0,c1]:=by
   match cs,hsz with
   | ⟨[c0,c1]⟩, _ => exact ⟨_, _,rfl⟩
 obtain ⟨fuel,hf⟩:=h
 have hcs:(Value.agg #[c0,c1]).cells.toList=[c0,c1]:=rfl
 rw [hcs] at hf
 obtain ⟨hl,n,hn,hc⟩:=struct_cut Tryz.underlying25 (by kernel_rfl) (by kernel_rfl) hf
 obtain ⟨y0,h0⟩:=hc 0 _ c0 rfl rfl
 obtain ⟨y1,h1⟩:=hc 1 _ c1 rfl rfl
 obtain ⟨l2,hl2,hg2⟩:=rows_trod (sz:=4) Bd.nd (fun b=>NbSs b.st∧B8Ss b.st) ⟨[],[],[],0⟩ Tryz.underlying22 (by kernel_rfl) (by decide) n (fun n hn cs x h=>body_trod n cs x h) (Nat.le_refl _) h0
 obtain ⟨l3,hl3,hg3⟩:=rows_trod (sz:=4) Rl.nd (fun r=>∀ b∈r.on,(NbSs b.st∧B8Ss b.st)) ⟨[],[],[],0⟩ Tryz.underlying23 (by kernel_rfl) (by decide) n (fun n hn cs x h=>role_trod n cs x h) (Nat.le_refl _) h1
 exact ⟨⟨l2,l3⟩,(Pg.rw ⟨l2,l3⟩ _).2 ⟨_, _,rfl,hl2,hl3⟩,⟨fun b hb=>(hg2 b hb).1,fun r hr b hb=>(hg3 r hr b hb).1⟩,⟨fun b hb=>(hg2 b hb).2,fun r hr b hb=>(hg3 r hr b hb).2⟩⟩
end
end Go.Proofs.YtcmopnkldplngabGreatDoor
