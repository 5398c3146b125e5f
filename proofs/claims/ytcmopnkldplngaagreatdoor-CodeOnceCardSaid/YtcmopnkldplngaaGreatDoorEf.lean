/- The constants of a module: of numbers and truths without a text,of texts without a number; what holds of all texts of a program holds of its constants and tags. Plain mathematics. -/
import Derived.Test.YtcmopnkldplngaaGreatDoorCae
namespace Go.Proofs.YtcmopnkldplngaaGreatDoor
set_option linter.unusedVariables false
def CstKt (c:Cst):Prop:=(c.k=1∧c.s=[])∨(c.k=2∧c.s=[])∨(c.k=3∧c.n=0)
section
variable {P:List Nat→Prop}
mutual
def PE (P:List Nat→Prop):Ex→Prop
 | .mk _ s _ l=>P s∧PEs P l
def PEs (P:List Nat→Prop):List Ex→Prop
 | []=>True
 | x :: r=>PE P x∧PEs P r
end
mutual
def PSm (P:List Nat→Prop):Sm→Prop
 | .mk _ s x b e _ => P s∧PEs P x∧PSms P b∧PSms P e
def PSms (P:List Nat→Prop):List Sm→Prop
 | []=>True
 | x :: r=>PSm P x∧PSms P r
end
theorem PEs.of:∀ {l:List Ex},(∀ x∈l,PE P x)→PEs P l
 | [], _ => by rw [PEs]; trivial
 | x :: r,h=>by
  rw [PEs]
  exact ⟨h x (List.mem_cons_self ..),PEs.of fun y hy=>h y (List.mem_cons_of_mem _ hy)⟩
theorem PSms.of:∀ {l:List Sm},(∀ x∈l,PSm P x)→PSms P l
 | [], _ => by rw [PSms]; trivial
 | x :: r,h=>by
  rw [PSms]
  exact ⟨h x (List.mem_cons_self ..),PSms.of fun y hy=>h y (List.mem_cons_of_mem _ hy)⟩
structure WP (P:List Nat→Prop) (w:Ws):Prop where
 n:P []
 c:∀ c∈w.cs,CstKt c∧P c.s
 t:∀ t∈w.ts,P t
theorem plc_all {α:Type} [DecidableEq α] {Q:α→Prop} {l:List α} {x:α} (h:∀ y∈l,Q y) (hx:Q x):∀ y∈plcL x l,Q y:=by
 unfold plcL
 split
 · exact h
 · intro c hc
   rcases List.mem_append.1 hc with hc | hc
   · exact h c hc
   · rw [List.mem_singleton.1 hc]; exact hx
theorem WP.same {w w':Ws} (h:WP P w) (h1:w'.cs=w.cs) (h2:w'.ts=w.ts):WP P w':=⟨h.n,by rw [h1]; exact h.c,by rw [h2]; exact h.t⟩
theorem WP.cst {w:Ws} (h:WP P w) (c:Cst) (hc:CstKt c∧P c.s):WP P (w.cst c):=⟨h.n,plc_all h.c hc,h.t⟩
theorem WP.tag {w:Ws} (h:WP P w) (s:List Nat) (b:Int) (hs:P s):WP P (w.tag s b):=⟨h.n,h.c,plc_all h.t hs⟩
section
variable {E:Env}
theorem exO_kt (w:Ws) (k:Nat) (s:List Nat) (n:Int) (m:Nat) (h:WP P w) (hs:P s):WP P (exO E w k s n m):=by
 unfold exO
 by_cases h1:k=1
 · rw [if_pos h1]
   exact h.cst _ ⟨.inl ⟨rfl,rfl⟩,h.n⟩
 · rw [if_neg h1]
   by_cases h2:k=2
   · rw [if_pos h2]
     exact h.cst _ ⟨.inr (.inl ⟨rfl,rfl⟩),h.n⟩
   · rw [if_neg h2]
     by_cases h3:k=3
     · rw [if_pos h3]
       exact h.cst _ ⟨.inr (.inr ⟨rfl,rfl⟩),hs⟩
     · rw [if_neg h3]
       repeat' split
       all_goals exact h.same rfl rfl
mutual
theorem exW_kt:∀ (x:Ex) (w:Ws),WP P w→PE P x→WP P (exW E w x)
 | .mk k s n l,w,h,hx=>by
  rw [PE] at hx
  rw [exW]
  split
  · exact skW_kt (opSkip s) l w h hx.2
  · exact exO_kt _ k s n _ (exsW_kt l w h hx.2) hx.1
theorem exsW_kt:∀ (l:List Ex) (w:Ws),WP P w→PEs P l→WP P (exsW E w l)
 | [],w,h, _ => by rw [exsW]; exact h
 | x :: r,w,h,hx=>by
  rw [PEs] at hx
  rw [exsW]
  exact exsW_kt r _ (exW_kt x w h hx.1) hx.2
theorem skW_kt (o:Nat):∀ (l:List Ex) (w:Ws),WP P w→PEs P l→WP P (skW E o w l)
 | [],w,h, _ => by rw [skW]; exact h
 | x :: r,w,h,hx=>by
  rw [PEs] at hx
  rw [skW]
  exact sk2_kt _ r _ ((exW_kt x w h hx.1).same rfl rfl) hx.2
theorem sk2_kt (p:Nat):∀ (l:List Ex) (w:Ws),WP P w→PEs P l→WP P (sk2 E p w l)
 | [],w,h, _ => by rw [sk2]; exact h.same rfl rfl
 | x :: r,w,h,hx=>by
  rw [PEs] at hx
  rw [sk2]
  exact (exW_kt x w h hx.1).same rfl rfl
end
mutual
theorem smW_kt:∀ (x:Sm) (w:Ws),WP P w→PSm P x→WP P (smW E w x)
 | .mk k s x b e ln,w,h,hx=>by
  rw [PSm] at hx
  obtain ⟨hs,hx,hb,he⟩:=hx
  have h0:=exsW_kt (E:=E) x w h hx
  have h1:=smsW_kt b (exsW E w x).sc.length ((exsW E w x).put 28 0 0) (h0.same rfl rfl) hb
  have h2:=smsW_kt e (exsW E w x).sc.length (((smsW E (exsW E w x).sc.length ((exsW E w x).put 28 0 0) b).put 27 0 0).lay (exsW E w x).code.length) (h1.same rfl rfl) he
  rw [smW]
  by_cases h6:k=6
  · subst h6
    rw [if_neg (by omega),if_neg (by omega),if_neg (by omega),if_neg (by omega),if_neg (by omega),if_pos rfl]
    exact h0.tag s _ hs
  · rw [if_neg h6]
    repeat' split
    all_goals first | exact h2.same rfl rfl | exact h1.same rfl rfl | exact h0.same rfl rfl
theorem smsW_kt:∀ (l:List Sm) (m:Nat) (w:Ws),WP P w→PSms P l→WP P (smsW E m w l)
 | [],m,w,h, _ => by rw [smsW]; exact h.same rfl rfl
 | x :: r,m,w,h,hx=>by
  rw [PSms] at hx
  rw [smsW]
  exact smsW_kt r m _ (smW_kt x w h hx.1) hx.2
end
structure MP (P:List Nat→Prop) (cs:List Cst) (ts:Tss):Prop where
 n:P []
 c:∀ c∈cs,CstKt c∧P c.s
 t:∀ t∈ts,P t
theorem bdW_kt {cs:List Cst} {ts st:Tss} {b:Bd} (h:MP P cs ts) (hb:PSms P b.st):WP P (bdW E cs ts st b):=by
 unfold bdW
 refine smsW_kt _ _ _ ?_ hb
 obtain ⟨a1,a2,-⟩:=lets_same b.ps (lets ⟨cs,ts,[],0,[]⟩ st)
 obtain ⟨c1,c2,-⟩:=lets_same st ⟨cs,ts,[],0,[]⟩
 exact ⟨h.n,by rw [a1,c1]; exact h.c,by rw [a2,c2]; exact h.t⟩
theorem fold_kt:∀ (l:List Bd) (m:Mk),MP P m.cs m.ts→(∀ b∈l,PSms P b.st)→MP P (l.foldl (Mk.fn E) m).cs (l.foldl (Mk.fn E) m).ts
 | [],m,h, _ => h
 | b :: r,m,h,hb=>by
  rw [List.foldl_cons]
  have h1:=(bdW_kt (E:=E) (st:=[]) h (hb b (List.mem_cons_self ..))).cst ⟨1,0,[]⟩ ⟨.inl ⟨rfl,rfl⟩,h.n⟩
  exact fold_kt r (m.fn E b) ⟨h.n,h1.c,h1.t⟩ (fun x hx=>hb x (List.mem_cons_of_mem _ hx))
theorem ons_kt {st:Tss}:∀ (l:List Bd) (m:Mk),MP P m.cs m.ts→(∀ b∈l,PSms P b.st)→MP P (onsM E st m l).cs (onsM E st m l).ts
 | [],m,h, _ => h
 | b :: r,m,h,hb=>by
  have h1:=bdW_kt (E:=E) (st:=st) h (hb b (List.mem_cons_self ..))
  exact ons_kt r (m.on E st b) ⟨h.n,h1.c,h1.t⟩ (fun x hx=>hb x (List.mem_cons_of_mem _ hx))
theorem roles_kt:∀ (l:List Rl) (m:Mk),MP P m.cs m.ts→(∀ r∈l,∀ b∈r.on,PSms P b.st)→MP P (rolesM E m l).cs (rolesM E m l).ts
 | [],m,h, _ => by rw [rolesM]; exact h
 | r :: l,m,h,hb=>by
  rw [rolesM]
  exact roles_kt l _ (ons_kt _ _ h (hb r (List.mem_cons_self ..))) (fun x hx=>hb x (List.mem_cons_of_mem _ hx))
theorem comp_kt (g:Pg) (hP:P []) (h1:∀ b∈g.fns,PSms P b.st) (h2:∀ r∈g.roles,∀ b∈r.on,PSms P b.st):(∀ c∈(compG g).cs,CstKt c∧P c.s)∧∀ t∈(compG g).ts,P t :=
 have h:=roles_kt (E:=envP g) g.roles _ (fold_kt (E:=envP g) g.fns ⟨[],[],[]⟩ (show MP P [] [] from ⟨hP,by simp,by simp⟩) h1) h2
 ⟨h.c,h.t⟩
end
end
end Go.Proofs.YtcmopnkldplngaaGreatDoor
