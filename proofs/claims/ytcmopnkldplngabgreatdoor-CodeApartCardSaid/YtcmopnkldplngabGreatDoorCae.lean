/- Texts Ca,Cb,Cc,Cd,Co,Ce,Ea of this seat in one: see each part. -/
import Derived.Test.YtcmopnkldplngabGreatDoorTa
import Derived.Test.YtcmopnkldplngabGreatDoorKaf
namespace Go.Proofs.YtcmopnkldplngabGreatDoor
set_option linter.unusedVariables false
structure Cst where
 k:Nat
 n:Int
 s:List Nat
deriving DecidableEq
structure In3 where
 op:Nat
 a:Int
 b:Int
deriving DecidableEq
abbrev Tss:=List (List Nat)
def idxO {α:Type} [DecidableEq α] (x:α):List α→Option Nat
 | []=>none
 | y :: r=>if y=x then some 0 else (idxO x r).map (·+1)
def idxI {α:Type} [DecidableEq α] (x:α) (l:List α):Int:=match idxO x l with
 | some i=>(i:Int)
 | none => -1
def plcI {α:Type} [DecidableEq α] (x:α) (l:List α):Nat:=match idxO x l with
 | some i=>i
 | none=>l.length
def plcL {α:Type} [DecidableEq α] (x:α) (l:List α):List α:=match idxO x l with
 | some _ => l
 | none=>l ++ [x]
def locF (s:List Nat) (l:Tss):Nat × Nat:=l.foldl (fun a t=>(if t=s then a.2 else a.1,a.2+1)) (0,0)
def locL (s:List Nat) (l:Tss):Nat:=(locF s l).1
theorem locF_len (s:List Nat) (l:Tss):(locF s l).2=l.length:=by
 have key:∀ (l:Tss) (a:Nat × Nat),(l.foldl (fun a t=>(if t=s then a.2 else a.1,a.2+1)) a).2=a.2+l.length:=by
   intro l
   induction l with
   | nil=>intro a; rfl
   | cons t r ih=>intro a; rw [List.foldl_cons,ih]; simp; omega
 unfold locF
 rw [key]
 simp
theorem locL_snoc (s t:List Nat) (l:Tss):locL s (l ++ [t])=if t=s then l.length else locL s l:=by
 unfold locL
 rw [← locF_len s l]
 unfold locF
 rw [List.foldl_append]
 rfl
theorem idxO_lt {α:Type} [DecidableEq α] {x:α}:∀ {l:List α} {i:Nat},idxO x l=some i→i<l.length
 | [],i,h=>by simp [idxO] at h
 | y :: r,i,h=>by
   rw [idxO] at h
   split at h
   · cases h; simp
   · cases hr:idxO x r with
     | none=>rw [hr] at h; cases h
     | some j =>
       rw [hr] at h
       cases h
       have:=idxO_lt hr
       simp
       exact this
theorem idxO_none {α:Type} [DecidableEq α] {x:α}:∀ {l:List α},idxO x l=none ↔ x ∉ l
 | []=>by simp [idxO]
 | y :: r=>by
   rw [idxO]
   split
   · rename_i h; simp [h]
   · rename_i h
     rw [Option.map_eq_none_iff,idxO_none,List.mem_cons]
     exact ⟨fun hr=>fun hh=>hh.elim (fun e=>h e.symm) hr,fun hh=>fun hr=>hh (.inr hr)⟩
structure Env where
 fns:Tss
 roles:Tss
structure Ws where
 cs:List Cst
 ts:Tss
 code:List In3
 vars:Nat
 sc:Tss
def opOne (s:List Nat):Nat:=if s=[45] then 9 else if s=[33] then 10 else 0
def opTwo (s:List Nat):Nat :=
 if s=[61,61] then 11 else if s=[33,61] then 12 else if s=[60] then 13 else if s=[60,61] then 14 else if s=[62] then 15 else if s=[62,61] then 16
 else if s=[43] then 4 else if s=[45] then 5 else if s=[42] then 6 else if s=[47] then 7 else if s=[37] then 8 else if s=[43,43] then 17 else 0
def opSkip (s:List Nat):Nat:=if s=[38,38] then 29 else if s=[124,124] then 30 else 0
def Ws.put (w:Ws) (o:Nat) (a b:Int):Ws:={ w with code:=w.code ++ [⟨o,a,b⟩] }
def Ws.lay (w:Ws) (p:Nat):Ws:={ w with code:=w.code.modify p (fun i=>{ i with a:=(w.code.length:Int) }) }
def Ws.cst (w:Ws) (c:Cst):Ws:={ w with cs:=plcL c w.cs,code:=w.code ++ [⟨1,(plcI c w.cs:Int),0⟩] }
def Ws.tag (w:Ws) (s:List Nat) (b:Int):Ws:={ w with ts:=plcL s w.ts,code:=w.code ++ [⟨24,(plcI s w.ts:Int),b⟩] }
def Ws.let_ (w:Ws) (s:List Nat):Ws:={ w with sc:=w.sc ++ [s],vars:=max w.vars (w.sc.length+1) }
def exO (E:Env) (w:Ws) (k:Nat) (s:List Nat) (n:Int) (kids:Nat):Ws :=
 if k=1 then w.cst ⟨1,n,[]⟩
 else if k=2 then w.cst ⟨2,n,[]⟩
 else if k=3 then w.cst ⟨3,0,s⟩
 else if k=4 then w.put 2 (idxI s w.sc) 0
 else if k=5 then w.put 21 0 0
 else if k=6 then w.put 20 (kids:Int) 0
 else if k=7 then w.put (if kids=1 then opOne s else opTwo s) 0 0
 else if k=8 then w.put 18 0 0
 else if k=9 then w.put 19 0 0
 else if k=10 then w.put 22 (locL s E.fns:Int) 0
 else if k=11 then w.put 23 (locL s E.roles:Int) 0
 else w
mutual
def exW (E:Env) (w:Ws):Ex→Ws
 | .mk k s n l=>if k=7∧opSkip s≠0 then skW E (opSkip s) w l else exO E (exsW E w l) k s n l.length
def exsW (E:Env) (w:Ws):List Ex→Ws
 | []=>w
 | x :: r=>exsW E (exW E w x) r
def skW (E:Env) (o:Nat) (w:Ws):List Ex→Ws
 | []=>w
 | x :: r=>sk2 E (exW E w x).code.length ((exW E w x).put o 0 0) r
def sk2 (E:Env) (p:Nat) (w:Ws):List Ex→Ws
 | []=>w.lay p
 | x :: _ => ((exW E w x).put 31 0 0).lay p
end
mutual
def smW (E:Env) (w:Ws):Sm→Ws
 | .mk k s x b e _ =>
   if k=1 then ((exsW E w x).let_ s).put 3 ((exsW E w x).sc.length:Int) 0
   else if k=2 then (exsW E w x).put 3 (idxI s (exsW E w x).sc) 0
   else if k=3 then
     if e=[] then (smsW E (exsW E w x).sc.length ((exsW E w x).put 28 0 0) b).lay (exsW E w x).code.length
     else (smsW E (exsW E w x).sc.length (((smsW E (exsW E w x).sc.length ((exsW E w x).put 28 0 0) b).put 27 0 0).lay (exsW E w x).code.length) e).lay (smsW E (exsW E w x).sc.length ((exsW E w x).put 28 0 0) b).code.length
   else if k=4 then ((smsW E (exsW E w x).sc.length ((exsW E w x).put 28 0 0) b).put 27 (w.code.length:Int) 0).lay (exsW E w x).code.length
   else if k=5 then (exsW E w x).put 33 0 0
   else if k=6 then (exsW E w x).tag s ((x.length:Int)-1)
   else if k=7 then (exsW E w x).put 25 (locL s E.roles:Int) 0
   else if k=8 then (exsW E w x).put 26 0 0
   else if k=9 then (exsW E w x).put 32 0 0
   else exsW E w x
def smsW (E:Env) (m:Nat) (w:Ws):List Sm→Ws
 | []=>{ w with sc:=w.sc.take m }
 | x :: r=>smsW E m (smW E w x) r
end
structure Fnc where
 name:List Nat
 params:Nat
 vars:Nat
 code:List In3
structure Onn where
 tag:List Nat
 params:Nat
 fn:Nat
structure Prt where
 name:List Nat
 params:Nat
 on:List Onn
structure Md where
 cs:List Cst
 ts:Tss
 fns:List Fnc
 roles:List Prt
def lets (w:Ws) (l:Tss):Ws:=l.foldl Ws.let_ w
def bdW (E:Env) (cs:List Cst) (ts:Tss) (state:Tss) (b:Bd):Ws :=
 smsW E (state ++ b.ps).length (lets (lets ⟨cs,ts,[],0,[]⟩ state) b.ps) b.st
def fnE (w:Ws):Ws:=(w.cst ⟨1,0,[]⟩).put 33 0 0
def rlE (w:Ws):Ws:=w.put 34 0 0
def Ws.fnc (w:Ws) (b:Bd) (p:Nat):Fnc:=⟨b.name,p,w.vars,w.code⟩
structure Mk where
 cs:List Cst
 ts:Tss
 fns:List Fnc
def Mk.fn (E:Env) (m:Mk) (b:Bd):Mk :=
 ⟨(fnE (bdW E m.cs m.ts [] b)).cs,(fnE (bdW E m.cs m.ts [] b)).ts,m.fns ++ [(fnE (bdW E m.cs m.ts [] b)).fnc b b.ps.length]⟩
def Mk.on (E:Env) (state:Tss) (m:Mk) (b:Bd):Mk :=
 ⟨(rlE (bdW E m.cs m.ts state b)).cs,(rlE (bdW E m.cs m.ts state b)).ts,m.fns ++ [(rlE (bdW E m.cs m.ts state b)).fnc b (state.length+b.ps.length)]⟩
def onsM (E:Env) (state:Tss) (m:Mk) (l:List Bd):Mk:=l.foldl (Mk.on E state) m
def onsP:Nat→List Bd→List Onn
 | _,[]=>[]
 | i,b :: r=>⟨b.name,b.ps.length,i⟩ :: onsP (i+1) r
def rolesM (E:Env):Mk→List Rl→Mk
 | m,[]=>m
 | m,r :: l=>rolesM E (onsM E r.ps m r.on) l
def rolesP:Nat→List Rl→List Prt
 | _,[]=>[]
 | i,r :: l=>⟨r.name,r.ps.length,onsP i r.on⟩ :: rolesP (i+r.on.length) l
def envP (g:Pg):Env:=⟨g.fns.map Bd.name,g.roles.map Rl.name⟩
def mkP (g:Pg):Mk:=rolesM (envP g) (g.fns.foldl (Mk.fn (envP g)) ⟨[],[],[]⟩) g.roles
def compG (g:Pg):Md:=⟨(mkP g).cs,(mkP g).ts,(mkP g).fns,rolesP g.fns.length g.roles⟩
/-! How much is written. -/
mutual
def exN:Ex→Nat
 | .mk k s _ l=>exsN l+1+(if k=7∧opSkip s≠0 then 1 else 0)
def exsN:List Ex→Nat
 | []=>0
 | x :: r=>exN x+exsN r
end
mutual
def smN:Sm→Nat
 | .mk k _ x b e _ => exsN x+1+smsN b+smsN e+(if k=4∨k=3∧e≠[] then 1 else 0)
def smsN:List Sm→Nat
 | []=>0
 | x :: r=>smN x+smsN r
end
theorem lay_len (w:Ws) (p:Nat):(w.lay p).code.length=w.code.length:=by simp [Ws.lay]
theorem put_len (w:Ws) (o:Nat) (a b:Int):(w.put o a b).code.length=w.code.length+1:=by simp [Ws.put]
theorem cst_len (w:Ws) (c:Cst):(w.cst c).code.length=w.code.length+1:=by simp [Ws.cst]
theorem tag_len (w:Ws) (c:List Nat) (b:Int):(w.tag c b).code.length=w.code.length+1:=by simp [Ws.tag]
theorem exO_len (E:Env) (w:Ws) (k:Nat) (s:List Nat) (n:Int) (kids:Nat):(exO E w k s n kids).code.length≤w.code.length+1:=by
 unfold exO
 repeat' split
 all_goals first | (rw [cst_len]; omega) | (rw [put_len]; omega) | omega
mutual
theorem exW_len (E:Env) (w:Ws):∀ x:Ex,(exW E w x).code.length≤w.code.length+exN x
 | .mk k s n l=>by
   rw [exW,exN]
   split
   · have:=skW_len E (opSkip s) w l
     omega
   · have:=exO_len E (exsW E w l) k s n l.length
     have:=exsW_len E w l
     omega
theorem exsW_len (E:Env) (w:Ws):∀ l:List Ex,(exsW E w l).code.length≤w.code.length+exsN l
 | []=>by rw [exsW,exsN]; omega
 | x :: r=>by
   rw [exsW,exsN]
   have:=exW_len E w x
   have:=exsW_len E (exW E w x) r
   omega
theorem skW_len (E:Env) (o:Nat) (w:Ws):∀ l:List Ex,(skW E o w l).code.length≤w.code.length+exsN l+2
 | []=>by rw [skW,exsN]; omega
 | x :: r=>by
   rw [skW,exsN]
   have:=exW_len E w x
   have h2:=sk2_len E (exW E w x).code.length ((exW E w x).put o 0 0) r
   rw [put_len] at h2
   omega
theorem sk2_len (E:Env) (p:Nat) (w:Ws):∀ l:List Ex,(sk2 E p w l).code.length≤w.code.length+exsN l+1
 | []=>by rw [sk2,exsN,lay_len]; omega
 | x :: r=>by
   rw [sk2,exsN,lay_len,put_len]
   have:=exW_len E w x
   omega
end
end Go.Proofs.YtcmopnkldplngabGreatDoor
namespace Go.Proofs.YtcmopnkldplngabGreatDoor
set_option linter.unusedVariables false
theorem opSkip_cases (s:List Nat):(s=[38,38]∧opSkip s=29)∨(s=[124,124]∧opSkip s=30)∨(s≠[38,38]∧s≠[124,124]∧opSkip s=0):=by
 unfold opSkip
 by_cases h:s=[38,38]
 · exact .inl ⟨h,if_pos h⟩
 · by_cases h2:s=[124,124]
   · exact .inr (.inl ⟨h2,by rw [if_neg h,if_pos h2]⟩)
   · exact .inr (.inr ⟨h,h2,by rw [if_neg h,if_neg h2]⟩)
theorem rightX_kin {k:Nat} {s:List Nat} {n:Int} {c:Nat} (h:rightX k s n c=true):1≤k∧k≤11:=by
 have:k=1∨k=2∨k=3∨k=4∨k=5∨k=6∨k=7∨k=8∨k=9∨k=10∨k=11:=by
   refine Classical.byContradiction fun hn=>?_
   unfold rightX at h
   rw [if_neg (show ¬ k=1 by omega),if_neg (show ¬ k=2 by omega)] at h
   split at h
   · cases h
   · rw [if_neg (show ¬ k=3 by omega),if_neg (show ¬ k=4 by omega),if_neg (show ¬ k=5 by omega),if_neg (show ¬ k=6 by omega),if_neg (show ¬ k=7 by omega),if_neg (show ¬ k=8 by omega),if_neg (show ¬ k=9 by omega),if_neg (show ¬ (k=10∨k=11) by omega)] at h
     cases h
 omega
theorem rightX_op {s:List Nat} {n:Int} {c:Nat} (h:rightX 7 s n c=true):isOpF s c=true:=by
 unfold rightX at h
 rw [if_neg (show ¬ (7:Nat)=1 by omega),if_neg (show ¬ (7:Nat)=2 by omega)] at h
 split at h
 · cases h
 · rw [if_neg (show ¬ (7:Nat)=3 by omega),if_neg (show ¬ (7:Nat)=4 by omega),if_neg (show ¬ (7:Nat)=5 by omega),if_neg (show ¬ (7:Nat)=6 by omega),if_pos (show (7:Nat)=7 from rfl)] at h
   exact h
theorem rightX_skip {s:List Nat} {n:Int} {c:Nat} (h:rightX 7 s n c=true) (hs:opSkip s≠0):c=2:=by
 have h:=rightX_op h
 unfold isOpF at h
 rcases opSkip_cases s with ⟨rfl,-⟩ | ⟨rfl,-⟩ | ⟨-,-,h0⟩
 · rw [if_neg (by decide),if_neg (by decide),if_pos (by decide)] at h
   simpa using h
 · rw [if_neg (by decide),if_neg (by decide),if_pos (by decide)] at h
   simpa using h
 · exact absurd h0 hs
theorem rightS_kin {k:Nat} {s:List Nat} {x b c:Nat} (h:rightS k s x b c=true):1≤k∧k≤9:=by
 have:k=1∨k=2∨k=3∨k=4∨k=5∨k=6∨k=7∨k=8∨k=9:=by
   refine Classical.byContradiction fun hn=>?_
   unfold rightS at h
   rw [if_neg (show ¬ k=3 by omega),if_neg (show ¬ k=4 by omega)] at h
   split at h
   · cases h
   · rw [if_neg (show ¬ (k=1∨k=2) by omega),if_neg (show ¬ (k=5∨k=9) by omega),if_neg (show ¬ k=6 by omega),if_neg (show ¬ k=7 by omega),if_neg (show ¬ k=8 by omega)] at h
     cases h
 omega
theorem rightS_none {k:Nat} {s:List Nat} {x b c:Nat} (h:rightS k s x b c=true) (hk:k≠3):c=0:=by
 unfold rightS at h
 rw [if_neg hk] at h
 split at h
 · simp only [Bool.and_eq_true,beq_iff_eq] at h
   exact h.2
 · split at h
   · cases h
   · omega
theorem rightS_flat {k:Nat} {s:List Nat} {x b c:Nat} (h:rightS k s x b c=true) (hk:k≠3) (h4:k≠4):b=0∧c=0:=by
 unfold rightS at h
 rw [if_neg hk,if_neg h4] at h
 split at h
 · cases h
 · omega
theorem exO_lenE (E:Env) (w:Ws) (k:Nat) (s:List Nat) (n:Int) (kids:Nat) (hk:1≤k∧k≤11):(exO E w k s n kids).code.length=w.code.length+1:=by
 unfold exO
 repeat' split
 all_goals first | (rw [cst_len]) | (rw [put_len]) | omega
theorem exR_parts {d k:Nat} {s:List Nat} {n:Int} {l:List Ex} {c c':Nat} (h:exR d (.mk k s n l) c=some c'):rightX k s n l.length=true∧exsR (d+1) l (c-1)=some c'∧1≤c∧d≤40:=by
 rw [exR] at h
 split at h
 · cases h
 · rename_i h1
   split at h
   · cases h
   · rename_i h2
     exact ⟨by simpa using h2,h,by omega,by omega⟩
theorem exsR_parts {d:Nat} {x:Ex} {r:List Ex} {c c':Nat} (h:exsR d (x :: r) c=some c'):∃ c1,exR d x c=some c1∧exsR d r c1=some c':=by
 rw [exsR] at h
 cases hx:exR d x c with
 | none=>rw [hx] at h; cases h
 | some c1=>rw [hx] at h; exact ⟨c1,rfl,h⟩
theorem smR_parts {d k:Nat} {s:List Nat} {x:List Ex} {b e:List Sm} {ln:Int} {c c':Nat} (h:smR d (.mk k s x b e ln) c=some c'):rightS k s x.length b.length e.length=true∧∃ c1 c2,exsR (d+1) x (c-1)=some c1∧smsR (d+1) b c1=some c2∧smsR (d+1) e c2=some c':=by
 rw [smR] at h
 split at h
 · cases h
 · split at h
   · cases h
   · rename_i h2
     cases hx:exsR (d+1) x (c-1) with
     | none=>rw [hx] at h; cases h
     | some c1 =>
       rw [hx] at h
       dsimp only at h
       cases hb:smsR (d+1) b c1 with
       | none=>rw [hb] at h; cases h
       | some c2=>rw [hb] at h; exact ⟨by simpa using h2,c1,c2,rfl,hb,h⟩
theorem smsR_parts {d:Nat} {x:Sm} {r:List Sm} {c c':Nat} (h:smsR d (x :: r) c=some c'):∃ c1,smR d x c=some c1∧smsR d r c1=some c':=by
 rw [smsR] at h
 cases hx:smR d x c with
 | none=>rw [hx] at h; cases h
 | some c1=>rw [hx] at h; exact ⟨c1,rfl,h⟩
theorem skip_two {k:Nat} {s:List Nat} {n:Int} {l:List Ex} (h:rightX k s n l.length=true) (hk:k=7∧opSkip s≠0):∃ a b,l=[a,b]:=by
 obtain ⟨rfl,h2⟩:=hk
 have h3:=rightX_skip h h2
 match l,h3 with
 | [a,b], _ => exact ⟨a,b,rfl⟩
mutual
theorem exW_lenE (E:Env) (w:Ws):∀ (x:Ex) (d c c':Nat),exR d x c=some c'→(exW E w x).code.length=w.code.length+exN x
 | .mk k s n l,d,c,c',h=>by
   obtain ⟨h1,h2,-,-⟩:=exR_parts h
   rw [exW,exN]
   by_cases hk:k=7∧opSkip s≠0
   · rw [if_pos hk,if_pos hk]
     have:=skW_lenE E (opSkip s) w l (d+1) (c-1) c' h2 (skip_two h1 hk)
     omega
   · rw [if_neg hk,if_neg hk]
     have:=exO_lenE E (exsW E w l) k s n l.length (rightX_kin h1)
     have:=exsW_lenE E w l (d+1) (c-1) c' h2
     omega
theorem exsW_lenE (E:Env) (w:Ws):∀ (l:List Ex) (d c c':Nat),exsR d l c=some c'→(exsW E w l).code.length=w.code.length+exsN l
 | [],d,c,c',h=>by rw [exsW,exsN]; omega
 | x :: r,d,c,c',h=>by
   obtain ⟨c1,h1,h2⟩:=exsR_parts h
   rw [exsW,exsN]
   have:=exW_lenE E w x d c c1 h1
   have:=exsW_lenE E (exW E w x) r d c1 c' h2
   omega
theorem skW_lenE (E:Env) (o:Nat) (w:Ws):∀ (l:List Ex) (d c c':Nat),exsR d l c=some c'→(∃ a b,l=[a,b])→(skW E o w l).code.length=w.code.length+exsN l+2
 | [],d,c,c',h,hl=>by obtain ⟨a,b,hl⟩:=hl; cases hl
 | x :: r,d,c,c',h,hl=>by
   obtain ⟨c1,h1,h2⟩:=exsR_parts h
   rw [skW,exsN]
   have:=exW_lenE E w x d c c1 h1
   have h3:=sk2_lenE E (exW E w x).code.length ((exW E w x).put o 0 0) r d c1 c' h2 (by obtain ⟨a,b,hl⟩:=hl; cases hl; exact ⟨b,rfl⟩)
   rw [put_len] at h3
   omega
theorem sk2_lenE (E:Env) (p:Nat) (w:Ws):∀ (l:List Ex) (d c c':Nat),exsR d l c=some c'→(∃ b,l=[b])→(sk2 E p w l).code.length=w.code.length+exsN l+1
 | [],d,c,c',h,hl=>by obtain ⟨b,hl⟩:=hl; cases hl
 | x :: r,d,c,c',h,hl=>by
   obtain ⟨c1,h1,h2⟩:=exsR_parts h
   obtain ⟨b,hl⟩:=hl
   have hr:r=[]:=by cases hl; rfl
   rw [sk2,exsN,lay_len,put_len]
   have:=exW_lenE E w x d c c1 h1
   rw [hr,exsN]
   omega
end
mutual
theorem smW_lenE (E:Env) (w:Ws):∀ (x:Sm) (d c c':Nat),smR d x c=some c'→(smW E w x).code.length=w.code.length+smN x
 | .mk k s x b e ln,d,c,c',h=>by
   obtain ⟨h1,c1,c2,hx,hb,he⟩:=smR_parts h
   have h0:=exsW_lenE E w x _ _ _ hx
   have hb:=smsW_lenE E (exsW E w x).sc.length ((exsW E w x).put 28 0 0) b _ _ _ hb
   have he:=smsW_lenE E (exsW E w x).sc.length (((smsW E (exsW E w x).sc.length ((exsW E w x).put 28 0 0) b).put 27 0 0).lay (exsW E w x).code.length) e _ _ _ he
   have hkk:=rightS_kin h1
   rw [put_len] at hb
   rw [lay_len,put_len] at he
   rw [smW,smN]
   by_cases h4:k=4
   · have h5:=rightS_none h1 (by omega)
     subst h4
     have h6:e=[]:=List.eq_nil_of_length_eq_zero h5
     subst h6
     rw [if_pos (show (4:Nat)=4∨(4:Nat)=3∧([]:List Sm)≠[] from .inl rfl),if_neg (show ¬ (4:Nat)=1 by omega),if_neg (show ¬ (4:Nat)=2 by omega),if_neg (show ¬ (4:Nat)=3 by omega),if_pos (show (4:Nat)=4 from rfl),lay_len,put_len,smsN]
     omega
   · by_cases h3:k=3
     · subst h3
       rw [if_neg (show ¬ (3:Nat)=1 by omega),if_neg (show ¬ (3:Nat)=2 by omega),if_pos (show (3:Nat)=3 from rfl)]
       split
       · rename_i hee
         subst hee
         rw [lay_len,if_neg (by simp),smsN]
         omega
       · rename_i hee
         rw [if_pos (show (3:Nat)=4∨(3:Nat)=3∧e≠[] from .inr ⟨rfl,hee⟩),lay_len]
         omega
     · obtain ⟨hb0,he0⟩:=rightS_flat h1 h3 h4
       have hb1:b=[]:=List.eq_nil_of_length_eq_zero hb0
       have he1:e=[]:=List.eq_nil_of_length_eq_zero he0
       subst hb1
       subst he1
       rw [if_neg (show ¬ (k=4∨k=3∧([]:List Sm)≠[]) by omega),if_neg h3,if_neg h4,smsN]
       repeat' split
       all_goals first | (rw [put_len]; show (exsW E w x).code.length+1 = _; omega) | (rw [tag_len]; omega) | omega
theorem smsW_lenE (E:Env) (m:Nat) (w:Ws):∀ (l:List Sm) (d c c':Nat),smsR d l c=some c'→(smsW E m w l).code.length=w.code.length+smsN l
 | [],d,c,c',h=>by rw [smsW,smsN]; rfl
 | x :: r,d,c,c',h=>by
   obtain ⟨c1,h1,h2⟩:=smsR_parts h
   rw [smsW,smsN]
   have:=smW_lenE E w x _ _ _ h1
   have:=smsW_lenE E m (smW E w x) r _ _ _ h2
   omega
end
end Go.Proofs.YtcmopnkldplngabGreatDoor
namespace Go.Proofs.YtcmopnkldplngabGreatDoor
set_option linter.unusedVariables false
def Used (o i:Nat) (F:List (List In3)):Prop:=∃ c∈F,∃ x∈c,x.op=o∧x.a=(i:Int)
def Jok (P:Nat→Prop) (code:List In3):Prop:=∀ i x,code[i]?=some x→¬ P i →
 ((x.op=28∨x.op=29∨x.op=30)→(i:Int)<x.a) ∧
 (x.op=27→(i:Int)<x.a∨(0≤x.a∧∃ j u,¬ P j∧code[j]?=some u∧x.a≤(j:Int)∧j<i∧u.op=28∧u.a=(i:Int)+1))
def NoJ (o:Nat):Prop:=o≠27∧o≠28∧o≠29∧o≠30
theorem get_snoc {α:Type} {l:List α} {x y:α} {i:Nat} (h:(l ++ [x])[i]?=some y):l[i]?=some y∨(i=l.length∧y=x):=by
 rw [List.getElem?_append] at h
 split at h
 · exact .inl h
 · rename_i h1
   have h2:=(List.getElem?_eq_some_iff.1 h).1
   simp at h2
   have h3:i=l.length:=by omega
   subst h3
   simp at h
   exact .inr ⟨rfl,h.symm⟩
theorem get_app {α:Type} {l r:List α} {y:α} {i:Nat} (h:l[i]?=some y):(l ++ r)[i]?=some y:=by
 rw [List.getElem?_append_left (List.getElem?_eq_some_iff.1 h).1]
 exact h
theorem Jok.put {P:Nat→Prop} {c:List In3} (h:Jok P c) (x:In3) (hx:NoJ x.op):Jok P (c ++ [x]):=by
 intro i y hy hp
 rcases get_snoc hy with h1 | ⟨h1,h2⟩
 · obtain ⟨h3,h4⟩:=h i y h1 hp
   refine ⟨h3,fun ho=>?_⟩
   rcases h4 ho with h5 | ⟨h5,j,u,h6,h7,h8⟩
   · exact .inl h5
   · exact .inr ⟨h5,j,u,h6,get_app h7,h8⟩
 · subst h2
   obtain ⟨n1,n2,n3,n4⟩:=hx
   exact ⟨fun ho=>by omega,fun ho=>absurd ho n1⟩
theorem Jok.jump {P P':Nat→Prop} {c:List In3} (h:Jok P c) (x:In3) (hp:∀ i,P' i ↔ P i∨i=c.length):Jok P' (c ++ [x]):=by
 intro i y hy hn
 rcases get_snoc hy with h1 | ⟨h1,h2⟩
 · obtain ⟨h3,h4⟩:=h i y h1 (fun e=>hn ((hp i).2 (.inl e)))
   refine ⟨h3,fun ho=>?_⟩
   rcases h4 ho with h5 | ⟨h5,j,u,h6,h7,h8⟩
   · exact .inl h5
   · refine .inr ⟨h5,j,u,fun e=>?_,get_app h7,h8⟩
     rcases (hp j).1 e with e | e
     · exact h6 e
     · have:=(List.getElem?_eq_some_iff.1 h7).1
       omega
 · exact absurd ((hp i).2 (.inr h1)) hn
theorem get_mod {c:List In3} {p i:Nat} {a:Int}:(c.modify p (fun z=>{ z with a:=a }))[i]?=if p=i then (c[i]?).map (fun z=>{ z with a:=a }) else c[i]?:=by
 rw [List.getElem?_modify]
 by_cases e:p=i
 · rw [if_pos e]
   cases hz:c[i]? with
   | none=>rfl
   | some z=>simp [e]
 · rw [if_neg e]
   cases hz:c[i]? with
   | none=>rfl
   | some z=>simp [e]
theorem get_lay {c:List In3} {p i:Nat} {y:In3} {a:Int} (h:(c.modify p (fun z=>{ z with a:=a }))[i]?=some y):(i=p∧∃ z,c[p]?=some z∧y={ z with a:=a })∨(i≠p∧c[i]?=some y):=by
 rw [get_mod] at h
 by_cases e:p=i
 · subst e
   rw [if_pos rfl] at h
   obtain ⟨z,h1,h2⟩:=Option.map_eq_some_iff.1 h
   exact .inl ⟨rfl,z,h1,h2.symm⟩
 · rw [if_neg e] at h
   exact .inr ⟨fun e2=>e e2.symm,h⟩
theorem lay_ne {c:List In3} {p i:Nat} {y:In3} {a:Int} (h:c[i]?=some y) (hn:i≠p):(c.modify p (fun z=>{ z with a:=a }))[i]?=some y:=by
 rw [get_mod,if_neg (fun e=>hn e.symm),h]
theorem Jok.lay {P P':Nat→Prop} {c:List In3} {p:Nat} (h:Jok P' c) (hp:∀ i,P' i ↔ P i∨i=p):Jok P (c.modify p (fun z=>{ z with a:=(c.length:Int) })):=by
 intro i y hy hn
 rcases get_lay hy with ⟨rfl,z,hz,rfl⟩ | ⟨h1,h2⟩
 · have:=(List.getElem?_eq_some_iff.1 hz).1
   exact ⟨fun _ => by show (i:Int)<(c.length:Int); omega,fun _ => .inl (by show (i:Int)<(c.length:Int); omega)⟩
 · obtain ⟨h3,h4⟩:=h i y h2 (fun e=>((hp i).1 e).elim hn h1)
   refine ⟨h3,fun ho=>?_⟩
   rcases h4 ho with h5 | ⟨h5,j,u,h6,h7,h8⟩
   · exact .inl h5
   · exact .inr ⟨h5,j,u,fun e=>h6 ((hp j).2 (.inl e)),lay_ne h7 (fun e=>h6 ((hp j).2 (.inr e))),h8⟩
theorem Jok.loop {P P':Nat→Prop} {c:List In3} {p b:Nat} (h:Jok P' c) (hp:∀ i,P' i ↔ P i∨i=p) (hop:∃ z,c[p]?=some z∧z.op=28) (hb:b≤p) (hnp:¬ P p) :
   Jok P ((c ++ [(⟨27,(b:Int),0⟩:In3)]).modify p (fun z=>{ z with a:=((c ++ [(⟨27,(b:Int),0⟩:In3)]).length:Int) })):=by
 obtain ⟨z0,hz0,ho0⟩:=hop
 have hpl:=(List.getElem?_eq_some_iff.1 hz0).1
 intro i y hy hn
 rw [List.length_append,List.length_singleton] at hy ⊢
 rcases get_lay hy with ⟨rfl,z,hz,rfl⟩ | ⟨h1,h2⟩
 · exact ⟨fun _ => by show (i:Int)<((c.length+1:Nat):Int); omega,fun _ => .inl (by show (i:Int)<((c.length+1:Nat):Int); omega)⟩
 · rcases get_snoc h2 with h2 | ⟨h2,h3⟩
   · obtain ⟨h3,h4⟩:=h i y h2 (fun e=>((hp i).1 e).elim hn h1)
     refine ⟨h3,fun ho=>?_⟩
     rcases h4 ho with h5 | ⟨h5,j,u,h6,h7,h8⟩
     · exact .inl h5
     · exact .inr ⟨h5,j,u,fun e=>h6 ((hp j).2 (.inl e)),lay_ne (get_app h7) (fun e=>h6 ((hp j).2 (.inr e))),h8⟩
   · subst h3
     refine ⟨(fun ho=>by rcases ho with ho | ho | ho <;> cases ho),fun _ => .inr ⟨by show (0:Int)≤(b:Int); omega,p,{ z0 with a:=((c.length+1:Nat):Int) },hnp,?_,by show (b:Int)≤(p:Int); omega,by omega,ho0,by show ((c.length+1:Nat):Int)=(i:Int)+1; omega⟩⟩
     rw [get_mod,if_pos rfl,get_app hz0]
     rfl
structure Gd (F:List (List In3)) (P:Nat→Prop) (w:Ws):Prop where
 nc:w.cs.Nodup
 nt:w.ts.Nodup
 uc:∀ i,i<w.cs.length→Used 1 i (F ++ [w.code])
 ut:∀ i,i<w.ts.length→Used 24 i (F ++ [w.code])
 rc:∀ c∈F ++ [w.code],∀ x∈c,(x.op=1→∃ i:Nat,i<w.cs.length∧x.a=(i:Int))∧(x.op=24→∃ i:Nat,i<w.ts.length∧x.a=(i:Int))
 jk:Jok P w.code
theorem Used.snoc {o i:Nat} {F:List (List In3)} {c:List In3} (x:In3) (h:Used o i (F ++ [c])):Used o i (F ++ [c ++ [x]]):=by
 obtain ⟨d,hd,y,hy,h2⟩:=h
 rcases List.mem_append.1 hd with hd | hd
 · exact ⟨d,List.mem_append_left _ hd,y,hy,h2⟩
 · rw [List.mem_singleton.1 hd] at hy
   exact ⟨c ++ [x],by simp,y,List.mem_append_left _ hy,h2⟩
theorem Used.last {o i:Nat} {F:List (List In3)} {c:List In3} (x:In3) (h1:x.op=o) (h2:x.a=(i:Int)):Used o i (F ++ [c ++ [x]]):=⟨c ++ [x],by simp,x,by simp,h1,h2⟩
theorem Used.lay {o i:Nat} {F:List (List In3)} {c:List In3} {p:Nat} {a:Int} (h:Used o i (F ++ [c])) (hop:∀ z,c[p]?=some z→z.op≠o):Used o i (F ++ [c.modify p (fun z=>{ z with a:=a })]):=by
 obtain ⟨d,hd,y,hy,h2⟩:=h
 rcases List.mem_append.1 hd with hd | hd
 · exact ⟨d,List.mem_append_left _ hd,y,hy,h2⟩
 · rw [List.mem_singleton.1 hd] at hy
   obtain ⟨j,hj⟩:=List.mem_iff_getElem?.1 hy
   have hne:j≠p:=fun e=>hop y (by rw [← e]; exact hj) h2.1
   exact ⟨_,List.mem_append_right _ (List.mem_singleton.2 rfl),y,List.mem_iff_getElem?.2 ⟨j,lay_ne hj hne⟩,h2⟩
section
variable {F:List (List In3)} {P P':Nat→Prop} {w:Ws}
theorem Gd.mem {c:List In3} {Q:In3→Prop} (h:∀ d∈F ++ [c],∀ x∈d,Q x):(∀ d∈F,∀ x∈d,Q x)∧∀ x∈c,Q x:=⟨fun d hd=>h d (by simp [hd]),fun x hx=>h c (by simp) x hx⟩
theorem Gd.mk' {c:List In3} {Q:In3→Prop} (h1:∀ d∈F,∀ x∈d,Q x) (h2:∀ x∈c,Q x):∀ d∈F ++ [c],∀ x∈d,Q x:=fun d hd=>by
 rcases List.mem_append.1 hd with hd | hd
 · exact h1 d hd
 · rw [List.mem_singleton.1 hd]; exact h2
theorem Gd.put (h:Gd F P w) (o:Nat) (a b:Int) (ho:NoJ o) (h1:o≠1) (h2:o≠24):Gd F P (w.put o a b):=by
 refine ⟨h.nc,h.nt,fun i hi=>(h.uc i hi).snoc _,fun i hi=>(h.ut i hi).snoc _,?_,h.jk.put _ ho⟩
 obtain ⟨r1,r2⟩:=Gd.mem h.rc
 refine Gd.mk' r1 fun x hx=>?_
 rcases List.mem_append.1 hx with hx | hx
 · exact r2 x hx
 · rw [List.mem_singleton.1 hx]
   exact ⟨fun e=>absurd e h1,fun e=>absurd e h2⟩
theorem Gd.jump (h:Gd F P w) (o:Nat) (a b:Int) (h1:o≠1) (h2:o≠24) (hp:∀ i,P' i ↔ P i∨i=w.code.length):Gd F P' (w.put o a b):=by
 refine ⟨h.nc,h.nt,fun i hi=>(h.uc i hi).snoc _,fun i hi=>(h.ut i hi).snoc _,?_,h.jk.jump _ hp⟩
 obtain ⟨r1,r2⟩:=Gd.mem h.rc
 refine Gd.mk' r1 fun x hx=>?_
 rcases List.mem_append.1 hx with hx | hx
 · exact r2 x hx
 · rw [List.mem_singleton.1 hx]
   exact ⟨fun e=>absurd e h1,fun e=>absurd e h2⟩
theorem Gd.lay' {p:Nat} {a:Int} {code:List In3} (h:Gd F P' w) (hop:∀ z,w.code[p]?=some z→z.op≠1∧z.op≠24) (he:code=w.code.modify p (fun z=>{ z with a:=a })) (hj:Jok P code):Gd F P { w with code:=code }:=by
 subst he
 refine ⟨h.nc,h.nt,fun i hi=>(h.uc i hi).lay fun z hz=>(hop z hz).1,fun i hi=>(h.ut i hi).lay fun z hz=>(hop z hz).2,?_,hj⟩
 obtain ⟨r1,r2⟩:=Gd.mem h.rc
 refine Gd.mk' r1 fun x hx=>?_
 obtain ⟨j,hj⟩:=List.mem_iff_getElem?.1 hx
 rcases get_lay hj with ⟨rfl,z,hz,rfl⟩ | ⟨e1,e2⟩
 · exact ⟨fun e=>absurd e (hop z hz).1,fun e=>absurd e (hop z hz).2⟩
 · exact r2 x (List.mem_iff_getElem?.2 ⟨j,e2⟩)
theorem Gd.lay {p:Nat} (h:Gd F P' w) (hp:∀ i,P' i ↔ P i∨i=p) (hop:∀ z,w.code[p]?=some z→z.op≠1∧z.op≠24):Gd F P (w.lay p):=h.lay' hop rfl (h.jk.lay hp)
theorem plcL_len {α:Type} [DecidableEq α] (x:α) (l:List α):l.length≤(plcL x l).length:=by
 unfold plcL
 split
 · exact Nat.le_refl _
 · simp
theorem plcI_lt {α:Type} [DecidableEq α] (x:α) (l:List α):plcI x l<(plcL x l).length:=by
 unfold plcI plcL
 split
 · rename_i i hi; exact idxO_lt hi
 · simp
theorem plcL_nodup {α:Type} [DecidableEq α] (x:α) {l:List α} (h:l.Nodup):(plcL x l).Nodup:=by
 unfold plcL
 split
 · exact h
 · rename_i hn
   rw [idxO_none] at hn
   rw [List.nodup_append]
   refine ⟨h,by simp,fun a ha b hb=>?_⟩
   simp at hb
   subst hb
   exact fun e=>hn (e ▸ ha)
theorem plcL_old {α:Type} [DecidableEq α] (x:α) (l:List α) {i:Nat} (h:i<(plcL x l).length):i<l.length∨i=plcI x l:=by
 unfold plcL at h
 unfold plcI
 cases hi:idxO x l with
 | some j=>rw [hi] at h; exact .inl h
 | none =>
   rw [hi] at h
   simp at h
   dsimp only
   omega
theorem Gd.cst (h:Gd F P w) (c:Cst):Gd F P (w.cst c):=by
 obtain ⟨r1,r2⟩:=Gd.mem h.rc
 have hl:=plcL_len c w.cs
 refine ⟨plcL_nodup c h.nc,h.nt,fun i hi=>?_,fun i hi=>(h.ut i hi).snoc _,?_,h.jk.put _ (show NoJ _ from ⟨by show (_ : Nat) ≠ _; dsimp only; omega,by show (_ : Nat) ≠ _; dsimp only; omega,by show (_ : Nat) ≠ _; dsimp only; omega,by show (_ : Nat) ≠ _; dsimp only; omega⟩)⟩
 · rcases plcL_old c w.cs hi with h1 | h1
   · exact (h.uc i h1).snoc _
   · exact Used.last _ rfl (by rw [h1])
 · refine Gd.mk' (fun d hd x hx=>⟨fun e=>?_,(r1 d hd x hx).2⟩) fun x hx=>?_
   · obtain ⟨i,hi,e2⟩:=(r1 d hd x hx).1 e
     exact ⟨i,Nat.lt_of_lt_of_le hi hl,e2⟩
   · rcases List.mem_append.1 hx with hx | hx
     · refine ⟨fun e=>?_,(r2 x hx).2⟩
       obtain ⟨i,hi,e2⟩:=(r2 x hx).1 e
       exact ⟨i,Nat.lt_of_lt_of_le hi hl,e2⟩
     · rw [List.mem_singleton.1 hx]
       exact ⟨fun _ => ⟨plcI c w.cs,plcI_lt c w.cs,rfl⟩,fun e=>by cases e⟩
theorem Gd.tag (h:Gd F P w) (s:List Nat) (b:Int):Gd F P (w.tag s b):=by
 obtain ⟨r1,r2⟩:=Gd.mem h.rc
 have hl:=plcL_len s w.ts
 refine ⟨h.nc,plcL_nodup s h.nt,fun i hi=>(h.uc i hi).snoc _,fun i hi=>?_,?_,h.jk.put _ (show NoJ _ from ⟨by show (_ : Nat) ≠ _; dsimp only; omega,by show (_ : Nat) ≠ _; dsimp only; omega,by show (_ : Nat) ≠ _; dsimp only; omega,by show (_ : Nat) ≠ _; dsimp only; omega⟩)⟩
 · rcases plcL_old s w.ts hi with h1 | h1
   · exact (h.ut i h1).snoc _
   · exact Used.last _ rfl (by rw [h1])
 · refine Gd.mk' (fun d hd x hx=>⟨(r1 d hd x hx).1,fun e=>?_⟩) fun x hx=>?_
   · obtain ⟨i,hi,e2⟩:=(r1 d hd x hx).2 e
     exact ⟨i,Nat.lt_of_lt_of_le hi hl,e2⟩
   · rcases List.mem_append.1 hx with hx | hx
     · refine ⟨(r2 x hx).1,fun e=>?_⟩
       obtain ⟨i,hi,e2⟩:=(r2 x hx).2 e
       exact ⟨i,Nat.lt_of_lt_of_le hi hl,e2⟩
     · rw [List.mem_singleton.1 hx]
       exact ⟨fun e=>(by cases e),fun _ => ⟨plcI s w.ts,plcI_lt s w.ts,rfl⟩⟩
theorem opOne_ok (s:List Nat):NoJ (opOne s)∧opOne s≠1∧opOne s≠24:=by
 unfold opOne NoJ
 repeat' split
 all_goals omega
theorem opTwo_ok (s:List Nat):NoJ (opTwo s)∧opTwo s≠1∧opTwo s≠24:=by
 unfold opTwo NoJ
 repeat' split
 all_goals omega
theorem Gd.exO (h:Gd F P w) (E:Env) (k:Nat) (s:List Nat) (n:Int) (kids:Nat):Gd F P (exO E w k s n kids):=by
 unfold Go.Proofs.YtcmopnkldplngabGreatDoor.exO
 repeat' split
 all_goals first
   | exact h.cst _
   | exact h.put _ _ _ ⟨by decide,by decide,by decide,by decide⟩ (by decide) (by decide)
   | exact h.put _ _ _ (opOne_ok s).1 (opOne_ok s).2.1 (opOne_ok s).2.2
   | exact h.put _ _ _ (opTwo_ok s).1 (opTwo_ok s).2.1 (opTwo_ok s).2.2
   | exact h
end
/-! What was written ahead stays. -/
theorem put_pre (w:Ws) (o:Nat) (a b:Int) {i:Nat} (hi:i<w.code.length):(w.put o a b).code[i]?=w.code[i]?:=List.getElem?_append_left hi
theorem lay_pre (w:Ws) {p i:Nat} (hi:i<p):(w.lay p).code[i]?=w.code[i]?:=by
 show (w.code.modify p _)[i]? = _
 rw [get_mod,if_neg (by omega)]
theorem exO_pre (E:Env) (w:Ws) (k:Nat) (s:List Nat) (n:Int) (kids:Nat) {i:Nat} (hi:i<w.code.length):(exO E w k s n kids).code[i]?=w.code[i]?:=by
 unfold exO
 repeat' split
 all_goals first | rfl | exact List.getElem?_append_left hi
theorem exO_ge (E:Env) (w:Ws) (k:Nat) (s:List Nat) (n:Int) (kids:Nat):w.code.length≤(exO E w k s n kids).code.length:=by
 unfold exO
 repeat' split
 all_goals first | (rw [cst_len]; omega) | (rw [put_len]; omega) | omega
mutual
theorem exW_pre (E:Env) (w:Ws):∀ (x:Ex),w.code.length≤(exW E w x).code.length∧∀ i,i<w.code.length→(exW E w x).code[i]?=w.code[i]?
 | .mk k s n l=>by
   rw [exW]
   split
   · exact skW_pre E (opSkip s) w l
   · obtain ⟨h1,h2⟩:=exsW_pre E w l
     exact ⟨Nat.le_trans h1 (exO_ge _ _ _ _ _ _),fun i hi=>(exO_pre _ _ _ _ _ _ (by omega)).trans (h2 i hi)⟩
theorem exsW_pre (E:Env) (w:Ws):∀ (l:List Ex),w.code.length≤(exsW E w l).code.length∧∀ i,i<w.code.length→(exsW E w l).code[i]?=w.code[i]?
 | []=>by rw [exsW]; exact ⟨Nat.le_refl _,fun _ _ => rfl⟩
 | x :: r=>by
   rw [exsW]
   obtain ⟨h1,h2⟩:=exW_pre E w x
   obtain ⟨h3,h4⟩:=exsW_pre E (exW E w x) r
   exact ⟨Nat.le_trans h1 h3,fun i hi=>(h4 i (by omega)).trans (h2 i hi)⟩
theorem skW_pre (E:Env) (o:Nat) (w:Ws):∀ (l:List Ex),w.code.length≤(skW E o w l).code.length∧∀ i,i<w.code.length→(skW E o w l).code[i]?=w.code[i]?
 | []=>by rw [skW]; exact ⟨Nat.le_refl _,fun _ _ => rfl⟩
 | x :: r=>by
   rw [skW]
   obtain ⟨h1,h2⟩:=exW_pre E w x
   obtain ⟨h3,h4⟩:=sk2_pre E (exW E w x).code.length ((exW E w x).put o 0 0) r (by rw [put_len]; omega)
   rw [put_len] at h3
   exact ⟨by omega,fun i hi=>(h4 i (by omega)).trans ((put_pre _ _ _ _ (by omega)).trans (h2 i hi))⟩
theorem sk2_pre (E:Env) (p:Nat) (w:Ws):∀ (l:List Ex),p<w.code.length→w.code.length≤(sk2 E p w l).code.length∧∀ i,i<p→(sk2 E p w l).code[i]?=w.code[i]?
 | [],hp=>by rw [sk2,lay_len]; exact ⟨Nat.le_refl _,fun i hi=>lay_pre _ hi⟩
 | x :: r,hp=>by
   rw [sk2,lay_len,put_len]
   obtain ⟨h1,h2⟩:=exW_pre E w x
   exact ⟨by omega,fun i hi=>(lay_pre _ hi).trans ((put_pre _ _ _ _ (by omega)).trans (h2 i (by omega)))⟩
end
mutual
theorem smW_pre (E:Env) (w:Ws):∀ (x:Sm),w.code.length≤(smW E w x).code.length∧∀ i,i<w.code.length→(smW E w x).code[i]?=w.code[i]?
 | .mk k s x b e ln=>by
   obtain ⟨h1,h2⟩:=exsW_pre E w x
   obtain ⟨b1,b2⟩:=smsW_pre E (exsW E w x).sc.length ((exsW E w x).put 28 0 0) b
   obtain ⟨e1,e2⟩:=smsW_pre E (exsW E w x).sc.length (((smsW E (exsW E w x).sc.length ((exsW E w x).put 28 0 0) b).put 27 0 0).lay (exsW E w x).code.length) e
   rw [put_len] at b1 b2
   rw [lay_len,put_len] at e1 e2
   rw [smW]
   have hl:∀ (o:Nat) (a c:Int) (i:Nat),i<w.code.length→((exsW E w x).put o a c).code[i]?=w.code[i]?:=fun o a c i hi=>(put_pre _ _ _ _ (by omega)).trans (h2 i hi)
   split
   · exact ⟨by rw [put_len]; show w.code.length≤(exsW E w x).code.length+1; omega,fun i hi=>hl 3 _ 0 i hi⟩
   · split
     · exact ⟨by rw [put_len]; omega,fun i hi=>hl 3 _ 0 i hi⟩
     · split
       · split
         · exact ⟨by rw [lay_len]; omega,fun i hi=>(lay_pre _ (by omega)).trans ((b2 i (by omega)).trans (hl _ _ _ i hi))⟩
         · exact ⟨by rw [lay_len]; omega,fun i hi=>(lay_pre _ (by omega)).trans ((e2 i (by omega)).trans ((lay_pre _ (by omega)).trans ((put_pre _ _ _ _ (by omega)).trans ((b2 i (by omega)).trans (hl _ _ _ i hi)))))⟩
       · split
         · exact ⟨by rw [lay_len,put_len]; omega,fun i hi=>(lay_pre _ (by omega)).trans ((put_pre _ _ _ _ (by omega)).trans ((b2 i (by omega)).trans (hl _ _ _ i hi)))⟩
         · split
           · exact ⟨by rw [put_len]; omega,fun i hi=>hl _ _ _ i hi⟩
           · split
             · exact ⟨by rw [tag_len]; omega,fun i hi=>(List.getElem?_append_left (by omega)).trans (h2 i hi)⟩
             · repeat' split
               all_goals first | exact ⟨by rw [put_len]; omega,fun i hi=>hl _ _ _ i hi⟩ | exact ⟨h1,h2⟩
theorem smsW_pre (E:Env) (m:Nat) (w:Ws):∀ (l:List Sm),w.code.length≤(smsW E m w l).code.length∧∀ i,i<w.code.length→(smsW E m w l).code[i]?=w.code[i]?
 | []=>by rw [smsW]; exact ⟨Nat.le_refl _,fun _ _ => rfl⟩
 | x :: r=>by
   rw [smsW]
   obtain ⟨h1,h2⟩:=smW_pre E w x
   obtain ⟨h3,h4⟩:=smsW_pre E m (smW E w x) r
   exact ⟨Nat.le_trans h1 h3,fun i hi=>(h4 i (by omega)).trans (h2 i hi)⟩
end
theorem jump_there {w w':Ws} {o:Nat} (hpre:∀ i,i<(w.put o 0 0).code.length→w'.code[i]?=(w.put o 0 0).code[i]?):w'.code[w.code.length]?=some ⟨o,0,0⟩:=by
 rw [hpre _ (by rw [put_len]; omega)]
 simp [Ws.put]
section
variable {F:List (List In3)}
mutual
theorem Gd.exW (E:Env):∀ (x:Ex) {P:Nat→Prop} {w:Ws},Gd F P w→Gd F P (exW E w x)
 | .mk k s n l,P,w,h=>by
   rw [Go.Proofs.YtcmopnkldplngabGreatDoor.exW]
   split
   · exact Gd.skW E (opSkip s) (by rename_i hk; rcases opSkip_cases s with ⟨-,e⟩ | ⟨-,e⟩ | ⟨-,-,e⟩ <;> rw [e] at hk ⊢ <;> simp_all) l h
   · exact (Gd.exsW E l h).exO E k s n _
theorem Gd.exsW (E:Env):∀ (l:List Ex) {P:Nat→Prop} {w:Ws},Gd F P w→Gd F P (exsW E w l)
 | [],P,w,h=>by rw [Go.Proofs.YtcmopnkldplngabGreatDoor.exsW]; exact h
 | x :: r,P,w,h=>by
   rw [Go.Proofs.YtcmopnkldplngabGreatDoor.exsW]
   exact Gd.exsW E r (Gd.exW E x h)
theorem Gd.skW (E:Env) (o:Nat) (ho:o=29∨o=30):∀ (l:List Ex) {P:Nat→Prop} {w:Ws},Gd F P w→Gd F P (skW E o w l)
 | [],P,w,h=>by rw [Go.Proofs.YtcmopnkldplngabGreatDoor.skW]; exact h
 | x :: r,P,w,h=>by
   rw [Go.Proofs.YtcmopnkldplngabGreatDoor.skW]
   match r with
   | [] =>
     rw [sk2]
     have h1:=(Gd.exW E x h).jump o 0 0 (by omega) (by omega) (P':=fun i=>P i∨i=(Go.Proofs.YtcmopnkldplngabGreatDoor.exW E w x).code.length) (fun i=>Iff.rfl)
     refine h1.lay (fun i=>Iff.rfl) fun z hz=>?_
     rw [jump_there (w':=(Go.Proofs.YtcmopnkldplngabGreatDoor.exW E w x).put o 0 0) (fun _ _ => rfl)] at hz
     cases hz
     exact ⟨by show o≠1; omega,by show o≠24; omega⟩
   | y :: r' =>
     rw [sk2]
     have h1:=(Gd.exW E x h).jump o 0 0 (by omega) (by omega) (P':=fun i=>P i∨i=(Go.Proofs.YtcmopnkldplngabGreatDoor.exW E w x).code.length) (fun i=>Iff.rfl)
     have h2:=(Gd.exW E y h1).put 31 0 0 ⟨by decide,by decide,by decide,by decide⟩ (by decide) (by decide)
     refine h2.lay (fun i=>Iff.rfl) fun z hz=>?_
     obtain ⟨p1,p2⟩:=exW_pre E ((Go.Proofs.YtcmopnkldplngabGreatDoor.exW E w x).put o 0 0) y
     rw [put_pre _ _ _ _ (by rw [put_len] at p1; omega),jump_there p2] at hz
     cases hz
     exact ⟨by show o≠1; omega,by show o≠24; omega⟩
end
end
end Go.Proofs.YtcmopnkldplngabGreatDoor
namespace Go.Proofs.YtcmopnkldplngabGreatDoor
set_option linter.unusedVariables false
section
variable {F:List (List In3)}
theorem Gd.same {P:Nat→Prop} {w w':Ws} (h:Gd F P w) (h1:w'.cs=w.cs) (h2:w'.ts=w.ts) (h3:w'.code=w.code):Gd F P w':=by
 obtain ⟨cs,ts,code,vars,sc⟩:=w
 obtain ⟨cs',ts',code',vars',sc'⟩:=w'
 simp only at h1 h2 h3
 subst h1
 subst h2
 subst h3
 exact ⟨h.nc,h.nt,h.uc,h.ut,h.rc,h.jk⟩
theorem op_there {w w':Ws} {o:Nat} {i:Nat} (hpre:∀ i,i<(w.put o 0 0).code.length→w'.code[i]?=(w.put o 0 0).code[i]?) (he:i=w.code.length) (h1:o≠1) (h2:o≠24):∀ z,w'.code[i]?=some z→z.op≠1∧z.op≠24:=by
 intro z hz
 rw [he,jump_there hpre] at hz
 cases hz
 exact ⟨h1,h2⟩
mutual
theorem Gd.smW (E:Env):∀ (x:Sm) {P:Nat→Prop} {w:Ws},Gd F P w→(∀ i,P i→i<w.code.length)→Gd F P (smW E w x)
 | .mk k s x b e ln,P,w,h,hP=>by
   have h0:=Gd.exsW E x h
   obtain ⟨g1,g2⟩:=exsW_pre E w x
   rw [Go.Proofs.YtcmopnkldplngabGreatDoor.smW]
   have hJ:=h0.jump 28 0 0 (by omega) (by omega) (P':=fun i=>P i∨i=(Go.Proofs.YtcmopnkldplngabGreatDoor.exsW E w x).code.length) (fun i=>Iff.rfl)
   have hB:=Gd.smsW E (Go.Proofs.YtcmopnkldplngabGreatDoor.exsW E w x).sc.length b hJ (fun i hi=>by
     rw [put_len]
     rcases hi with hi | hi
     · have:=hP i hi; omega
     · omega)
   obtain ⟨b1,b2⟩:=smsW_pre E (Go.Proofs.YtcmopnkldplngabGreatDoor.exsW E w x).sc.length ((Go.Proofs.YtcmopnkldplngabGreatDoor.exsW E w x).put 28 0 0) b
   rw [put_len] at b1
   split
   · exact Gd.put (w:=(Go.Proofs.YtcmopnkldplngabGreatDoor.exsW E w x).let_ s) (h0.same rfl rfl rfl) 3 _ 0 ⟨by decide,by decide,by decide,by decide⟩ (by decide) (by decide)
   · split
     · exact h0.put 3 _ 0 ⟨by decide,by decide,by decide,by decide⟩ (by decide) (by decide)
     · split
       · split
         · exact hB.lay (fun i=>Iff.rfl) (op_there b2 rfl (by omega) (by omega))
         · have hJ2:=hB.jump 27 0 0 (by omega) (by omega) (P':=fun i=>(P i∨i=(Go.Proofs.YtcmopnkldplngabGreatDoor.smsW E (Go.Proofs.YtcmopnkldplngabGreatDoor.exsW E w x).sc.length ((Go.Proofs.YtcmopnkldplngabGreatDoor.exsW E w x).put 28 0 0) b).code.length)∨i=(Go.Proofs.YtcmopnkldplngabGreatDoor.exsW E w x).code.length) (fun i=>by
             constructor
             · rintro ((h | h) | h)
               · exact .inl (.inl h)
               · exact .inr h
               · exact .inl (.inr h)
             · rintro ((h | h) | h)
               · exact .inl (.inl h)
               · exact .inr h
               · exact .inl (.inr h))
           have hL2:=hJ2.lay (P:=fun i=>P i∨i=(Go.Proofs.YtcmopnkldplngabGreatDoor.smsW E (Go.Proofs.YtcmopnkldplngabGreatDoor.exsW E w x).sc.length ((Go.Proofs.YtcmopnkldplngabGreatDoor.exsW E w x).put 28 0 0) b).code.length) (p:=(Go.Proofs.YtcmopnkldplngabGreatDoor.exsW E w x).code.length) (fun i=>Iff.rfl) (fun z hz=>by
             rw [put_pre _ _ _ _ (by omega)] at hz
             exact op_there b2 rfl (by omega) (by omega) z hz)
           have hE:=Gd.smsW E (Go.Proofs.YtcmopnkldplngabGreatDoor.exsW E w x).sc.length e hL2 (fun i hi=>by
             rw [lay_len,put_len]
             rcases hi with hi | hi
             · have:=hP i hi; omega
             · omega)
           obtain ⟨e1,e2⟩:=smsW_pre E (Go.Proofs.YtcmopnkldplngabGreatDoor.exsW E w x).sc.length (((Go.Proofs.YtcmopnkldplngabGreatDoor.smsW E (Go.Proofs.YtcmopnkldplngabGreatDoor.exsW E w x).sc.length ((Go.Proofs.YtcmopnkldplngabGreatDoor.exsW E w x).put 28 0 0) b).put 27 0 0).lay (Go.Proofs.YtcmopnkldplngabGreatDoor.exsW E w x).code.length) e
           rw [lay_len,put_len] at e1 e2
           refine hE.lay (fun i=>Iff.rfl) fun z hz=>?_
           rw [e2 _ (by omega)] at hz
           have h3:(((Go.Proofs.YtcmopnkldplngabGreatDoor.smsW E (Go.Proofs.YtcmopnkldplngabGreatDoor.exsW E w x).sc.length ((Go.Proofs.YtcmopnkldplngabGreatDoor.exsW E w x).put 28 0 0) b).put 27 0 0).lay (Go.Proofs.YtcmopnkldplngabGreatDoor.exsW E w x).code.length).code[(Go.Proofs.YtcmopnkldplngabGreatDoor.smsW E (Go.Proofs.YtcmopnkldplngabGreatDoor.exsW E w x).sc.length ((Go.Proofs.YtcmopnkldplngabGreatDoor.exsW E w x).put 28 0 0) b).code.length]?=some ⟨27,0,0⟩:=by
             refine lay_ne ?_ (by omega)
             simp [Ws.put]
           rw [h3] at hz
           cases hz
           exact ⟨by show (27:Nat)≠1; omega,by show (27:Nat)≠24; omega⟩
       · split
         · have hPut:=Gd.jump hB 27 (w.code.length:Int) 0 (by omega) (by omega) (P':=fun i=>(P i∨i=(Go.Proofs.YtcmopnkldplngabGreatDoor.exsW E w x).code.length)∨i=(Go.Proofs.YtcmopnkldplngabGreatDoor.smsW E (Go.Proofs.YtcmopnkldplngabGreatDoor.exsW E w x).sc.length ((Go.Proofs.YtcmopnkldplngabGreatDoor.exsW E w x).put 28 0 0) b).code.length) (fun i=>Iff.rfl)
           refine hPut.lay' (p:=(Go.Proofs.YtcmopnkldplngabGreatDoor.exsW E w x).code.length) (fun z hz=>?_) rfl ?_
           · rw [put_pre _ _ _ _ (by omega)] at hz
             exact op_there b2 rfl (by omega) (by omega) z hz
           · exact hB.jk.loop (P:=P) (fun i=>Iff.rfl) ⟨_,jump_there b2,rfl⟩ g1 (fun hh=>by have:=hP _ hh; omega)
         · split
           · exact h0.put 33 _ 0 ⟨by decide,by decide,by decide,by decide⟩ (by decide) (by decide)
           · split
             · exact h0.tag _ _
             · split
               · exact h0.put 25 _ 0 ⟨by decide,by decide,by decide,by decide⟩ (by decide) (by decide)
               · split
                 · exact h0.put 26 _ 0 ⟨by decide,by decide,by decide,by decide⟩ (by decide) (by decide)
                 · split
                   · exact h0.put 32 _ 0 ⟨by decide,by decide,by decide,by decide⟩ (by decide) (by decide)
                   · exact h0
theorem Gd.smsW (E:Env) (m:Nat):∀ (l:List Sm) {P:Nat→Prop} {w:Ws},Gd F P w→(∀ i,P i→i<w.code.length)→Gd F P (smsW E m w l)
 | [],P,w,h,hP=>by rw [Go.Proofs.YtcmopnkldplngabGreatDoor.smsW]; exact h.same rfl rfl rfl
 | x :: r,P,w,h,hP=>by
   rw [Go.Proofs.YtcmopnkldplngabGreatDoor.smsW]
   obtain ⟨h1,-⟩:=smW_pre E w x
   exact Gd.smsW E m r (Gd.smW E x h hP) (fun i hi=>Nat.lt_of_lt_of_le (hP i hi) h1)
end
end
structure Gm (m:Mk):Prop where
 nc:m.cs.Nodup
 nt:m.ts.Nodup
 uc:∀ i,i<m.cs.length→Used 1 i (m.fns.map Fnc.code)
 ut:∀ i,i<m.ts.length→Used 24 i (m.fns.map Fnc.code)
 rc:∀ c∈m.fns.map Fnc.code,∀ x∈c,(x.op=1→∃ i:Nat,i<m.cs.length∧x.a=(i:Int))∧(x.op=24→∃ i:Nat,i<m.ts.length∧x.a=(i:Int))
 jk:∀ c∈m.fns.map Fnc.code,Jok (fun _ => False) c
theorem Used.more {o i:Nat} {F:List (List In3)} (c:List In3) (h:Used o i F):Used o i (F ++ [c]):=by
 obtain ⟨d,hd,h2⟩:=h
 exact ⟨d,List.mem_append_left _ hd,h2⟩
theorem lets_same (l:Tss):∀ w:Ws,(lets w l).cs=w.cs∧(lets w l).ts=w.ts∧(lets w l).code=w.code:=by
 induction l with
 | nil=>intro w; exact ⟨rfl,rfl,rfl⟩
 | cons s r ih =>
   intro w
   show (lets (w.let_ s) r).cs = _ ∧ _
   obtain ⟨h1,h2,h3⟩:=ih (w.let_ s)
   exact ⟨h1,h2,h3⟩
theorem Gm.bd {m:Mk} (h:Gm m) (E:Env) (state:Tss) (b:Bd):Gd (m.fns.map Fnc.code) (fun _ => False) (bdW E m.cs m.ts state b):=by
 refine Gd.smsW E _ _ ?_ (fun i hi=>hi.elim)
 obtain ⟨a1,a2,a3⟩:=lets_same b.ps (lets ⟨m.cs,m.ts,[],0,[]⟩ state)
 obtain ⟨c1,c2,c3⟩:=lets_same state ⟨m.cs,m.ts,[],0,[]⟩
 refine Gd.same (w:=⟨m.cs,m.ts,[],0,[]⟩) ⟨h.nc,h.nt,fun i hi=>(h.uc i hi).more _,fun i hi=>(h.ut i hi).more _,?_,?_⟩ (a1.trans c1) (a2.trans c2) (a3.trans c3)
 · exact Gd.mk' h.rc (fun x hx=>by cases hx)
 · intro i x hx
   cases hx
theorem Gm.add {m:Mk} (h:Gm m) {w:Ws} (hw:Gd (m.fns.map Fnc.code) (fun _ => False) w) (f:Fnc) (hf:f.code=w.code):Gm ⟨w.cs,w.ts,m.fns ++ [f]⟩:=by
 have e:(m.fns ++ [f]).map Fnc.code=m.fns.map Fnc.code ++ [w.code]:=by rw [List.map_append,List.map_singleton,hf]
 refine ⟨hw.nc,hw.nt,?_,?_,?_,?_⟩
 · rw [e]; exact hw.uc
 · rw [e]; exact hw.ut
 · rw [e]; exact hw.rc
 · rw [e]
   intro d hd
   rcases List.mem_append.1 hd with hd | hd
   · exact h.jk d hd
   · rw [List.mem_singleton.1 hd]; exact hw.jk
theorem Gm.fn {m:Mk} (h:Gm m) (E:Env) (b:Bd):Gm (m.fn E b) :=
 h.add (w:=fnE (bdW E m.cs m.ts [] b)) (((h.bd E [] b).cst _).put 33 0 0 ⟨by decide,by decide,by decide,by decide⟩ (by decide) (by decide)) _ rfl
theorem Gm.on {m:Mk} (h:Gm m) (E:Env) (state:Tss) (b:Bd):Gm (m.on E state b) :=
 h.add (w:=rlE (bdW E m.cs m.ts state b)) ((h.bd E state b).put 34 0 0 ⟨by decide,by decide,by decide,by decide⟩ (by decide) (by decide)) _ rfl
theorem Gm.fold {E:Env}:∀ (l:List Bd) {m:Mk},Gm m→Gm (l.foldl (Mk.fn E) m)
 | [],m,h=>h
 | b :: r,m,h=>Gm.fold r (h.fn E b)
theorem Gm.ons {E:Env} {state:Tss}:∀ (l:List Bd) {m:Mk},Gm m→Gm (onsM E state m l)
 | [],m,h=>h
 | b :: r,m,h=>Gm.ons r (h.on E state b)
theorem Gm.roles {E:Env}:∀ (l:List Rl) {m:Mk},Gm m→Gm (rolesM E m l)
 | [],m,h=>h
 | b :: r,m,h=>Gm.roles r (Gm.ons b.on h)
theorem comp_once (g:Pg):Gm (mkP g):=Gm.roles _ (Gm.fold _ ⟨by simp,by simp,by simp,by simp,by simp,by simp⟩)
end Go.Proofs.YtcmopnkldplngabGreatDoor
namespace Go.Proofs.YtcmopnkldplngabGreatDoor
set_option linter.unusedVariables false
theorem exO_same (E:Env) (w:Ws) (k:Nat) (s:List Nat) (n:Int) (kids:Nat):(exO E w k s n kids).ts=w.ts∧(exO E w k s n kids).vars=w.vars∧(exO E w k s n kids).sc=w.sc∧(exO E w k s n kids).cs.length≤w.cs.length+1:=by
 have hc:∀ (w:Ws) (c:Cst),(w.cst c).cs.length≤w.cs.length+1:=fun w c=>by
   show (plcL c w.cs).length ≤ _
   unfold plcL
   split
   · omega
   · simp
 unfold exO
 repeat' split
 all_goals first | exact ⟨rfl,rfl,rfl,hc _ _⟩ | exact ⟨rfl,rfl,rfl,Nat.le_succ _⟩
def Sme (w w':Ws):Prop:=w'.ts=w.ts∧w'.vars=w.vars∧w'.sc=w.sc
theorem Sme.refl (w:Ws):Sme w w:=⟨rfl,rfl,rfl⟩
theorem Sme.trans {a b c:Ws} (h:Sme a b) (k:Sme b c):Sme a c:=⟨k.1.trans h.1,k.2.1.trans h.2.1,k.2.2.trans h.2.2⟩
mutual
theorem exW_same (E:Env) (w:Ws):∀ x:Ex,Sme w (exW E w x)∧(exW E w x).cs.length≤w.cs.length+exN x
 | .mk k s n l=>by
   rw [exW,exN]
   split
   · obtain ⟨h1,h2⟩:=skW_same E (opSkip s) w l
     exact ⟨h1,by omega⟩
   · obtain ⟨h1,h2⟩:=exsW_same E w l
     obtain ⟨a1,a2,a3,a4⟩:=exO_same E (exsW E w l) k s n l.length
     exact ⟨h1.trans ⟨a1,a2,a3⟩,by omega⟩
theorem exsW_same (E:Env) (w:Ws):∀ l:List Ex,Sme w (exsW E w l)∧(exsW E w l).cs.length≤w.cs.length+exsN l
 | []=>by rw [exsW,exsN]; exact ⟨Sme.refl _,by omega⟩
 | x :: r=>by
   rw [exsW,exsN]
   obtain ⟨h1,h2⟩:=exW_same E w x
   obtain ⟨h3,h4⟩:=exsW_same E (exW E w x) r
   exact ⟨h1.trans h3,by omega⟩
theorem skW_same (E:Env) (o:Nat) (w:Ws):∀ l:List Ex,Sme w (skW E o w l)∧(skW E o w l).cs.length≤w.cs.length+exsN l
 | []=>by rw [skW,exsN]; exact ⟨Sme.refl _,by omega⟩
 | x :: r=>by
   rw [skW,exsN]
   obtain ⟨h1,h2⟩:=exW_same E w x
   obtain ⟨h3,h4⟩:=sk2_same E (exW E w x).code.length ((exW E w x).put o 0 0) r
   have:((exW E w x).put o 0 0).cs.length=(exW E w x).cs.length:=rfl
   exact ⟨h1.trans (Sme.trans ⟨rfl,rfl,rfl⟩ h3),by omega⟩
theorem sk2_same (E:Env) (p:Nat) (w:Ws):∀ l:List Ex,Sme w (sk2 E p w l)∧(sk2 E p w l).cs.length≤w.cs.length+exsN l
 | []=>by rw [sk2,exsN]; exact ⟨⟨rfl,rfl,rfl⟩,Nat.le_refl _⟩
 | x :: r=>by
   rw [sk2,exsN]
   obtain ⟨h1,h2⟩:=exW_same E w x
   exact ⟨h1.trans ⟨rfl,rfl,rfl⟩,by show (exW E w x).cs.length ≤ _; omega⟩
end
structure Gr (n:Nat) (w w':Ws):Prop where
 code:w'.code.length≤w.code.length+n
 cs:w'.cs.length≤w.cs.length+n
 ts:w'.ts.length≤w.ts.length+n
 sc:w'.sc.length≤w.sc.length+n
 vars:w'.vars≤max w.vars (w.sc.length+n)
 pre:w.sc <+: w'.sc
theorem Gr.refl (w:Ws):Gr 0 w w:=⟨Nat.le_refl _,Nat.le_refl _,Nat.le_refl _,Nat.le_refl _,Nat.le_max_left _ _,List.prefix_refl _⟩
theorem Gr.trans {n m:Nat} {a b c:Ws} (h:Gr n a b) (k:Gr m b c):Gr (n+m) a c:=by
 have h1:=h.code; have h2:=h.cs; have h3:=h.ts; have h4:=h.sc; have h5:=h.vars
 have k1:=k.code; have k2:=k.cs; have k3:=k.ts; have k4:=k.sc; have k5:=k.vars
 exact ⟨by omega,by omega,by omega,by omega,by omega,h.pre.trans k.pre⟩
theorem Gr.mono {n m:Nat} {a b:Ws} (h:Gr n a b) (hm:n≤m):Gr m a b:=by
 have h1:=h.code; have h2:=h.cs; have h3:=h.ts; have h4:=h.sc; have h5:=h.vars
 exact ⟨by omega,by omega,by omega,by omega,by omega,h.pre⟩
theorem Gr.put (w:Ws) (o:Nat) (a b:Int):Gr 1 w (w.put o a b):=⟨by rw [put_len]; exact Nat.le_refl _,Nat.le_succ _,Nat.le_succ _,Nat.le_succ _,Nat.le_max_left _ _,List.prefix_refl _⟩
theorem Gr.lay (w:Ws) (p:Nat):Gr 0 w (w.lay p):=⟨by rw [lay_len]; exact Nat.le_refl _,Nat.le_refl _,Nat.le_refl _,Nat.le_refl _,Nat.le_max_left _ _,List.prefix_refl _⟩
theorem Gr.cst (w:Ws) (c:Cst):Gr 1 w (w.cst c):=⟨by rw [cst_len]; exact Nat.le_refl _,by
 show (plcL c w.cs).length ≤ _
 unfold plcL
 split
 · omega
 · simp,Nat.le_succ _,Nat.le_succ _,Nat.le_max_left _ _,List.prefix_refl _⟩
theorem Gr.tag (w:Ws) (s:List Nat) (b:Int):Gr 1 w (w.tag s b):=⟨by rw [tag_len]; exact Nat.le_refl _,Nat.le_succ _,by
 show (plcL s w.ts).length ≤ _
 unfold plcL
 split
 · omega
 · simp,Nat.le_succ _,Nat.le_max_left _ _,List.prefix_refl _⟩
theorem Gr.let_ (w:Ws) (s:List Nat):Gr 1 w (w.let_ s):=⟨Nat.le_succ _,Nat.le_succ _,Nat.le_succ _,by show (w.sc ++ [s]).length ≤ _; simp,by show max w.vars (w.sc.length+1) ≤ _; omega,List.prefix_append _ _⟩
theorem Gr.exs (E:Env) (w:Ws) (l:List Ex):Gr (exsN l) w (exsW E w l):=by
 obtain ⟨⟨h1,h2,h3⟩,h4⟩:=exsW_same E w l
 exact ⟨exsW_len E w l,h4,by rw [h1]; omega,by rw [h3]; omega,by rw [h2]; omega,by rw [h3]; exact List.prefix_refl _⟩
theorem Gr.take {n m:Nat} {a b:Ws} (h:Gr n a b) (hm:m=a.sc.length):Gr n a { b with sc:=b.sc.take m }:=by
 have h4:=h.sc
 obtain ⟨r,hr⟩:=h.pre
 have e:b.sc.take m=a.sc:=by rw [← hr,hm,List.take_left']; rfl
 exact ⟨h.code,h.cs,h.ts,by show (b.sc.take m).length ≤ _; rw [e]; omega,h.vars,by show a.sc <+: b.sc.take m; rw [e]; exact List.prefix_refl _⟩
theorem smsW_sc_le (E:Env) (m:Nat):∀ (l:List Sm) (w1:Ws),(smsW E m w1 l).sc.length≤m
 | [],w1=>by rw [smsW]; show (w1.sc.take _).length ≤ _; rw [List.length_take]; omega
 | x :: r,w1=>by rw [smsW]; exact smsW_sc_le E m r _
mutual
theorem smW_gr (E:Env) (w:Ws):∀ x:Sm,Gr (smN x) w (smW E w x)
 | .mk k s x b e ln=>by
   have h0:=Gr.exs E w x
   have hb:=smsW_gr' E (exsW E w x).sc.length ((exsW E w x).put 28 0 0) rfl b 0 ((exsW E w x).put 28 0 0) (Gr.refl _)
   rw [Nat.zero_add] at hb
   have hsc:(smsW E (exsW E w x).sc.length ((exsW E w x).put 28 0 0) b).sc.length=(exsW E w x).sc.length:=Nat.le_antisymm (smsW_sc_le E _ b _) hb.pre.length_le
   have he:=smsW_gr' E (exsW E w x).sc.length (((smsW E (exsW E w x).sc.length ((exsW E w x).put 28 0 0) b).put 27 0 0).lay (exsW E w x).code.length) hsc.symm e 0 (((smsW E (exsW E w x).sc.length ((exsW E w x).put 28 0 0) b).put 27 0 0).lay (exsW E w x).code.length) (Gr.refl _)
   rw [Nat.zero_add] at he
   rw [smW,smN]
   by_cases h4:k=4
   · subst h4
     rw [if_pos (show (4:Nat)=4∨(4:Nat)=3∧e≠[] from .inl rfl),if_neg (show ¬ (4:Nat)=1 by omega),if_neg (show ¬ (4:Nat)=2 by omega),if_neg (show ¬ (4:Nat)=3 by omega),if_pos (show (4:Nat)=4 from rfl)]
     exact ((((h0.trans (Gr.put _ _ _ _)).trans hb).trans (Gr.put _ _ _ _)).trans (Gr.lay _ _)).mono (by omega)
   · by_cases h3:k=3
     · subst h3
       rw [if_neg (show ¬ (3:Nat)=1 by omega),if_neg (show ¬ (3:Nat)=2 by omega),if_pos (show (3:Nat)=3 from rfl)]
       by_cases hee:e=[]
       · rw [if_pos hee]
         exact (((h0.trans (Gr.put _ _ _ _)).trans hb).trans (Gr.lay _ _)).mono (by omega)
       · rw [if_neg hee,if_pos (show (3:Nat)=4∨(3:Nat)=3∧e≠[] from .inr ⟨rfl,hee⟩)]
         exact ((((((h0.trans (Gr.put _ _ _ _)).trans hb).trans (Gr.put _ _ _ _)).trans (Gr.lay _ _)).trans he).trans (Gr.lay _ _)).mono (by omega)
     · rw [if_neg (show ¬ (k=4∨k=3∧e≠[]) by omega),if_neg h3,if_neg h4]
       split
       · have:=h0.trans (Gr.let_ (exsW E w x) s)
         refine ⟨?_,?_,?_,?_,?_,this.pre⟩
         · rw [put_len]; show (exsW E w x).code.length+1 ≤ _; have:=h0.code; omega
         · exact Nat.le_trans this.cs (by omega)
         · exact Nat.le_trans this.ts (by omega)
         · exact Nat.le_trans this.sc (by omega)
         · have h5:=this.vars
           show ((exsW E w x).let_ s).vars ≤ _
           omega
       · repeat' split
         all_goals first | exact (h0.trans (Gr.put _ _ _ _)).mono (by omega) | exact (h0.trans (Gr.tag _ _ _)).mono (by omega) | exact h0.mono (by omega)
theorem smsW_gr' (E:Env) (m:Nat) (w0:Ws) (hm:m=w0.sc.length):∀ (l:List Sm) (n:Nat) (w:Ws),Gr n w0 w→Gr (n+smsN l) w0 (smsW E m w l)
 | [],n,w,h=>by rw [smsW,smsN]; exact h.take hm
 | x :: r,n,w,h=>by
   rw [smsW,smsN,← Nat.add_assoc]
   exact smsW_gr' E m w0 hm r _ _ (h.trans (smW_gr E w x))
end
theorem smsW_gr (E:Env) (w:Ws) (l:List Sm):Gr (smsN l) w (smsW E w.sc.length w l):=by
 have:=smsW_gr' E w.sc.length w rfl l 0 w (Gr.refl w)
 rwa [Nat.zero_add] at this
theorem smsW_sc (E:Env) (w:Ws) (l:List Sm):(smsW E w.sc.length w l).sc.length=w.sc.length:=Nat.le_antisymm (smsW_sc_le E _ l _) (smsW_gr E w l).pre.length_le
structure Rm (w:Ws) (n:Nat):Prop where
 code:w.code.length+n≤1000000
 cs:w.cs.length+n≤1000000
 ts:w.ts.length+n≤1000000
 sc:w.sc.length+n≤1000000
 vars:w.vars≤1000000
theorem Rm.gr {a b:Ws} {n m:Nat} (h:Rm a (n+m)) (g:Gr n a b):Rm b m:=by
 have h1:=h.code; have h2:=h.cs; have h3:=h.ts; have h4:=h.sc; have h5:=h.vars
 have k1:=g.code; have k2:=g.cs; have k3:=g.ts; have k4:=g.sc; have k5:=g.vars
 exact ⟨by omega,by omega,by omega,by omega,by omega⟩
theorem Rm.mono {a:Ws} {n m:Nat} (h:Rm a n) (hm:m≤n):Rm a m:=by
 have h1:=h.code; have h2:=h.cs; have h3:=h.ts; have h4:=h.sc
 exact ⟨by omega,by omega,by omega,by omega,h.vars⟩
end Go.Proofs.YtcmopnkldplngabGreatDoor
namespace Go.Proofs.YtcmopnkldplngabGreatDoor
set_option linter.unusedVariables false
theorem fstE_zero {a b:Nat} (h:fstE a b=0):a=0∧b=0:=by
 unfold fstE at h
 split at h
 · rename_i ha; exact ⟨ha,h⟩
 · rename_i ha; exact absurd h ha
theorem fstF_zero {a b:Flt} (h:(fstF a b).1=0):a.1=0∧b.1=0:=by
 unfold fstF at h
 split at h
 · rename_i ha; exact ⟨ha,h⟩
 · rename_i ha; exact absurd h ha
theorem useA_mem {a:Ars} {s:List Nat} {k:Nat} (h:useA a s k=0):getA s a≠none:=by
 unfold useA at h
 intro e
 rw [e] at h
 cases h
theorem getA_mem {s:List Nat}:∀ {a:Ars},getA s a≠none→s∈a.map Prod.fst
 | [],h=>absurd rfl h
 | (t,k) :: r,h=>by
   rw [getA] at h
   split at h
   · rename_i e; subst e; simp
   · have:=getA_mem h
     simp only [List.map_cons,List.mem_cons]
     exact .inr this
theorem addA_mem {a:Ars} {s t:List Nat} {k:Nat} (h:s∈(addA a t k).map Prod.fst):s∈a.map Prod.fst∨s=t:=by
 unfold addA at h
 split at h
 · simpa [List.map_append] using h
 · exact .inl h
theorem fnsA_mem {s:List Nat} (l:List Bd) (h:s∈(fnsA l).map Prod.fst):s∈l.map Bd.name:=by
 have key:∀ (l:List Bd) (a:Ars),s∈(l.foldl (fun a b=>addA a b.name b.ps.length) a).map Prod.fst→s∈a.map Prod.fst∨s∈l.map Bd.name:=by
   intro l
   induction l with
   | nil=>intro a h; exact .inl h
   | cons b r ih =>
     intro a h
     rcases ih _ h with h | h
     · rcases addA_mem h with h | h
       · exact .inl h
       · exact .inr (by simp [h])
     · exact .inr (by simp only [List.map_cons,List.mem_cons]; exact .inr h)
 rcases key l [] h with h | h
 · cases h
 · exact h
structure EnvOk (c:Ck) (E E':Env):Prop where
 f:∀ s,getA s c.fns≠none→locL s E.fns=locL s E'.fns
 r:∀ s,getA s c.roles≠none→locL s E.roles=locL s E'.roles
theorem exO_env {c:Ck} {E E':Env} (h:EnvOk c E E') (w:Ws) (k:Nat) (s:List Nat) (n:Int) (kids:Nat) (nm:Nms) (hz:exE c nm k s kids=0):exO E w k s n kids=exO E' w k s n kids:=by
 unfold exO
 unfold exE at hz
 by_cases h10:k=10
 · subst h10
   rw [if_neg (by omega),if_pos rfl] at hz
   rw [h.f s (useA_mem hz)]
   rfl
 · by_cases h11:k=11
   · subst h11
     rw [if_neg (by omega),if_neg (by omega),if_pos rfl] at hz
     rw [h.r s (useA_mem hz)]
     rfl
   · rw [if_neg (show ¬ k=10 from h10),if_neg (show ¬ k=11 from h11),if_neg (show ¬ k=10 from h10),if_neg (show ¬ k=11 from h11)]
section
variable {c:Ck} {E E':Env}
mutual
theorem exW_env (h:EnvOk c E E') (nm:Nms):∀ (x:Ex) (w:Ws),exC c nm x=0→exW E w x=exW E' w x
 | .mk k s n l,w,hz=>by
   rw [exC] at hz
   obtain ⟨h1,h2⟩:=fstE_zero hz
   rw [exW,exW]
   split
   · exact skW_env h nm (opSkip s) l w h1
   · rw [exsW_env h nm l w h1]
     exact exO_env h _ k s n _ nm h2
theorem exsW_env (h:EnvOk c E E') (nm:Nms):∀ (l:List Ex) (w:Ws),exsC c nm l=0→exsW E w l=exsW E' w l
 | [],w,hz=>by rw [exsW,exsW]
 | x :: r,w,hz=>by
   rw [exsC] at hz
   obtain ⟨h1,h2⟩:=fstE_zero hz
   rw [exsW,exsW,exW_env h nm x w h1,exsW_env h nm r _ h2]
theorem skW_env (h:EnvOk c E E') (nm:Nms) (o:Nat):∀ (l:List Ex) (w:Ws),exsC c nm l=0→skW E o w l=skW E' o w l
 | [],w,hz=>by rw [skW,skW]
 | x :: r,w,hz=>by
   rw [exsC] at hz
   obtain ⟨h1,h2⟩:=fstE_zero hz
   rw [skW,skW,exW_env h nm x w h1]
   exact sk2_env h nm _ r _ h2
theorem sk2_env (h:EnvOk c E E') (nm:Nms) (p:Nat):∀ (l:List Ex) (w:Ws),exsC c nm l=0→sk2 E p w l=sk2 E' p w l
 | [],w,hz=>by rw [sk2,sk2]
 | x :: r,w,hz=>by
   rw [exsC] at hz
   obtain ⟨h1,h2⟩:=fstE_zero hz
   rw [sk2,sk2,exW_env h nm x w h1]
end
mutual
theorem smW_env (h:EnvOk c E E'):∀ (x:Sm) (nm:Nms) (w:Ws),(smC c nm x).1=0→smW E w x=smW E' w x
 | .mk k s x b e ln,nm,w,hz=>by
   rw [smC] at hz
   split at hz
   · rename_i h0
     obtain ⟨h1,h2⟩:=fstE_zero h0
     obtain ⟨h3,h4⟩:=fstF_zero hz
     have hb:=fun m w=>smsW_env h b (scF nm k s) m w h3
     have he:=fun m w=>smsW_env h e (scF nm k s) m w h4
     rw [smW,smW,exsW_env h nm x w h1]
     simp only [hb,he]
     by_cases h7:k=7
     · subst h7
       unfold stE at h2
       rw [if_neg (by omega),if_neg (by omega),if_neg (by omega),if_neg (by omega),if_pos rfl] at h2
       rw [h.r s (useA_mem (fstE_zero h2).2)]
     · rw [if_neg (show ¬ k=7 from h7),if_neg (show ¬ k=7 from h7)]
   · rename_i h0
     exact absurd hz h0
theorem smsW_env (h:EnvOk c E E'):∀ (l:List Sm) (nm:Nms) (m:Nat) (w:Ws),(smsC c nm l).1=0→smsW E m w l=smsW E' m w l
 | [],nm,m,w,hz=>by rw [smsW,smsW]
 | x :: r,nm,m,w,hz=>by
   rw [smsC_cons] at hz
   obtain ⟨h1,h2⟩:=fstF_zero hz
   rw [smsW,smsW,smW_env h x nm w h1]
   exact smsW_env h r (scS nm x) m _ h2
end
theorem bdW_env (h:EnvOk c E E') (cs:List Cst) (ts st st':Tss) (b:Bd) (hz:(bdC c st' b).1=0):bdW E cs ts st b=bdW E' cs ts st b:=by
 unfold bdC at hz
 split at hz
 · cases hz
 · split at hz
   · cases hz
   · exact smsW_env h _ _ _ _ hz
theorem foldl_env (h:EnvOk c E E'):∀ (l:List Bd) (a:Nms) (m:Mk),(bdsC c [] a l).1=0→l.foldl (Mk.fn E) m=l.foldl (Mk.fn E') m
 | [],a,m,hz=>rfl
 | b :: r,a,m,hz=>by
   rw [bdsC] at hz
   split at hz
   · cases hz
   · obtain ⟨h1,h2⟩:=fstF_zero hz
     rw [List.foldl_cons,List.foldl_cons]
     have e:Mk.fn E m b=Mk.fn E' m b:=by unfold Mk.fn; rw [bdW_env h m.cs m.ts [] [] b h1]
     rw [e]
     exact foldl_env h r _ _ h2
end
theorem bdsC_nodup {c:Ck} {st:Nms}:∀ (l:List Bd) (a:Nms),(bdsC c st a l).1=0→(∀ b∈l,b.name ∉ a)∧(l.map Bd.name).Nodup
 | [],a,hz=>by simp
 | b :: r,a,hz=>by
   rw [bdsC] at hz
   split at hz
   · cases hz
   · rename_i hn
     obtain ⟨h1,h2⟩:=bdsC_nodup r _ (fstF_zero hz).2
     refine ⟨fun d hd=>?_,?_⟩
     · rcases List.mem_cons.1 hd with rfl | hd
       · exact hn
       · intro hh
         exact h1 d hd (by simp [hh])
     · rw [List.map_cons,List.nodup_cons]
       refine ⟨fun hh=>?_,h2⟩
       obtain ⟨d,hd,e⟩:=List.mem_map.1 hh
       exact h1 d hd (by simp [e])
theorem locL_app {s:List Nat}:∀ (r l:Tss),s ∉ r→locL s (l ++ r)=locL s l
 | [],l,h=>by rw [List.append_nil]
 | t :: r,l,h=>by
   have e:l ++ t :: r=(l ++ [t]) ++ r:=by simp
   rw [e,locL_app r _ (fun hh=>h (by simp [hh])),locL_snoc,if_neg (fun e=>h (by simp [e]))]
theorem fn_grows {E:Env} (m:Mk) (b:Bd):m.fns <+: (m.fn E b).fns:=List.prefix_append _ _
theorem fold_grows {E:Env}:∀ (l:List Bd) (m:Mk),m.fns <+: (l.foldl (Mk.fn E) m).fns
 | [],m=>List.prefix_refl _
 | b :: r,m=>(fn_grows (E:=E) m b).trans (fold_grows r (m.fn E b))
theorem ons_grows {E:Env} {st:Tss}:∀ (l:List Bd) (m:Mk),m.fns <+: (onsM E st m l).fns
 | [],m=>List.prefix_refl _
 | b :: r,m=>(show m.fns <+: (m.on E st b).fns from List.prefix_append _ _).trans (ons_grows r (m.on E st b))
theorem roles_grow {E:Env}:∀ (l:List Rl) (m:Mk),m.fns <+: (rolesM E m l).fns
 | [],m=>List.prefix_refl _
 | b :: r,m=>(ons_grows b.on m).trans (roles_grow r _)
theorem checkF_zero {g:Pg} (h:(checkF g).1=0):rightP g=true∧(bdsC ⟨fnsA g.fns,rolesA g.roles,true⟩ [] [] g.fns).1=0∧(rlsC ⟨fnsA g.fns,rolesA g.roles,false⟩ [] g.roles).1=0:=by
 unfold checkF at h
 split at h
 · rename_i hr
   unfold checkG at h
   exact ⟨hr,fstF_zero h⟩
 · cases h
theorem comp_apart (g:Pg) (k:Nat) (h:(checkF g).1=0) (h':(checkF ⟨g.fns.take k,[]⟩).1=0):(compG ⟨g.fns.take k,[]⟩).fns <+: (compG g).fns:=by
 obtain ⟨-,h1,-⟩:=checkF_zero h
 obtain ⟨-,h2,-⟩:=checkF_zero h'
 obtain ⟨-,hnd⟩:=bdsC_nodup _ _ h1
 have ok:EnvOk ⟨fnsA (g.fns.take k),rolesA [],true⟩ (envP ⟨g.fns.take k,[]⟩) (envP g):=by
   refine ⟨fun s hs=>?_,fun s hs=>absurd rfl hs⟩
   have hm:=fnsA_mem _ (getA_mem hs)
   have e:g.fns.map Bd.name=(g.fns.take k).map Bd.name ++ (g.fns.drop k).map Bd.name:=by rw [← List.map_append,List.take_append_drop]
   rw [e,List.nodup_append] at hnd
   show locL s ((g.fns.take k).map Bd.name)=locL s (g.fns.map Bd.name)
   rw [e,locL_app _ _ (fun hh=>hnd.2.2 s hm s hh rfl)]
 have e1:=foldl_env ok (g.fns.take k) [] ⟨[],[],[]⟩ h2
 show (mkP ⟨g.fns.take k,[]⟩).fns <+: (mkP g).fns
 have e2:(mkP ⟨g.fns.take k,[]⟩).fns=((g.fns.take k).foldl (Mk.fn (envP g)) ⟨[],[],[]⟩).fns:=by rw [← e1]; rfl
 rw [e2]
 have e3:g.fns.foldl (Mk.fn (envP g)) ⟨[],[],[]⟩=(g.fns.drop k).foldl (Mk.fn (envP g)) ((g.fns.take k).foldl (Mk.fn (envP g)) ⟨[],[],[]⟩):=by
   rw [← List.foldl_append,List.take_append_drop]
 show _ <+: (rolesM (envP g) (g.fns.foldl (Mk.fn (envP g)) ⟨[],[],[]⟩) g.roles).fns
 rw [e3]
 exact (fold_grows _ _).trans (roles_grow _ _)
end Go.Proofs.YtcmopnkldplngabGreatDoor
namespace Go.Proofs.YtcmopnkldplngabGreatDoor
set_option linter.unusedVariables false
def Low (n:Nat):Prop:=n=0∨n=110
theorem Low.fst {a b:Nat} (ha:Low a) (hb:Low b):Low (fstE a b):=by
 unfold fstE
 split
 · exact hb
 · exact ha
theorem Low.fstF {a b:Flt} (ha:Low a.1) (hb:Low b.1):Low (fstF a b).1:=by
 unfold Go.Proofs.YtcmopnkldplngabGreatDoor.fstF
 split
 · exact hb
 · exact ha
structure SubC (c d:Ck):Prop where
 f:∀ s k,useA c.fns s k=0→Low (useA d.fns s k)
 r:∀ s k,useA c.roles s k=0→Low (useA d.roles s k)
 b:c.fn=d.fn
section
variable {c d:Ck}
theorem exE_low (h:SubC c d) (n:Nms) (k:Nat) (s:List Nat) (m:Nat) (hz:exE c n k s m=0):Low (exE d n k s m):=by
 unfold exE at hz ⊢
 split
 · rename_i h4
   rw [if_pos h4] at hz
   exact .inl hz
 · rename_i h4
   rw [if_neg h4] at hz
   split
   · rename_i h10
     rw [if_pos h10] at hz
     exact h.f _ _ hz
   · rename_i h10
     rw [if_neg h10] at hz
     split
     · rename_i h11
       rw [if_pos h11] at hz
       exact h.r _ _ hz
     · exact .inl rfl
mutual
theorem exC_low (h:SubC c d) (n:Nms):∀ x:Ex,exC c n x=0→Low (exC d n x)
 | .mk k s m l,hz=>by
   rw [exC] at hz
   obtain ⟨h1,h2⟩:=fstE_zero hz
   rw [exC]
   exact (exsC_low h n l h1).fst (exE_low h n k s _ h2)
theorem exsC_low (h:SubC c d) (n:Nms):∀ l:List Ex,exsC c n l=0→Low (exsC d n l)
 | [], _ => by rw [exsC]; exact .inl rfl
 | x :: r,hz=>by
   rw [exsC] at hz
   obtain ⟨h1,h2⟩:=fstE_zero hz
   rw [exsC]
   exact (exC_low h n x h1).fst (exsC_low h n r h2)
end
theorem stE_low (h:SubC c d) (n:Nms) (k:Nat) (s:List Nat) (m:Nat) (hz:stE c n k s m=0):Low (stE d n k s m):=by
 unfold stE at hz ⊢
 rw [← h.b]
 by_cases h1:k=1
 · rw [if_pos h1] at hz ⊢
   exact .inl hz
 · rw [if_neg h1] at hz ⊢
   by_cases h2:k=2
   · rw [if_pos h2] at hz ⊢
     exact .inl hz
   · rw [if_neg h2] at hz ⊢
     by_cases h5:k=5
     · rw [if_pos h5] at hz ⊢
       exact .inl hz
     · rw [if_neg h5] at hz ⊢
       by_cases h8:k=8
       · rw [if_pos h8] at hz ⊢
         exact .inl hz
       · rw [if_neg h8] at hz ⊢
         by_cases h7:k=7
         · rw [if_pos h7] at hz ⊢
           obtain ⟨e1,e2⟩:=fstE_zero hz
           exact Low.fst (.inl e1) (h.r _ _ e2)
         · rw [if_neg h7]
           exact .inl rfl
mutual
theorem smC_low (h:SubC c d):∀ (x:Sm) (n:Nms),(smC c n x).1=0→Low (smC d n x).1
 | .mk k s x b e ln,n,hz=>by
   rw [smC] at hz
   split at hz
   · rename_i h0
     obtain ⟨h1,h2⟩:=fstE_zero h0
     obtain ⟨h3,h4⟩:=fstF_zero hz
     rw [smC]
     split
     · exact (smsC_low h b _ h3).fstF (smsC_low h e _ h4)
     · exact (exsC_low h n x h1).fst (stE_low h n k s _ h2)
   · rename_i h0
     exact absurd hz h0
theorem smsC_low (h:SubC c d):∀ (l:List Sm) (n:Nms),(smsC c n l).1=0→Low (smsC d n l).1
 | [],n, _ => by rw [smsC]; exact .inl rfl
 | x :: r,n,hz=>by
   rw [smsC_cons] at hz
   obtain ⟨h1,h2⟩:=fstF_zero hz
   rw [smsC_cons]
   exact (smC_low h x n h1).fstF (smsC_low h r _ h2)
end
theorem bdC_low (h:SubC c d) (st:Nms) (b:Bd) (hz:(bdC c st b).1=0):Low (bdC d st b).1:=by
 unfold bdC at hz ⊢
 cases ha:addN st b.ps with
 | none=>rw [ha] at hz; cases hz
 | some sc =>
   rw [ha] at hz
   dsimp only at hz ⊢
   by_cases h30:30<sc.length
   · rw [if_pos h30] at hz
     cases hz
   · rw [if_neg h30] at hz ⊢
     exact smsC_low h _ _ hz
theorem bdsC_low (h:SubC c d) (st:Nms):∀ (l:List Bd) (a:Nms) (k:Nat),(bdsC c st a l).1=0→Low (bdsC d st a (l.take k)).1
 | [],a,k, _ => by
   rw [List.take_nil,bdsC]
   exact .inl rfl
 | b :: r,a,0, _ => by
   rw [List.take_zero,bdsC]
   exact .inl rfl
 | b :: r,a,k+1,hz=>by
   rw [bdsC] at hz
   by_cases hn:b.name∈a
   · rw [if_pos hn] at hz
     cases hz
   · rw [if_neg hn] at hz
     obtain ⟨h1,h2⟩:=fstF_zero hz
     rw [List.take_succ_cons,bdsC,if_neg hn]
     exact (bdC_low h st b h1).fstF (bdsC_low h st r _ k h2)
end
theorem getA_add {s:List Nat} {a:Ars} {t:List Nat} {k m:Nat} (h:getA s a=some m):getA s (addA a t k)=some m:=by
 unfold addA
 split
 · rw [getA_append,h]
 · exact h
theorem getA_fold {s:List Nat}:∀ (l:List Bd) (a:Ars) (m:Nat),getA s a=some m→getA s (l.foldl (fun a b=>addA a b.name b.ps.length) a)=some m
 | [],a,m,h=>h
 | b :: r,a,m,h=>by
   rw [List.foldl_cons]
   exact getA_fold r _ m (getA_add h)
theorem fns_sub (l:List Bd) (k:Nat) (s:List Nat) (n:Nat) (h:useA (fnsA l) s n=0):Low (useA (fnsA (l.take k)) s n):=by
 cases hg:getA s (fnsA (l.take k)) with
 | none =>
   right
   unfold useA
   rw [hg]
 | some m =>
   have h2:getA s (fnsA l)=some m:=by
     have e:fnsA l=(l.drop k).foldl (fun a b=>addA a b.name b.ps.length) (fnsA (l.take k)):=by
       unfold fnsA
       rw [← List.foldl_append,List.take_append_drop]
     rw [e]
     exact getA_fold _ _ _ hg
   left
   unfold useA at h ⊢
   rw [h2] at h
   rw [hg]
   exact h
theorem bodiesR_take:∀ (l:List Bd) (c c':Nat) (k:Nat),bodiesR l c=some c'→∃ d,bodiesR (l.take k) c=some d
 | [],c,c',k,h=>⟨c,by rw [List.take_nil,bodiesR]⟩
 | b :: r,c,c',0,h=>⟨c,by rw [List.take_zero,bodiesR]⟩
 | b :: r,c,c',k+1,h=>by
   rw [bodiesR] at h
   rw [List.take_succ_cons,bodiesR]
   cases hb:bodyR b c with
   | none=>rw [hb] at h; cases h
   | some c1 =>
     rw [hb] at h
     exact bodiesR_take r c1 c' k h
theorem right_take {g:Pg} (h:rightP g=true) (k:Nat):rightP ⟨g.fns.take k,[]⟩=true:=by
 unfold rightP at h ⊢
 split at h
 · cases h
 · rename_i hn
   cases hb:bodiesR g.fns 2000 with
   | none=>rw [hb] at h; cases h
   | some c =>
     obtain ⟨d,hd⟩:=bodiesR_take _ _ _ k hb
     have e:bodiesR (Pg.fns ⟨g.fns.take k,[]⟩) 2000=some d:=hd
     rw [if_neg (by
       show ¬ 60<(g.fns.take k).length+0
       rw [List.length_take]
       omega),e]
     rfl
theorem apart_low (g:Pg) (k:Nat) (h:(checkF g).1=0):(checkF ⟨g.fns.take k,[]⟩).1=0∨(checkF ⟨g.fns.take k,[]⟩).1=110:=by
 obtain ⟨hr,h1,-⟩:=checkF_zero h
 unfold checkF
 rw [if_pos (right_take hr k)]
 have sub:SubC ⟨fnsA g.fns,rolesA g.roles,true⟩ ⟨fnsA (g.fns.take k),rolesA [],true⟩:=⟨fns_sub g.fns k,fun s n _ => .inr rfl,rfl⟩
 exact (bdsC_low sub [] g.fns [] k h1).fstF (.inl rfl)
end Go.Proofs.YtcmopnkldplngabGreatDoor
