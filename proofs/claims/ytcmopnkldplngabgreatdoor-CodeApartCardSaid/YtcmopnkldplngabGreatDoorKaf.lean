/- Texts Ka,Kb,Kc,Kd,Ke,Kf of this seat in one: see each part. -/
import Derived.Maps.OwnSet
import Derived.StringKeys
import Derived.Shelf.SlMaps.Clone
import Derived.Deep.QuietTactic
import Derived.BigQuiet
import Derived.Test.YtcmopnkldplngabGreatDoorTa
import Derived.Test.YtcmopnkldplngabGreatDoorTbe
namespace Go.Proofs.YtcmopnkldplngabGreatDoor
set_option linter.unusedVariables false
abbrev Nms:=List (List Nat)
def addN:Nms→Nms→Option Nms
 | n,[]=>some n
 | n,s :: r=>if s∈n then none else addN (n ++ [s]) r
abbrev Ars:=List (List Nat × Nat)
def getA (s:List Nat):Ars→Option Nat
 | []=>none
 | (t,k) :: r=>if t=s then some k else getA s r
def addA (a:Ars) (s:List Nat) (k:Nat):Ars:=match getA s a with
 | none=>a ++ [(s,k)]
 | some _ => a
def useA (a:Ars) (s:List Nat) (k:Nat):Nat:=match getA s a with
 | none=>110
 | some m=>if k=m then 0 else 111
def seeN (n:Nms) (s:List Nat):Nat:=if s∈n then 0 else 110
def letN (n:Nms) (s:List Nat):Nat:=if s∈n then 112 else if 30≤n.length then 102 else 0
def mayF (b:Bool):Nat:=if b then 0 else 113
structure Ck where
 fns:Ars
 roles:Ars
 fn:Bool
def exE (c:Ck) (n:Nms) (k:Nat) (s:List Nat) (kids:Nat):Nat :=
 if k=4 then seeN n s else if k=10 then useA c.fns s kids else if k=11 then useA c.roles s kids else 0
def fstE (a b:Nat):Nat:=if a=0 then b else a
mutual
def exC (c:Ck) (n:Nms):Ex→Nat
 | .mk k s m l=>fstE (exsC c n l) (exE c n k s l.length)
def exsC (c:Ck) (n:Nms):List Ex→Nat
 | []=>0
 | x :: r=>fstE (exC c n x) (exsC c n r)
end
def stE (c:Ck) (n:Nms) (k:Nat) (s:List Nat) (x:Nat):Nat :=
 if k=1 then letN n s else if k=2 then seeN n s else if k=5 then mayF c.fn else if k=8 then mayF (!c.fn)
 else if k=7 then fstE (mayF (!c.fn)) (useA c.roles s x) else 0
def scF (n:Nms) (k:Nat) (s:List Nat):Nms:=if k=1 then n ++ [s] else n
abbrev Flt:=Nat × Int
def fstF (a b:Flt):Flt:=if a.1=0 then b else a
def fl0:Flt:=(0,0)
mutual
def smC (c:Ck) (n:Nms):Sm→Flt
 | .mk k s x b e ln =>
   if fstE (exsC c n x) (stE c n k s x.length)=0 then fstF (smsC c (scF n k s) b) (smsC c (scF n k s) e)
   else (fstE (exsC c n x) (stE c n k s x.length),ln)
def smsC (c:Ck) (n:Nms):List Sm→Flt
 | []=>fl0
 | x :: r=>fstF (smC c n x) (smsC c (match x with | .mk k s _ _ _ _ => scF n k s) r)
end
def scS (n:Nms):Sm→Nms
 | .mk k s _ _ _ _ => scF n k s
theorem smsC_cons (c:Ck) (n:Nms) (x:Sm) (r:List Sm):smsC c n (x :: r)=fstF (smC c n x) (smsC c (scS n x) r):=by
 obtain ⟨k,s,y,b,e,ln⟩:=x
 rw [smsC]
 rfl
def bdC (c:Ck) (st:Nms) (b:Bd):Flt:=match addN st b.ps with
 | none=>(112,b.ln)
 | some sc=>if 30<sc.length then (102,b.ln) else smsC c sc b.st
def bdsC (c:Ck) (st:Nms):Nms→List Bd→Flt
 | _,[]=>fl0
 | a,b :: r=>if b.name∈a then (112,b.ln) else fstF (bdC c st b) (bdsC c st (a ++ [b.name]) r)
def rlC (c:Ck) (b:Rl):Flt:=match addN [] b.ps with
 | none=>(112,b.ln)
 | some st=>bdsC c st [] b.on
def rlsC (c:Ck):Nms→List Rl→Flt
 | _,[]=>fl0
 | a,b :: r=>if b.name∈a then (112,b.ln) else fstF (rlC c b) (rlsC c (a ++ [b.name]) r)
def fnsA (l:List Bd):Ars:=l.foldl (fun a b=>addA a b.name b.ps.length) []
def rolesA (l:List Rl):Ars:=l.foldl (fun a b=>addA a b.name b.ps.length) []
def checkG (g:Pg):Flt:=fstF (bdsC ⟨fnsA g.fns,rolesA g.roles,true⟩ [] [] g.fns) (rlsC ⟨fnsA g.fns,rolesA g.roles,false⟩ [] g.roles)
def checkF (g:Pg):Flt:=if rightP g then checkG g else (103,0)
theorem getA_append (s:List Nat):∀ (a b:Ars),getA s (a ++ b)=match getA s a with | none=>getA s b | some k=>some k
 | [],b=>rfl
 | (t,k) :: r,b=>by
   rw [List.cons_append,getA,getA]
   by_cases h:t=s
   · rw [if_pos h,if_pos h]
   · rw [if_neg h,if_neg h]
     exact getA_append s r b
theorem addN_nodup:∀ (n l:Nms) {m:Nms},n.Nodup→addN n l=some m→m.Nodup∧n <+: m∧∃ r,m=n ++ r∧r=l
 | n,[],m,hn,h=>by
   rw [addN] at h
   cases h
   exact ⟨hn,List.prefix_refl _,[],by simp,rfl⟩
 | n,s :: r,m,hn,h=>by
   rw [addN] at h
   split at h
   · cases h
   · rename_i hs
     have h1:(n ++ [s]).Nodup:=by
       rw [List.nodup_append]
       refine ⟨hn,by simp,fun a ha b hb=>?_⟩
       simp at hb
       subst hb
       exact fun e=>hs (e ▸ ha)
     obtain ⟨h2,h3,q,h4,h5⟩:=addN_nodup (n ++ [s]) r h1 h
     subst h5
     exact ⟨h2,(List.prefix_append n [s]).trans h3,s :: q,by rw [h4]; simp,rfl⟩
theorem addN_eq {n l m:Nms} (hn:n.Nodup) (h:addN n l=some m):m=n ++ l:=by
 obtain ⟨-,-,r,h1,h2⟩:=addN_nodup n l hn h
 rw [h1,h2]
end Go.Proofs.YtcmopnkldplngabGreatDoor
namespace Go.Proofs.YtcmopnkldplngabGreatDoor
open Go.RowKit
set_option linter.unusedVariables false
def nk (s:List Nat):Lit := .string (strOf s).data.toList
theorem nk_same (a b:List Nat) (ha:∀ x∈a,x<256) (hb:∀ x∈b,x<256):(nk a).sameKey (nk b)=decide (a=b):=by
 rw [← strOf_eq a b ha hb,ByteArray.toList_eq,ByteArray.toList_eq]
 rfl
theorem nk_ne {a b:List Nat} (ha:∀ x∈a,x<256) (hb:∀ x∈b,x<256) (h:a≠b):nk a≠nk b:=fun e=>by
 have h1:=nk_same a b ha hb
 rw [e,WideAt.sameKey_self (show WideAt.IsKeyLit (nk b) from trivial),decide_eq_false h] at h1
 cases h1
theorem str_key:Maps.Keyed Tryz.prog 9:=Maps.string_keyed Tryz.underlying9
theorem key_nk (s:List Nat) (hs:s.length≤140737488355328):keyOf Tryz.prog 9 (.string (strOf s))=some (nk s) :=
 WideMaps.keyOf_string_mk Tryz.underlying9 (by rw [strOf_size]; unfold maxLen; omega)
theorem zero_unit (w:World):(zeroValue 239).run Tryz.prog w = .ok (.agg #[]) w:=by kernel_rfl
theorem zero_int (w:World):(zeroValue 3).run Tryz.prog w = .ok (.int .i64 0) w:=by kernel_rfl
def nmD (l:Nms):DataW Unit:=Maps.setOf (.agg []) (l.map nk)
theorem nmD_snoc (l:Nms) (s:List Nat):nmD (l ++ [s])=(nmD l).put (nk s) (.agg []):=by
 unfold nmD
 rw [List.map_append]
 exact Maps.setOf_snoc _ _ _
theorem nk_keys (l:Nms):∀ x∈l.map nk,WideAt.IsKeyLit x:=fun y hy=>by
 obtain ⟨_, _,rfl⟩:=List.mem_map.1 hy
 trivial
theorem nm_has (l:Nms) (s:List Nat) (hl:∀ t∈l,∀ x∈t,x<256) (h8:∀ x∈s,x<256):Maps.has (nmD l) (nk s)=decide (s∈l):=by
 unfold nmD
 rw [Maps.has_setOf _ _ _ (nk_keys l),List.any_map]
 induction l with
 | nil=>rfl
 | cons t r ih =>
   rw [List.any_cons,ih (fun u hu=>hl u (List.mem_cons_of_mem _ hu))]
   show ((nk t).sameKey (nk s) || _) = _
   rw [nk_same t s (hl t (by simp)) h8,Bool.eq_iff_iff]
   simp only [Bool.or_eq_true,decide_eq_true_eq,List.mem_cons]
   exact ⟨fun h=>h.elim (fun e => .inl e.symm) .inr,fun h=>h.elim (fun e => .inl e.symm) .inr⟩
theorem nm_tidy (l:Nms):Maps.Tidy (nmD l):=Maps.tidy_setOf _ _ (nk_keys l)
theorem nm_size (l:Nms) (hl:∀ t∈l,∀ x∈t,x<256) (hd:l.Nodup):Maps.size (nmD l)=l.length:=by
 have key:∀ n,n≤l.length→Maps.size (nmD (l.take n))=n:=by
   intro n
   induction n with
   | zero=>intro _; rfl
   | succ n ih =>
     intro hn
     have e:l.take (n+1)=l.take n ++ [l[n]]:=List.take_succ_eq_append_getElem (by omega)
     have h1:l[n] ∉ l.take n:=by
       intro hm
       have h2:(l.take (n+1)).Nodup:=hd.sublist (List.take_sublist _ _)
       rw [e,List.nodup_append] at h2
       exact h2.2.2 _ hm _ (by simp) rfl
     rw [e,nmD_snoc,Maps.size_put (nm_tidy _),nm_has _ _ (fun t ht=>hl t (List.mem_of_mem_take ht)) (hl _ (List.getElem_mem _)),decide_eq_false h1,ih (by omega)]
     rfl
 have:=key l.length (Nat.le_refl _)
 rwa [List.take_length] at this
structure Ns (w:World) (b:Nat) (l:Nms):Prop where
 own:w.ownsMap Tryz.prog 9 unitElem b l.length (nmD l)
 nd:l.Nodup
 ok:∀ s∈l,∀ x∈s,x<256
section
variable {w w':World} {b q:Nat} {l:Nms}
theorem Ns.lt (h:Ns w b l):b<w.heap.size:=h.own.lt
theorem Ns.kp (h:Ns w b l) (k:Kp q w w') (hn:b≠q):Ns w' b l:=⟨h.own.kept k (fun e=>hn (Option.some.inj e)),h.nd,h.ok⟩
theorem Ns.below (h:Ns w b l) (k:Below w.heap.size w w'):Ns w' b l:=⟨h.own.kept (row:=none) ⟨k.os,k.tape,k.output,k.size,fun i hi _ => k.block i hi⟩ (by simp),h.nd,h.ok⟩
theorem Ns.alloc (h:Ns w b l) (o:Obj):Ns (w.alloc o) b l:=h.below ((Below.refl _ _).alloc (Nat.le_refl _) o)
theorem Ns.made (w:World):Ns (w.alloc (.map #[] 0)) w.heap.size []:=⟨World.ownsMap_made w _ _ _,by simp,by simp⟩
end
structure Ar (w:World) (b:Nat) (a:Ars):Prop where
 own:∃ D:DataW Unit,w.ownsMap Tryz.prog 9 (plainElem Tryz.prog 3) b a.length D∧Maps.IsMap D∧∀ s:List Nat,(∀ x∈s,x<256)→Maps.has D (nk s)=(getA s a).isSome∧∀ k,getA s a=some k→D.atKey (nk s) (.lit (.int .i64 0)) = .lit (.int .i64 (k:Int))
section
variable {w w':World} {b q:Nat} {a:Ars}
theorem Ar.lt (h:Ar w b a):b<w.heap.size:=by
 obtain ⟨D,h1,-⟩:=h.own
 exact h1.lt
theorem Ar.kp (h:Ar w b a) (k:Kp q w w') (hn:b≠q):Ar w' b a:=by
 obtain ⟨D,h1,h2⟩:=h.own
 exact ⟨D,h1.kept k (fun e=>hn (Option.some.inj e)),h2⟩
theorem Ar.below (h:Ar w b a) (k:Below w.heap.size w w'):Ar w' b a:=by
 obtain ⟨D,h1,h2⟩:=h.own
 exact ⟨D,h1.kept (row:=none) ⟨k.os,k.tape,k.output,k.size,fun i hi _ => k.block i hi⟩ (by simp),h2⟩
theorem Ar.made (w:World):Ar (w.alloc (.map #[] 0)) w.heap.size [] :=
 ⟨.map [],World.ownsMap_made w _ _ _,Maps.isMap_empty,fun s _ => ⟨rfl,fun k h=>by cases h⟩⟩
theorem ar_put {D:DataW Unit} (hm:Maps.IsMap D) (hD:∀ s:List Nat,(∀ x∈s,x<256)→Maps.has D (nk s)=(getA s a).isSome∧∀ k,getA s a=some k→D.atKey (nk s) (.lit (.int .i64 0)) = .lit (.int .i64 (k:Int))) (s:List Nat) (h8:∀ x∈s,x<256) (k:Nat) (hs:getA s a=none) :
   Maps.IsMap (D.put (nk s) (.lit (.int .i64 (k:Int))))∧∀ t:List Nat,(∀ x∈t,x<256)→Maps.has (D.put (nk s) (.lit (.int .i64 (k:Int)))) (nk t)=(getA t (a ++ [(s,k)])).isSome∧∀ j,getA t (a ++ [(s,k)])=some j→(D.put (nk s) (.lit (.int .i64 (k:Int)))).atKey (nk t) (.lit (.int .i64 0)) = .lit (.int .i64 (j:Int)):=by
 refine ⟨hm.put _ _,fun t ht=>?_⟩
 rw [getA_append]
 by_cases e:t=s
 · subst e
   rw [hs]
   dsimp only
   rw [getA,if_pos rfl]
   refine ⟨Maps.has_put_same (k:=nk t) hm (show WideAt.IsKeyLit (nk t) from trivial) _,fun j hj=>?_⟩
   cases hj
   exact Maps.atKey_put_same (k:=nk t) hm (show WideAt.IsKeyLit (nk t) from trivial) _ _
 · have hne:=nk_ne ht h8 e
   obtain ⟨h1,h2⟩:=hD t ht
   refine ⟨?_,fun j hj=>?_⟩
   · rw [Maps.has_put_other hne,h1]
     cases getA t a with
     | some j=>rfl
     | none =>
       dsimp only
       rw [getA,if_neg (fun h=>e h.symm),getA]
   · rw [Maps.atKey_put_other hne]
     apply h2
     cases ht2:getA t a with
     | some i=>rw [ht2] at hj; exact hj
     | none =>
       rw [ht2] at hj
       dsimp only at hj
       rw [getA,if_neg (fun h=>e h.symm),getA] at hj
       cases hj
end
def Txn (w:World) (q:Nat) (A:Option Addr) (l:Nms):Prop:=∀ i s,l[i]?=some s→∃ b o,A=some ⟨b,o,none⟩∧b≠q∧w.cell? ⟨b,o+i,none⟩=some (.string (strOf s))
theorem Txn.kp {w w':World} {q:Nat} {A:Option Addr} {l:Nms} (h:Txn w q A l) (k:Kp q w w'):Txn w' q A l:=fun i s hs=>by
 obtain ⟨b,o,h1,h2,h3⟩:=h i s hs
 exact ⟨b,o,h1,h2,(k.cellq (p:=⟨b,o+i,none⟩) (World.block_lt_of_cell? _ _ h3) h2).trans h3⟩
theorem Txn.below {w w':World} {q:Nat} {A:Option Addr} {l:Nms} (h:Txn w q A l) (k:Below w.heap.size w w'):Txn w' q A l:=h.kp (Kp.of_below k)
theorem Txn.of_rd {w:World} {S:Nat→Prop} {q c:Nat} {A:Option Addr} {l:Nms} (hr:Rds w S A 1 0 (l.map nmNd)) (hS:∀ b,S b→b≠q):Txn w q A l:=fun i s hs=>by
 obtain ⟨b,o,vs,h1,h2,h3,h4,h5⟩:=hr.at i (nmNd s) (by simp [hs])
 obtain ⟨hv,-,-⟩:=(nm_rd _ _).1 h5
 have hv2:vs=[.string (strOf s)]:=by
   injection hv with hv
   have:=congrArg Array.toList hv
   simpa using this
 subst hv2
 refine ⟨b,o,h1,hS b h2,?_⟩
 have:=h4 0 _ rfl
 rw [show o+(0+i)*1+0=o+i by omega] at this
 exact this
theorem Txn.one {w:World} {q:Nat} (hq:q≠w.heap.size) (s:List Nat) (t:TypeId):Txn (w.alloc (.cells #[.string (strOf s)] t)) q (some ⟨w.heap.size,0,none⟩) [s]:=fun i u hu=>by
 have hi:=(List.getElem?_eq_some_iff.1 hu).1
 simp at hi
 subst hi
 simp at hu
 subst hu
 exact ⟨_, _,rfl,fun e=>hq e.symm,by rw [cell_block (heap_new w _)]; rfl⟩
end Go.Proofs.YtcmopnkldplngabGreatDoor
namespace Go.Proofs.YtcmopnkldplngabGreatDoor
open Go.RowKit
set_option linter.unusedVariables false
theorem names_u:Tryz.prog.underlying 164=some (.map 9 239):=Tryz.underlying164
theorem ariti_u:Tryz.prog.underlying 159=some (.map 9 3):=Tryz.underlying159
set_option maxHeartbeats 1000000 in
theorem has_any {b:Nat} {l:Nms} (w:World) (h:Ns w b l) (s:List Nat) (h8:∀ x∈s,x<256) (hn:s.length≤140737488355328) :
   Calls Tryz.prog 152 #[.map (some b),.string (strOf s)] w fun e w'=>e = .returned (.bool (decide (s∈l)))∧Below w.heap.size w w':=by
 have hk:=Lib.hid (key_nk s hn)
 have hh:=Lib.hid (nm_has l s h.ok h8)
 have ho:=h.own
 generalize strOf s=S at *
 generalize nmD l=D at *
 go_enter Tryz.func152,Tryz.ntmps152
 go_wp2_with (first
   | (at_lookup
      refine wpList_lookup_own_unit _ rfl _ _ 164 rfl 9 239 str_key names_u (zero_unit _) b l.length D rfl ho _ _ rfl hk.out ?_)
   | (fail))
 go_ret
 exact ⟨by rw [hh.out]; rfl,(Below.refl _ _).alloc (Nat.le_refl _) _⟩
set_option maxHeartbeats 1000000 in
theorem see_any {b:Nat} {l:Nms} (w:World) (h:Ns w b l) (s:List Nat) (h8:∀ x∈s,x<256) (hn:s.length≤140737488355328) :
   Calls Tryz.prog 189 #[.map (some b),.string (strOf s)] w fun e w'=>e = .returned (.int .i64 (seeN l s:Nat))∧Below w.heap.size w w':=by
 have HH:=Lib.hid (has_any w h s h8 hn)
 unfold seeN
 by_cases hm:s∈l
 · rw [if_pos hm]
   rw [decide_eq_true hm] at HH
   clear h h8 hm
   go_enter Tryz.func189,Tryz.ntmps189
   go_wp2_with (first
     | (go_at_call 152
        refine HH.out.mono ?_
        rintro e w1 ⟨rfl,hb1⟩)
     | (fail))
   go_ret
   exact ⟨rfl,hb1⟩
 · rw [if_neg hm]
   rw [decide_eq_false hm] at HH
   clear h h8 hm
   go_enter Tryz.func189,Tryz.ntmps189
   go_wp2_with (first
     | (go_at_call 152
        refine HH.out.mono ?_
        rintro e w1 ⟨rfl,hb1⟩)
     | (fail))
   go_ret
   exact ⟨rfl,hb1⟩
theorem Ns.put {w w':World} {b:Nat} {l:Nms} {s:List Nat} (h:Ns w b l) (h8:∀ x∈s,x<256) (hs:s ∉ l) (ho:w'.ownsMap Tryz.prog 9 unitElem b (l.length+1) ((nmD l).put (nk s) (.agg []))):Ns w' b (l ++ [s]) :=
 ⟨by rw [List.length_append,nmD_snoc]; exact ho,by
   rw [List.nodup_append]
   refine ⟨h.nd,by simp,fun a ha c hc=>?_⟩
   simp at hc
   subst hc
   exact fun e=>hs (e ▸ ha),fun t ht=>by
   rcases List.mem_append.1 ht with ht | ht
   · exact h.ok t ht
   · rw [List.mem_singleton.1 ht]; exact h8⟩
def OutN (b:Nat) (w:World) (l ps:Nms) (e:Ending) (w':World):Prop :=
 e = .returned (.bool (addN l ps).isSome)∧(∃ l',Ns w' b l'∧∀ m,addN l ps=some m→l'=m)∧Kp b w w'
set_option maxRecDepth 100000 in
set_option maxHeartbeats 2000000 in
theorem add_any {b:Nat} {l:Nms} (w:World) (h:Ns w b l) (A:Option Addr) (c:Nat) (ps:Nms) (ht:Txn w b A ps) (h8:∀ s∈ps,∀ x∈s,x<256) (hn:∀ s∈ps,s.length≤140737488355328) (hl:l.length+ps.length≤1000000) :
   Calls Tryz.prog 107 #[.map (some b),.slice A ps.length c] w (OutN b w l ps):=by
 have HT:=Lib.hid ht
 have H8:=Lib.hid h8
 have HN:=Lib.hid hn
 have H0:=Lib.hid h
 have HHA:=Lib.hid (fun (w':World) (l':Nms) (s:List Nat) (h':Ns w' b l') (a:∀ x∈s,x<256) (c:s.length≤140737488355328)=>has_any w' h' s a c)
 obtain ⟨n,hnn⟩:∃ n,Hid (ps.length=n):=⟨_,Lib.hid rfl⟩
 rw [hnn.out] at hl ⊢
 obtain ⟨r,hr⟩:∃ r,Hid (addN l ps=r):=⟨_,Lib.hid rfl⟩
 unfold OutN
 rw [hr.out]
 clear h ht h8 hn
 go_enter Tryz.func107,Tryz.ntmps107
 go_wp2_with fail
 go_loopg [9] n (fun g i wr=>∃ (j:Nat) (lj:Nms),j+g=n∧i = .int .i64 (j:Int)∧lj.length+g≤1000000∧Hid (addN lj (ps.drop j)=r)∧Hid (Ns wr b lj)∧Hid (Kp b w wr))
 case atStart=>exact ⟨0,l,by omega,rfl,by omega,Lib.hid (by rw [List.drop_zero]; exact hr.out),H0,Lib.hid (Kp.refl _ _)⟩
 case round =>
   obtain ⟨j,lj,hj,rfl,hlj,HF,HJ,HK⟩:=hrel
   cases gk with
   | zero =>
     have h1:¬ (j:Int)<(n:Int):=by omega
     have HE:Hid (some lj=r):=Lib.hid (by rw [← HF.out,List.drop_eq_nil_of_le (by rw [hnn.out]; omega),addN])
     clear HF HHA
     go_wp2_with fail
     go_ret
     exact ⟨by rw [← HE.out]; rfl,⟨lj,HJ.out,fun m hm=>by rw [← HE.out] at hm; cases hm; rfl⟩,HK.out⟩
   | succ g =>
     have h1:(j:Int)<(n:Int):=by omega
     have h2:j<n:=by omega
     have hjl:j<ps.length:=by rw [hnn.out]; exact h2
     obtain ⟨bb,o,rfl,hbb,c0⟩:=(HT.out.kp HK.out) j ps[j] (List.getElem?_eq_getElem hjl)
     have HD:=Lib.hid (List.drop_eq_getElem_cons hjl)
     have HT8:=Lib.hid (H8.out _ (List.getElem_mem hjl))
     have HTN:=Lib.hid (HN.out _ (List.getElem_mem hjl))
     generalize ps[j]=s at *
     have HF2:=Lib.hid (HF.out.symm.trans (by rw [HD.out,addN]))
     have HHB:=Lib.hid (HHA.out wr lj s HJ.out HT8.out HTN.out)
     have hk:=Lib.hid (key_nk s HTN.out)
     clear HF HD hjl HHA
     by_cases hm:s∈lj
     · have HE:Hid (none=r):=Lib.hid (by rw [HF2.out,if_pos hm])
       rw [decide_eq_true hm] at HHB
       clear HF2 hm
       go_wp2_with (first
         | (go_at_call 152
            refine HHB.out.mono ?_
            rintro e w1 ⟨rfl,hb1⟩)
         | (fail))
       go_ret
       exact ⟨by rw [← HE.out]; rfl,⟨lj,HJ.out.below hb1,fun m hm=>by rw [← HE.out] at hm; cases hm⟩,HK.out.trans (Kp.of_below hb1)⟩
     · have HF3:Hid (addN (lj ++ [s]) (ps.drop (j+1))=r):=Lib.hid (by rw [HF2.out,if_neg hm])
       have HM:=Lib.hid hm
       rw [decide_eq_false hm] at HHB
       clear HF2 hm
       go_wp2_with (first
         | (go_at_call 152
            refine HHB.out.mono ?_
            rintro e w0 ⟨rfl,hb0⟩
            have HJ0:=Lib.hid (HJ.out.below hb0)
            have ho:=HJ0.out.own
            have HK0:Hid (Kp b w w0):=Lib.hid (HK.out.trans (Kp.of_below hb0))
            clear hb0)
         | (at_mapUpdate
            refine wpList_mapUpdate_own _ rfl _ _ _ 164 rfl 9 239 str_key names_u unitElem b lj.length _ rfl ho (by unfold maxLen; omega) _ _ _ rfl rfl hk.out _ [] unitElem_mk ?_
            intro w1 ho1 hg1
            have HJ1:=Lib.hid (HJ0.out.put HT8.out HM.out ho1)
            have HK1:Hid (Kp b w w1):=Lib.hid (HK0.out.trans hg1)
            clear ho1 hg1)
         | (fail))
       go_roundg g
       case measure=>omega
       case rel=>exact ⟨j+1, _,by omega,by go_num,by rw [List.length_append]; simp; omega,HF3,HJ1,HK1⟩
end Go.Proofs.YtcmopnkldplngabGreatDoor
namespace Go.Proofs.YtcmopnkldplngabGreatDoor
open Go.RowKit
set_option linter.unusedVariables false
def OutL (b:Nat) (w:World) (l:Nms) (s:List Nat) (e:Ending) (w':World):Prop :=
 e = .returned (.int .i64 (letN l s:Nat))∧(letN l s=0→Ns w' b (l ++ [s]))∧Kp b w w'
set_option maxRecDepth 100000 in
set_option maxHeartbeats 2000000 in
theorem let_any {b:Nat} {l:Nms} (w:World) (h:Ns w b l) (s:List Nat) (h8:∀ x∈s,x<256) (hn:s.length≤140737488355328) (hl:l.length≤100000) :
   Calls Tryz.prog 188 #[.map (some b),.string (strOf s)] w (OutL b w l s):=by
 have HH:=Lib.hid (has_any w h s h8 hn)
 have hsz:=nm_size l h.ok h.nd
 have H0:=Lib.hid h
 have hlt:=h.lt
 unfold OutL letN
 by_cases hm:s∈l
 · rw [if_pos hm]
   rw [decide_eq_true hm] at HH
   clear h h8 hm hsz
   go_enter Tryz.func188,Tryz.ntmps188
   go_wp2_with (first
     | (go_at_call 152
        refine HH.out.mono ?_
        rintro e w1 ⟨rfl,hb1⟩)
     | (fail))
   go_ret
   exact ⟨rfl,fun h=>by omega,Kp.of_below hb1⟩
 · rw [if_neg hm]
   rw [decide_eq_false hm] at HH
   obtain ⟨D,hD⟩:∃ D,Hid (nmD l=D):=⟨_,Lib.hid rfl⟩
   rw [hD.out] at hsz
   have hsz2:(Maps.size D:Int)=(l.length:Int):=by rw [hsz]
   have HSZ:=Lib.hid hsz2
   by_cases hc:30≤l.length
   · rw [if_pos hc]
     have t1:(30:Int)≤(Maps.size D:Int):=by omega
     have t2:(Maps.size D:Int) ≥ 30:=t1
     clear h h8 hm hsz hsz2 hc
     go_enter Tryz.func188,Tryz.ntmps188
     go_wp2_with (first
       | (go_at_call 152
          refine HH.out.mono ?_
          rintro e w1 ⟨rfl,hb1⟩
          have HB1:=Lib.hid hb1
          have HN1:=Lib.hid (H0.out.below hb1)
          have ho:w1.ownsMap Tryz.prog 9 unitElem b l.length D:=by rw [← hD.out]; exact HN1.out.own
          clear hb1)
       | (at_len
          refine wpList_len_own _ rfl _ 164 rfl 9 239 names_u unitElem b l.length D rfl ho ?_)
       | (fail))
     go_ret
     exact ⟨rfl,fun h=>by omega,Kp.of_below HB1.out⟩
   · rw [if_neg hc]
     have t1:¬ (30:Int)≤(Maps.size D:Int):=by omega
     have t2:¬ (Maps.size D:Int) ≥ 30:=t1
     have HA:=Lib.hid (fun w' (hb:Below w.heap.size w w')=>add_any (w'.alloc (.cells #[.string (strOf s)] 9)) ((h.below hb).alloc _) (some ⟨w'.heap.size,0,none⟩) 1 [s] (Txn.one (by have:=hb.size; omega) s _) (by intro u hu; rw [List.mem_singleton.1 hu]; exact h8) (by intro u hu; rw [List.mem_singleton.1 hu]; exact hn) (by simp; omega))
     have HE:Hid (addN l [s]=some (l ++ [s])):=Lib.hid (by rw [addN,if_neg hm,addN])
     clear h h8 hm hsz hsz2 hc
     go_enter Tryz.func188,Tryz.ntmps188
     go_wp2_with (first
       | (go_at_call 152
          refine HH.out.mono ?_
          rintro e w1 ⟨rfl,hb1⟩
          have HB1:=Lib.hid hb1
          have HN1:=Lib.hid (H0.out.below hb1)
          have ho:w1.ownsMap Tryz.prog 9 unitElem b l.length D:=by rw [← hD.out]; exact HN1.out.own
          clear hb1)
       | (at_len
          refine wpList_len_own _ rfl _ 164 rfl 9 239 names_u unitElem b l.length D rfl ho ?_)
       | (go_at_call 107
          refine (HA.out _ HB1.out).mono ?_
          rintro e w2 ⟨rfl,⟨l',hl',hl2⟩,hk1⟩
          have HL:Hid (Ns w2 b (l ++ [s])):=Lib.hid (by rw [← hl2 _ HE.out]; exact hl')
          have HK1:Hid (Kp b w w2):=Lib.hid (((Kp.of_below HB1.out).alloc _).trans hk1)
          clear hl' hl2 hk1)
       | (fail))
     go_ret
     exact ⟨rfl,fun _ => HL.out,HK1.out⟩
theorem may_any (x:Bool) (w:World):Calls Tryz.prog 190 #[.bool x] w fun e w'=>e = .returned (.int .i64 (mayF x:Nat))∧w'=w:=by
 unfold mayF
 cases x
 all_goals
   go_enter Tryz.func190,Tryz.ntmps190
   go_wp2_with fail
   go_ret
   exact ⟨rfl,rfl⟩
set_option maxHeartbeats 2000000 in
theorem use_any {b:Nat} {a:Ars} (w:World) (h:Ar w b a) (s:List Nat) (h8:∀ x∈s,x<256) (hn:s.length≤140737488355328) (k:Nat) :
   Calls Tryz.prog 191 #[.map (some b),.string (strOf s),.int .i64 (k:Int)] w fun e w'=>e = .returned (.int .i64 (useA a s k:Nat))∧w'=w:=by
 obtain ⟨D,ho,-,hD⟩:=h.own
 obtain ⟨h1,h2⟩:=hD s h8
 have hk:=Lib.hid (key_nk s hn)
 unfold useA
 cases hg:getA s a with
 | none =>
   rw [hg] at h1
   have H1:Hid (Maps.has D (nk s)=false):=Lib.hid h1
   have H1':=h1
   clear h h8 h2 hD hg h1
   dsimp only
   go_enter Tryz.func191,Tryz.ntmps191
   go_wp2_with (first
     | (at_lookup
        refine wpList_lookup_own_ok_int _ rfl _ _ 159 rfl 9 3 .i64 str_key ariti_u Tryz.underlying3 (zero_int _) b a.length D rfl ho _ _ rfl hk.out ?_
        intro c hc1 hc2
        have HC1:=Lib.hid hc1
        clear hc1 hc2)
     | (fail))
   go_ret
   exact ⟨rfl,rfl⟩
 | some m =>
   rw [hg] at h1
   have H1':Maps.has D (nk s)=true:=h1
   have H2:=Lib.hid (h2 m hg)
   clear h h8 h2 hD hg h1
   dsimp only
   by_cases hkm:k=m
   · rw [if_pos hkm]
     have t1:((k:Int) != (m:Int))=false:=by rw [hkm]; simp
     clear hkm
     go_enter Tryz.func191,Tryz.ntmps191
     go_wp2_with (first
       | (at_lookup
          refine wpList_lookup_own_ok_int _ rfl _ _ 159 rfl 9 3 .i64 str_key ariti_u Tryz.underlying3 (zero_int _) b a.length D rfl ho _ _ rfl hk.out ?_
          intro c hc1 hc2
          have hc:c=(m:Int):=by rw [H2.out] at hc1; simpa using hc1.symm
          subst hc
          clear hc1 hc2)
       | (fail))
     go_ret
     exact ⟨rfl,rfl⟩
   · rw [if_neg hkm]
     have t1:((k:Int) != (m:Int))=true:=bne_iff_ne.2 (by omega)
     clear hkm
     go_enter Tryz.func191,Tryz.ntmps191
     go_wp2_with (first
       | (at_lookup
          refine wpList_lookup_own_ok_int _ rfl _ _ 159 rfl 9 3 .i64 str_key ariti_u Tryz.underlying3 (zero_int _) b a.length D rfl ho _ _ rfl hk.out ?_
          intro c hc1 hc2
          have hc:c=(m:Int):=by rw [H2.out] at hc1; simpa using hc1.symm
          subst hc
          clear hc1 hc2)
       | (fail))
     go_ret
     exact ⟨rfl,rfl⟩
def OutA (b:Nat) (w:World) (a:Ars) (s:List Nat) (k:Nat) (e:Ending) (w':World):Prop :=
 e = .returned (.tuple #[])∧Ar w' b (addA a s k)∧Kp b w w'
theorem wf_nat {k:Nat} (hk:k≤140737488355328):(Lit.int .i64 (k:Int)).wf=true:=by
 have h1:IntKind.i64.min = -9223372036854775808:=by decide
 have h2:IntKind.i64.max=9223372036854775807:=by decide
 simp [Lit.wf,h1,h2]
 omega
set_option maxHeartbeats 2000000 in
theorem adda_any {b:Nat} {a:Ars} (w:World) (h:Ar w b a) (s:List Nat) (h8:∀ x∈s,x<256) (hn:s.length≤140737488355328) (A:Option Addr) (k c:Nat) (hk:k≤140737488355328) (hl:a.length≤1000000) :
   Calls Tryz.prog 105 #[.map (some b),.string (strOf s),.slice A k c] w (OutA b w a s k):=by
 have H0:=Lib.hid h
 obtain ⟨D,ho,hm,hD⟩:=h.own
 obtain ⟨h1,-⟩:=hD s h8
 have hkk:=Lib.hid (key_nk s hn)
 have HV:=Lib.hid (plainElem_int (H:=Unit) Tryz.underlying3 (wf_nat hk))
 unfold OutA addA
 cases hg:getA s a with
 | some m =>
   rw [hg] at h1
   have H1':Maps.has D (nk s)=true:=h1
   clear h h8 hD hg h1
   dsimp only
   go_enter Tryz.func105,Tryz.ntmps105
   go_wp2_with (first
     | (at_lookup
        refine wpList_lookup_own_ok_int _ rfl _ _ 159 rfl 9 3 .i64 str_key ariti_u Tryz.underlying3 (zero_int _) b a.length D rfl ho _ _ rfl hkk.out ?_
        intro c hc1 hc2
        clear hc1 hc2)
     | (fail))
   go_end0
   exact ⟨rfl,H0.out,Kp.refl _ _⟩
 | none =>
   rw [hg] at h1
   have H1':Maps.has D (nk s)=false:=h1
   have HP:=Lib.hid (ar_put hm hD s h8 k hg)
   clear h h8 hD hg h1
   dsimp only
   go_enter Tryz.func105,Tryz.ntmps105
   go_wp2_with (first
     | (at_lookup
        refine wpList_lookup_own_ok_int _ rfl _ _ 159 rfl 9 3 .i64 str_key ariti_u Tryz.underlying3 (zero_int _) b a.length D rfl ho _ _ rfl hkk.out ?_
        intro c hc1 hc2
        clear hc1 hc2)
     | (at_mapUpdate
        refine wpList_mapUpdate_own _ rfl _ _ _ 159 rfl 9 3 str_key ariti_u (plainElem Tryz.prog 3) b a.length _ rfl ho (by unfold maxLen; omega) _ _ _ rfl rfl hkk.out _ [] HV.out ?_
        intro w1 ho1 hg1
        have HA1:Hid (Ar w1 b (a ++ [(s,k)])):=Lib.hid ⟨_,by rw [List.length_append]; exact ho1,HP.out.1,HP.out.2⟩
        have HK1:Hid (Kp b w w1):=Lib.hid hg1
        clear ho1 hg1)
     | (fail))
   go_end0
   exact ⟨rfl,HA1.out,HK1.out⟩
end Go.Proofs.YtcmopnkldplngabGreatDoor
namespace Go.Proofs.YtcmopnkldplngabGreatDoor
open Go.RowKit
set_option linter.unusedVariables false
structure ChAt (w:World) (q:Nat) (c:Ck) (bf br:Nat):Prop where
 h:w.heap[q]?=some (.cells #[.map (some bf),.map (some br),.bool c.fn] 161 (0,0))
 f:Ar w bf c.fns
 r:Ar w br c.roles
section
variable {w w':World} {q bf br b:Nat} {c:Ck}
theorem ChAt.below (h:ChAt w q c bf br) (k:Below w.heap.size w w'):ChAt w' q c bf br:=⟨heap_below h.h k,h.f.below k,h.r.below k⟩
theorem ChAt.alloc (h:ChAt w q c bf br) (o:Obj):ChAt (w.alloc o) q c bf br:=h.below ((Below.refl _ _).alloc (Nat.le_refl _) o)
theorem ChAt.lt (h:ChAt w q c bf br):q<w.heap.size∧bf<w.heap.size∧br<w.heap.size:=⟨lt_heap h.h,h.f.lt,h.r.lt⟩
end
theorem bx3c {X:World} {g:Nat} {y0 y1 y2:Value} {E:TypeId} (h:X.heap[g]?=some (.cells #[y0,y1,y2] E (0,0))) :
   (X.cell? ⟨g,0,none⟩=some y0∧X.cell? ⟨g,1,none⟩=some y1∧X.cell? ⟨g,2,none⟩=some y2)∧X.frozen? ⟨g,0,none⟩=false∧X.frozen? ⟨g,1,none⟩=false∧X.frozen? ⟨g,2,none⟩=false :=
 ⟨⟨cell_block h 0,cell_block h 1,cell_block h 2⟩,free_block h 0,free_block h 1,free_block h 2⟩
set_option maxRecDepth 100000 in
set_option maxHeartbeats 4000000 in
theorem expr1_any {q bf br b:Nat} {c:Ck} {l:Nms} (w:World) (h:ChAt w q c bf br) (hn:Ns w b l) (k:Nat) (s:List Nat) (m:Int) (A:Option Addr) (n cp:Nat) (h8:∀ x∈s,x<256) (hs:s.length≤140737488355328) :
   Calls Tryz.prog 215 #[at0 q,.agg #[.int .u8 (k:Int),.string (strOf s),.int .i64 m,.slice A n cp],.map (some b)] w fun e w'=>e = .returned (.int .i64 (exE c l k s n:Nat))∧Below w.heap.size w w':=by
 have hB:Below w.heap.size w (w.alloc (.cells #[.int .u8 (k:Int),.string (strOf s),.int .i64 m,.slice A n cp] 276)):=(Below.refl _ _).alloc (Nat.le_refl _) _
 have HB:=Lib.hid hB
 have HSEE:=Lib.hid (see_any _ (hn.below hB) s h8 hs)
 have HUF:=Lib.hid (fun w' (hb:Below w.heap.size w w')=>use_any w' (h.below hb).f s h8 hs n)
 have HUR:=Lib.hid (fun w' (hb:Below w.heap.size w w')=>use_any w' (h.below hb).r s h8 hs n)
 obtain ⟨⟨c0,c1,c2⟩,-⟩:=bx3c h.h
 have hlt:=h.lt.1
 unfold exE
 clear h hn h8 hs hB
 unfold at0
 by_cases h4:k=4
 · subst h4
   rw [if_pos rfl]
   go_enter Tryz.func215,Tryz.ntmps215
   go_wp2_with (first
     | (go_at_call 189
        refine HSEE.out.mono ?_
        rintro e w' ⟨rfl,hb1⟩)
     | (fail))
   go_ret
   exact ⟨rfl,HB.out.trans (hb1.mono HB.out.size)⟩
 · rw [if_neg h4]
   have g4:((k:Int) == 4)=false:=beq_eq_false_iff_ne.2 (by omega)
   clear h4
   by_cases h10:k=10
   · subst h10
     rw [if_pos rfl]
     go_enter Tryz.func215,Tryz.ntmps215
     go_wp2_with fail
     go_quiet ((go_at_call 191; exact Calls.quiet_of_same (HUF.out _ (below_drewN HB.out _))))
     go_wp2_with fail
     go_ret
     exact ⟨rfl,below_drewN HB.out _⟩
   · rw [if_neg h10]
     have g10:((k:Int) == 10)=false:=beq_eq_false_iff_ne.2 (by omega)
     clear h10
     by_cases h11:k=11
     · subst h11
       rw [if_pos rfl]
       go_enter Tryz.func215,Tryz.ntmps215
       go_wp2_with fail
       go_quiet ((go_at_call 191; exact Calls.quiet_of_same (HUR.out _ (below_drewN HB.out _))))
       go_wp2_with fail
       go_ret
       exact ⟨rfl,below_drewN HB.out _⟩
     · rw [if_neg h11]
       have g11:((k:Int) == 11)=false:=beq_eq_false_iff_ne.2 (by omega)
       clear h11
       go_enter Tryz.func215,Tryz.ntmps215
       go_wp2_with fail
       go_ret
       exact ⟨rfl,HB.out⟩
theorem exsC_cons (c:Ck) (n:Nms) (k:Nat) (s:List Nat) (m:Int) (ks r:List Ex):exsC c n (.mk k s m ks :: r)=fstE (exsC c n ks) (fstE (exE c n k s ks.length) (exsC c n r)):=by
 rw [exsC,exC]
 unfold fstE
 split <;> rfl
def OutX0 (w:World) (z:Nat) (e:Ending) (w':World):Prop:=e = .returned (.int .i64 (z:Int))∧Below w.heap.size w w'
set_option maxRecDepth 100000 in
set_option maxHeartbeats 4000000 in
theorem exprsC_step {q bf br b:Nat} {c:Ck} {n:Nms} (l:List Ex)
   (IH:∀ (ks:List Ex),SizeOf.sizeOf ks<SizeOf.sizeOf l→∀ (w:World) (S:Nat→Prop) (v:Value),ChAt w q c bf br→Ns w b n→(∀ b,S b→b<w.heap.size)→Rd w S (.row 4 (ks.map Ex.nd)) v→Calls Tryz.prog 187 #[at0 q,v,.map (some b)] w (OutX0 w (exsC c n ks)))
   (w:World) (S:Nat→Prop) (v:Value) (h:ChAt w q c bf br) (hn:Ns w b n) (hS:∀ b,S b→b<w.heap.size) (hr:Rd w S (.row 4 (l.map Ex.nd)) v) :
   Calls Tryz.prog 187 #[at0 q,v,.map (some b)] w (OutX0 w (exsC c n l)):=by
 rw [Rd] at hr
 obtain ⟨A,cp,rfl,hcp,hcpm,hr⟩:=hr
 rw [List.length_map] at hcp ⊢
 have HR:=Lib.hid hr
 have HSS:=Lib.hid hS
 have H0:=Lib.hid h
 have HN0:=Lib.hid hn
 have HIH:=Lib.hid IH
 obtain ⟨m,hm⟩:∃ m,Hid (l.length=m):=⟨_,Lib.hid rfl⟩
 rw [hm.out] at hcp ⊢
 obtain ⟨r,hrr⟩:∃ r,Hid (exsC c n l=r):=⟨_,Lib.hid rfl⟩
 rw [hrr.out]
 unfold maxLen at hcpm
 unfold OutX0
 clear hr hS h hn IH
 unfold at0 at *
 go_enter Tryz.func187,Tryz.ntmps187
 go_wp2_with fail
 go_loopg [13] m (fun g i wr=>∃ j:Nat,j+g=m∧i = .int .i64 (j:Int)∧Hid (exsC c n (l.drop j)=r)∧Hid (Below w.heap.size w wr))
 case atStart=>exact ⟨0,by omega,rfl,Lib.hid (by rw [List.drop_zero]; exact hrr.out),Lib.hid (Below.refl _ _)⟩
 case round =>
   obtain ⟨j,hj,rfl,HF,HK⟩:=hrel
   cases gk with
   | zero =>
     have h1:¬ (j:Int)<(m:Int):=by omega
     have HE:Hid (0=r):=Lib.hid (by rw [← HF.out,List.drop_eq_nil_of_le (by rw [hm.out]; omega),exsC])
     clear HF HIH
     go_wp2_with fail
     go_ret
     exact ⟨by rw [← HE.out]; rfl,HK.out⟩
   | succ g =>
     have h1:(j:Int)<(m:Int):=by omega
     have h2:j<m:=by omega
     have hjl:j<l.length:=by rw [hm.out]; exact h2
     obtain ⟨bb,o,vs,rfl,hSb,hvl,hrg,hx⟩:=HR.out.at j (Ex.nd l[j]) (by simp [hjl])
     have HD:=Lib.hid (List.drop_eq_getElem_cons hjl)
     have HSZ:=Lib.hid (List.sizeOf_lt_of_mem (List.getElem_mem hjl))
     generalize l[j]=x at *
     obtain ⟨k,s,z,ks⟩:=x
     obtain ⟨y,hv,h8,hl8,hy⟩:=(Ex.rd k s z ks _).1 hx
     have hy':=hy
     rw [Rd] at hy'
     obtain ⟨A3,c3,rfl,-⟩:=hy'
     have hv2:vs=[.int .u8 (k:Int),.string (strOf s),.int .i64 z,.slice A3 (ks.map Ex.nd).length c3]:=by
       injection hv with hv
       have:=congrArg Array.toList hv
       simpa using this
     subst hv2
     rw [List.length_map] at hrg hy
     have hcell:∀ i u,[Value.int .u8 (k:Int),.string (strOf s),.int .i64 z,.slice A3 ks.length c3][i]?=some u→wr.cell? ⟨bb,o+j*4+i,none⟩=some u:=fun i u hu=>by
       have:=hrg i u hu
       rw [Nat.zero_add] at this
       exact (HK.out.cell (p:=⟨bb,o+j*4+i,none⟩) (HSS.out bb hSb)).trans this
     have y0:wr.cell? ⟨bb,o+j*4,none⟩=some (.int .u8 (k:Int)):=hcell 0 _ rfl
     have y1:=hcell 1 _ rfl
     have y2:=hcell 2 _ rfl
     have y3:=hcell 3 _ rfl
     have hbr:bb<wr.heap.size:=Nat.lt_of_lt_of_le (HSS.out bb hSb) HK.out.size
     have hBA:Below w.heap.size w (wr.alloc (.cells #[.int .u8 (k:Int),.string (strOf s),.int .i64 z,.slice A3 ks.length c3] 276)):=HK.out.alloc HK.out.size _
     have HQ:=Lib.hid (heap_new wr (.cells #[.int .u8 (k:Int),.string (strOf s),.int .i64 z,.slice A3 ks.length c3] 276))
     have HIK:=Lib.hid (HIH.out ks (by have:=HSZ.out; simp at this; omega) _ S _ (H0.out.below hBA) (HN0.out.below hBA) (fun b hb=>Nat.lt_of_lt_of_le (HSS.out b hb) hBA.size) (Rd.keep (fun p hp=>hBA.cell (HSS.out _ hp)) (fun _ h=>h) _ _ hy))
     have HX1:=Lib.hid (fun w' (hb:Below w.heap.size w w')=>expr1_any w' (H0.out.below hb) (HN0.out.below hb) k s z A3 ks.length c3 h8 hl8)
     have HBA:=Lib.hid hBA
     have HF2:=Lib.hid (HF.out.symm.trans (by rw [HD.out,exsC_cons]))
     have hszr:w.heap.size≤wr.heap.size:=HK.out.size
     clear hrg hx hv h8 hl8 hy HF HD hjl hcell hBA HSZ HIH
     obtain ⟨kn,hkn⟩:∃ kn,Hid (ks.length=kn):=⟨_,Lib.hid rfl⟩
     rw [hkn.out] at y3 HX1 HQ HIK HBA HF2
     obtain ⟨r1,hr1⟩:∃ r1,Hid (exsC c n ks=r1):=⟨_,Lib.hid rfl⟩
     obtain ⟨r2,hr2⟩:∃ r2,Hid (exE c n k s kn=r2):=⟨_,Lib.hid rfl⟩
     rw [hr1.out] at HIK HF2
     rw [hr2.out] at HX1 HF2
     unfold OutX0 at HIK
     by_cases hz1:r1=0
     · have e1:((r1:Int) != 0)=false:=by rw [hz1]; rfl
       have HF3:Hid (r=fstE r2 (exsC c n (l.drop (j+1)))):=Lib.hid (by rw [HF2.out]; unfold fstE; rw [if_pos hz1])
       clear hz1 HF2
       by_cases hz2:r2=0
       · have e2:((r2:Int) != 0)=false:=by rw [hz2]; rfl
         have HF4:Hid (exsC c n (l.drop (j+1))=r):=Lib.hid (by rw [HF3.out]; unfold fstE; rw [if_pos hz2])
         clear hz2 HF3
         go_wp2_with (first
           | (go_at_call 187
              refine HIK.out.mono ?_
              rintro e w1 ⟨rfl,hb1⟩
              have HB1:=Lib.hid (HBA.out.trans (hb1.mono HBA.out.size))
              obtain ⟨⟨z0,z1,z2,z3⟩,-⟩:=box4f (heap_below HQ.out hb1)
              clear hb1)
           | (go_at_call 215
              refine (HX1.out _ HB1.out).mono ?_
              rintro e w2 ⟨rfl,hb2⟩
              have HB2:=Lib.hid (HB1.out.trans (hb2.mono HB1.out.size))
              clear hb2)
           | (fail))
         go_roundg g
         case measure=>omega
         case rel=>exact ⟨j+1,by omega,by go_num,HF4,HB2⟩
       · have e2:((r2:Int) != 0)=true:=bne_iff_ne.2 (by omega)
         have HE:Hid (r=r2):=Lib.hid (by rw [HF3.out]; unfold fstE; rw [if_neg hz2])
         clear hz2 HF3
         go_wp2_with (first
           | (go_at_call 187
              refine HIK.out.mono ?_
              rintro e w1 ⟨rfl,hb1⟩
              have HB1:=Lib.hid (HBA.out.trans (hb1.mono HBA.out.size))
              obtain ⟨⟨z0,z1,z2,z3⟩,-⟩:=box4f (heap_below HQ.out hb1)
              clear hb1)
           | (go_at_call 215
              refine (HX1.out _ HB1.out).mono ?_
              rintro e w2 ⟨rfl,hb2⟩
              have HB2:=Lib.hid (HB1.out.trans (hb2.mono HB1.out.size))
              clear hb2)
           | (fail))
         go_ret
         exact ⟨by rw [HE.out]; rfl,HB2.out⟩
     · have e1:((r1:Int) != 0)=true:=bne_iff_ne.2 (by omega)
       have HE:Hid (r=r1):=Lib.hid (by rw [HF2.out]; unfold fstE; rw [if_neg hz1])
       clear hz1 HF2
       go_wp2_with (first
         | (go_at_call 187
            refine HIK.out.mono ?_
            rintro e w1 ⟨rfl,hb1⟩
            have HB1:=Lib.hid (HBA.out.trans (hb1.mono HBA.out.size))
            clear hb1)
         | (fail))
       go_ret
       exact ⟨by rw [HE.out]; rfl,HB1.out⟩
theorem exprsC_any {q bf br b:Nat} {c:Ck} {n:Nms}:∀ (N:Nat) (l:List Ex),SizeOf.sizeOf l≤N→∀ (w:World) (S:Nat→Prop) (v:Value),ChAt w q c bf br→Ns w b n→(∀ b,S b→b<w.heap.size)→Rd w S (.row 4 (l.map Ex.nd)) v→Calls Tryz.prog 187 #[at0 q,v,.map (some b)] w (OutX0 w (exsC c n l))
 | 0,l,hl=>fun w S v h hn hS hr=>exprsC_step l (fun ks hk=>absurd hk (by omega)) w S v h hn hS hr
 | N+1,l,hl=>fun w S v h hn hS hr=>exprsC_step l (fun ks hk w S v h hn hS hr=>exprsC_any N ks (by omega) w S v h hn hS hr) w S v h hn hS hr
end Go.Proofs.YtcmopnkldplngabGreatDoor
namespace Go.Proofs.YtcmopnkldplngabGreatDoor
open Go.RowKit
set_option linter.unusedVariables false
def OutT (b:Nat) (w:World) (z:Nat) (n':Nms) (e:Ending) (w':World):Prop:=e = .returned (.int .i64 (z:Int))∧(z=0→Ns w' b n')∧Kp b w w'
theorem bx6c {X:World} {g:Nat} {y0 y1 y2 y3 y4 y5:Value} {E:TypeId} (h:X.heap[g]?=some (.cells #[y0,y1,y2,y3,y4,y5] E (0,0))) :
   X.cell? ⟨g,0,none⟩=some y0∧X.cell? ⟨g,1,none⟩=some y1∧X.cell? ⟨g,2,none⟩=some y2∧X.cell? ⟨g,3,none⟩=some y3∧X.cell? ⟨g,4,none⟩=some y4∧X.cell? ⟨g,5,none⟩=some y5 :=
 ⟨cell_block h 0,cell_block h 1,cell_block h 2,cell_block h 3,cell_block h 4,cell_block h 5⟩
set_option maxRecDepth 100000 in
set_option maxHeartbeats 4000000 in
theorem stmtC_any {q bf br b:Nat} {c:Ck} {n:Nms} (w:World) (h:ChAt w q c bf br) (hn:Ns w b n) (hnl:n.length≤30) (S:Nat→Prop) (hS:∀ b,S b→b<w.heap.size)
   (k:Nat) (s:List Nat) (x:List Ex) (ln:Int) (A1 A2 A3:Option Addr) (c1 n2 c2 n3 c3:Nat) (h8:∀ x∈s,x<256) (hs:s.length≤140737488355328) (hx:Rd w S (.row 4 (x.map Ex.nd)) (.slice A1 x.length c1)) :
   Calls Tryz.prog 153 #[at0 q,.agg #[.int .u8 (k:Int),.string (strOf s),.slice A1 x.length c1,.slice A2 n2 c2,.slice A3 n3 c3,.int .i64 ln],.map (some b)] w (OutT b w (fstE (exsC c n x) (stE c n k s x.length)) (scF n k s)):=by
 have hB:Below w.heap.size w (w.alloc (.cells #[.int .u8 (k:Int),.string (strOf s),.slice A1 x.length c1,.slice A2 n2 c2,.slice A3 n3 c3,.int .i64 ln] 218)):=(Below.refl _ _).alloc (Nat.le_refl _) _
 have HX:=Lib.hid (exprsC_any _ x (Nat.le_refl _) _ S _ (h.below hB) (hn.below hB) (fun b hb=>Nat.lt_of_lt_of_le (hS b hb) hB.size) (Rd.keep (fun p hp=>hB.cell (hS _ hp)) (fun _ h=>h) _ _ hx))
 have HQ:=Lib.hid (heap_new w (.cells #[.int .u8 (k:Int),.string (strOf s),.slice A1 x.length c1,.slice A2 n2 c2,.slice A3 n3 c3,.int .i64 ln] 218))
 have HB:=Lib.hid hB
 have H0:=Lib.hid h
 have HN0:=Lib.hid hn
 have HLET:=Lib.hid (fun w' (hb:Below w.heap.size w w')=>let_any w' (hn.below hb) s h8 hs (by omega))
 have HSEE:=Lib.hid (fun w' (hb:Below w.heap.size w w')=>see_any w' (hn.below hb) s h8 hs)
 have HUSE:=Lib.hid (fun w' (hb:Below w.heap.size w w')=>use_any w' (h.below hb).r s h8 hs x.length)
 have hqw:=h.lt.1
 obtain ⟨m,hm⟩:∃ m,Hid (x.length=m):=⟨_,Lib.hid rfl⟩
 rw [hm.out] at HX HQ HB HUSE ⊢
 obtain ⟨r1,hr1⟩:∃ r1,Hid (exsC c n x=r1):=⟨_,Lib.hid rfl⟩
 rw [hr1.out] at HX ⊢
 unfold OutT
 unfold OutX0 at HX
 unfold at0 at *
 clear h hn h8 hs hx hB hS hnl
 generalize hss:strOf s=Z at *
 clear hss
 by_cases hz:r1=0
 · have e1 : ((r1 : Int) != 0)=false:=by rw [hz]; rfl
   have HZ:Hid (fstE r1 (stE c n k s m)=stE c n k s m):=Lib.hid (by unfold fstE; rw [if_pos hz])
   rw [HZ.out]
   unfold stE scF
   clear hz HZ
   by_cases q1:k=1
   · subst q1
     simp only [if_true]
     go_enter Tryz.func153,Tryz.ntmps153
     go_wp2_with (first
       | (go_at_call 187
          refine HX.out.mono ?_
          rintro e w1 ⟨rfl,hb1⟩
          have HB1:=Lib.hid (HB.out.trans (hb1.mono HB.out.size))
          obtain ⟨z0,z1,z2,z3,z4,z5⟩:=bx6c (heap_below HQ.out hb1)
          obtain ⟨⟨k0,k1,k2⟩,-⟩:=bx3c (heap_below H0.out.h HB1.out)
          clear hb1)
       | (go_at_call 188
          refine (HLET.out _ HB1.out).mono ?_
          rintro e w2 ⟨rfl,hl2,hk2⟩
          have HL2:=Lib.hid hl2
          have HK2:Hid (Kp b w w2):=Lib.hid ((Kp.of_below HB1.out).trans hk2)
          clear hl2 hk2)
       | (fail))
     go_ret
     exact ⟨rfl,HL2.out,HK2.out⟩
   · rw [if_neg q1, if_neg q1]
     have g1:((k:Int) == 1)=false:=beq_eq_false_iff_ne.2 (by omega)
     clear q1
     by_cases q2:k=2
     · subst q2
       simp only [if_true]
       go_enter Tryz.func153,Tryz.ntmps153
       go_wp2_with (first
         | (go_at_call 187
            refine HX.out.mono ?_
            rintro e w1 ⟨rfl,hb1⟩
            have HB1:=Lib.hid (HB.out.trans (hb1.mono HB.out.size))
            obtain ⟨z0,z1,z2,z3,z4,z5⟩:=bx6c (heap_below HQ.out hb1)
            obtain ⟨⟨k0,k1,k2⟩,-⟩:=bx3c (heap_below H0.out.h HB1.out)
            clear hb1)
         | (go_at_call 189
            refine (HSEE.out _ HB1.out).mono ?_
            rintro e w2 ⟨rfl,hb2⟩
            have HB2:=Lib.hid (HB1.out.trans (hb2.mono HB1.out.size))
            clear hb2)
         | (fail))
       go_ret
       exact ⟨rfl,fun _ => HN0.out.below HB2.out,Kp.of_below HB2.out⟩
     · rw [if_neg q2]
       have g2:((k:Int) == 2)=false:=beq_eq_false_iff_ne.2 (by omega)
       clear q2
       by_cases q5:k=5
       · subst q5
         simp only [if_true]
         go_enter Tryz.func153,Tryz.ntmps153
         go_wp2_with (first
           | (go_at_call 187
              refine HX.out.mono ?_
              rintro e w1 ⟨rfl,hb1⟩
              have HB1:=Lib.hid (HB.out.trans (hb1.mono HB.out.size))
              obtain ⟨z0,z1,z2,z3,z4,z5⟩:=bx6c (heap_below HQ.out hb1)
              obtain ⟨⟨k0,k1,k2⟩,-⟩:=bx3c (heap_below H0.out.h HB1.out)
              clear hb1)
           | (go_at_call 190
              refine (may_any _ _).mono ?_
              rintro e w2 ⟨rfl,rfl⟩)
           | (fail))
         go_ret
         exact ⟨rfl,fun _ => HN0.out.below HB1.out,Kp.of_below HB1.out⟩
       · rw [if_neg q5]
         have g5:((k:Int) == 5)=false:=beq_eq_false_iff_ne.2 (by omega)
         clear q5
         by_cases q8:k=8
         · subst q8
           simp only [if_true]
           go_enter Tryz.func153,Tryz.ntmps153
           go_wp2_with (first
             | (go_at_call 187
                refine HX.out.mono ?_
                rintro e w1 ⟨rfl,hb1⟩
                have HB1:=Lib.hid (HB.out.trans (hb1.mono HB.out.size))
                obtain ⟨z0,z1,z2,z3,z4,z5⟩:=bx6c (heap_below HQ.out hb1)
                obtain ⟨⟨k0,k1,k2⟩,-⟩:=bx3c (heap_below H0.out.h HB1.out)
                clear hb1)
             | (go_at_call 190
                refine (may_any _ _).mono ?_
                rintro e w2 ⟨rfl,rfl⟩)
             | (fail))
           go_ret
           exact ⟨rfl,fun _ => HN0.out.below HB1.out,Kp.of_below HB1.out⟩
         · rw [if_neg q8]
           have g8:((k:Int) == 8)=false:=beq_eq_false_iff_ne.2 (by omega)
           clear q8
           by_cases q7:k=7
           · subst q7
             simp only [if_true]
             obtain ⟨fb,HFB⟩:∃ fb,Hid (c.fn=fb):=⟨_,Lib.hid rfl⟩
             rw [HFB.out]
             cases fb
             · simp only [mayF,fstE,Bool.not_false,if_true]
               go_enter Tryz.func153,Tryz.ntmps153
               go_wp2_with (first
                 | (go_at_call 187
                    refine HX.out.mono ?_
                    rintro e w1 ⟨rfl,hb1⟩
                    have HB1:=Lib.hid (HB.out.trans (hb1.mono HB.out.size))
                    obtain ⟨z0,z1,z2,z3,z4,z5⟩:=bx6c (heap_below HQ.out hb1)
                    obtain ⟨⟨k0,k1,k2⟩,-⟩:=bx3c (heap_below H0.out.h HB1.out)
                    rw [HFB.out] at k2
                    clear hb1)
                 | (go_at_call 190
                    refine (may_any true _).mono ?_
                    rintro e w2 ⟨rfl,rfl⟩)
                 | (fail))
               go_quiet ((go_at_call 191; exact Calls.quiet_of_same (HUSE.out _ (below_drewN HB1.out _))))
               go_wp2_with fail
               go_ret
               exact ⟨rfl,fun _ => HN0.out.below (below_drewN HB1.out _),Kp.of_below (below_drewN HB1.out _)⟩
             · simp only [mayF,fstE,Bool.not_true]
               go_enter Tryz.func153,Tryz.ntmps153
               go_wp2_with (first
                 | (go_at_call 187
                    refine HX.out.mono ?_
                    rintro e w1 ⟨rfl,hb1⟩
                    have HB1:=Lib.hid (HB.out.trans (hb1.mono HB.out.size))
                    obtain ⟨z0,z1,z2,z3,z4,z5⟩:=bx6c (heap_below HQ.out hb1)
                    obtain ⟨⟨k0,k1,k2⟩,-⟩:=bx3c (heap_below H0.out.h HB1.out)
                    rw [HFB.out] at k2
                    clear hb1)
                 | (go_at_call 190
                    refine (may_any false _).mono ?_
                    rintro e w2 ⟨rfl,rfl⟩)
                 | (fail))
               go_ret
               first | exact ⟨rfl,Kp.of_below HB1.out⟩ | exact ⟨rfl,fun _ => HN0.out.below HB1.out,Kp.of_below HB1.out⟩
           · rw [if_neg q7]
             have g7:((k:Int) == 7)=false:=beq_eq_false_iff_ne.2 (by omega)
             clear q7
             go_enter Tryz.func153,Tryz.ntmps153
             go_wp2_with (first
               | (go_at_call 187
                  refine HX.out.mono ?_
                  rintro e w1 ⟨rfl,hb1⟩
                  have HB1:=Lib.hid (HB.out.trans (hb1.mono HB.out.size))
                  obtain ⟨z0,z1,z2,z3,z4,z5⟩:=bx6c (heap_below HQ.out hb1)
                  obtain ⟨⟨k0,k1,k2⟩,-⟩:=bx3c (heap_below H0.out.h HB1.out)
                  clear hb1)
               | (fail))
             go_ret
             exact ⟨rfl,fun _ => HN0.out.below HB1.out,Kp.of_below HB1.out⟩
 · have e1:((r1:Int) != 0)=true:=bne_iff_ne.2 (by omega)
   have HZ:Hid (fstE r1 (stE c n k s m)=r1):=Lib.hid (by unfold fstE; rw [if_neg hz])
   rw [HZ.out]
   have HZN:Hid (r1≠0):=Lib.hid hz
   clear hz HZ
   go_enter Tryz.func153,Tryz.ntmps153
   go_wp2_with (first
     | (go_at_call 187
        refine HX.out.mono ?_
        rintro e w1 ⟨rfl,hb1⟩
        have HB1:=Lib.hid (HB.out.trans (hb1.mono HB.out.size))
        obtain ⟨z0,z1,z2,z3,z4,z5⟩:=bx6c (heap_below HQ.out hb1)
        obtain ⟨⟨k0,k1,k2⟩,-⟩:=bx3c (heap_below H0.out.h HB1.out)
        clear hb1)
     | (fail))
   go_ret
   exact ⟨rfl,fun h=>absurd h HZN.out,Kp.of_below HB1.out⟩
end Go.Proofs.YtcmopnkldplngabGreatDoor
