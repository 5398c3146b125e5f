/- The tokens of a text: plain mathematics. -/
import Derived.Test.YtcmopnkldplngabGreatDoorLow
import Derived.Lib.ParseIntB
namespace Go.Proofs.YtcmopnkldplngabGreatDoor
set_option linter.unusedVariables false
structure Tk where
 k:Nat
 n:Nat
 s:List Nat
 e:Nat
deriving DecidableEq
def dig (x:Nat):Bool:=decide (48≤x∧x≤57)
def ltr (x:Nat):Bool:=decide (97≤x∧x≤122∨65≤x∧x≤90∨x=95)
def blk (x:Nat):Bool:=decide (x=32∨x=9∨x=10∨x=13)
def pln (x:Nat):Bool:=decide (32≤x∧x≠34∧x≠92)
def wrd (x:Nat):Bool:=ltr x||dig x
def dval (l:List Nat):Nat:=l.foldl (fun a x=>10*a+(x-48)) 0
def pasB (b:Bool) (x:Nat):Bool:=decide (x≠10)&&(b||decide (x=35))
def pas:Bool→List Nat→Nat
 | _,[]=>0
 | b,x :: r=>if pasB b x||blk x then pas (pasB b x) r+1 else 0
def hexd (x:Nat):Option Nat:=if 48≤x∧x≤57 then some (x-48) else if 97≤x∧x≤102 then some (x-87) else none
def esc:List Nat→Option (Nat × Nat)
 | 92 :: 34 :: _ => some (34,2)
 | 92 :: 92 :: _ => some (92,2)
 | 92 :: 110 :: _ => some (10,2)
 | 92 :: 120 :: h :: l :: _ => match hexd h,hexd l with
   | some a,some b=>some (16*a+b,4)
   | _, _ => none
 | _ => none
theorem esc_pos {l:List Nat} {x n:Nat} (h:esc l=some (x,n)):2≤n∧n≤l.length:=by
 unfold esc at h
 split at h
 all_goals first
   | (split at h <;> simp at h <;> (obtain ⟨-,rfl⟩:=h) <;> simp)
   | (simp at h; try (obtain ⟨-,rfl⟩:=h; simp))
def say (l:List Nat):Option (List Nat × Nat) :=
 match l with
 | []=>none
 | x :: r =>
   if x=34 then some ([],1)
   else if pln x then (say r).map fun p=>(x :: p.1,p.2+1)
   else match h:esc (x :: r) with
     | none=>none
     | some (y,n)=>(say ((x :: r).drop n)).map fun p=>(y :: p.1,p.2+n)
termination_by l.length
decreasing_by
 · simp
 · have:=esc_pos h
   simp
   omega
def signs:List (List Nat):=[[38,38],[124,124],[61,61],[33,61],[60,61],[62,61],[43,43],[60],[62],[43],[45],[42],[47],[37],[33],[40],[41],[91],[93],[123],[125],[44],[59],[61]]
def sgn (l:List Nat):Option (List Nat):=signs.find? fun s=>s.isPrefixOf l
def keys:List (List Nat):=[[97,99,116,111,114],[98,101,99,111,109,101],[99,97,108,108],[101,108,115,101],[102,97,108,115,101],[102,117,110,99],[105,102],[108,101,110],[108,101,116],[111,110],[114,101,116,117,114,110],[115,101,108,102],[115,101,110,100],[115,101,116],[115,112,97,119,110],[115,116,111,112],[116,114,117,101],[119,104,105,108,101]]
def dvA (a:Nat) (l:List Nat):Nat:=l.foldl (fun a x=>10*a+(x-48)) a
theorem tw_len {p:Nat→Bool} (l:List Nat):(l.takeWhile p).length≤l.length:=(List.takeWhile_sublist p).length_le
theorem tw_stop {p:Nat→Bool}:∀ (l:List Nat) (h:(l.takeWhile p).length<l.length),p l[(l.takeWhile p).length]=false
 | [],h=>by simp at h
 | y :: r,h=>by
   by_cases hy:p y=true
   · have:=tw_stop (p:=p) r (by simpa [hy] using h)
     simpa [hy] using this
   · simp [hy]
theorem tw_all {p:Nat→Bool} (l:List Nat):∀ x∈l.takeWhile p,p x=true:=fun x hx=>List.all_eq_true.1 List.all_takeWhile x hx
theorem tw_eq {p:Nat→Bool} (l:List Nat):l.take (l.takeWhile p).length=l.takeWhile p:=by
 induction l with
 | nil=>rfl
 | cons x r ih =>
   by_cases hx:p x=true
   · simp [hx,ih]
   · simp [hx]
theorem pas_le:∀ (b:Bool) (l:List Nat),pas b l≤l.length
 | _,[]=>by simp [pas]
 | b,x :: r=>by
   unfold pas
   split
   · have:=pas_le (pasB b x) r
     simp; omega
   · simp
def num (l:List Nat):Option Tk:=if dval (l.takeWhile dig)≤9223372036854775807 then some ⟨1,dval (l.takeWhile dig),[],(l.takeWhile dig).length⟩ else none
def tok (l:List Nat):Option Tk :=
 match l with
 | []=>some ⟨6,0,[],0⟩
 | x :: r =>
   if dig x then num (x :: r)
   else if x=34 then (say r).map fun p=>⟨2,0,p.1,p.2+1⟩
   else if ltr x then some ⟨if (x :: r).takeWhile wrd∈keys then 4 else 3,0,(x :: r).takeWhile wrd,((x :: r).takeWhile wrd).length⟩
   else (sgn (x :: r)).map fun s=>⟨5,0,s,s.length⟩
theorem say_nil:say []=none:=by rw [say]
theorem say_cons (x:Nat) (r:List Nat):say (x :: r)=if x=34 then some ([],1) else if pln x then (say r).map fun p=>(x :: p.1,p.2+1) else (esc (x :: r)).bind fun q=>(say ((x :: r).drop q.2)).map fun p=>(q.1 :: p.1,p.2+q.2):=by
 rw [say]
 split
 · rfl
 · split
   · rfl
   · split
     · rename_i h
       rw [h]; rfl
     · rename_i h
       rw [h]; rfl
theorem say_len:∀ (n:Nat) (l s:List Nat) (k:Nat),l.length≤n→say l=some (s,k)→1≤k∧k≤l.length∧s.length+1≤k
 | 0,[],s,k, _,h=>by simp [say_nil] at h
 | n+1,[],s,k, _,h=>by simp [say_nil] at h
 | n + 1,x :: r,s,k,hn,h=>by
   rw [say_cons] at h
   split at h
   · simp at h
     obtain ⟨rfl,rfl⟩:=h
     simp
   · split at h
     · simp at h
       obtain ⟨a,b,h1,rfl,rfl⟩:=h
       have:=say_len n r a b (by simpa using hn) h1
       simp; omega
     · obtain ⟨⟨y,j⟩,h1,h5⟩:=Option.bind_eq_some_iff.1 h
       obtain ⟨⟨a,b⟩,h2,h6⟩:=Option.map_eq_some_iff.1 h5
       simp only [Prod.mk.injEq] at h6
       obtain ⟨rfl,rfl⟩:=h6
       have h3:=esc_pos h1
       have:=say_len n _ a b (by simp only [List.length_drop,List.length_cons] at *; omega) h2
       simp only [List.length_drop,List.length_cons] at *; omega
theorem hexd_ne {x a:Nat} (h:hexd x=some a):x≠10∧a<16:=by
 unfold hexd at h
 split at h
 · simp at h; omega
 · split at h
   · simp at h; omega
   · cases h
theorem esc_take {l:List Nat} {v:Nat × Nat} (h:esc l=some v):esc (l.take v.2)=some v∧(l.take v.2).count 10=0∧v.1<256:=by
 revert h
 fun_cases esc l <;> intro h
 · cases h; simp [esc]
 · cases h; simp [esc]
 · cases h; simp [esc]
 · rename_i a b ha hb
   cases h
   have h1:=hexd_ne ha
   have h2:=hexd_ne hb
   refine ⟨by simp [esc,ha,hb],by simp [h1.1,h2.1],by show 16*a+b<256; omega⟩
 · cases h
 · cases h
theorem signs_all (P:List Nat→Prop) [DecidablePred P] (h:signs.all (fun s=>decide (P s))=true) {s:List Nat} (hs:s∈signs):P s:=of_decide_eq_true (List.all_eq_true.1 h s hs)
theorem sgn_mem {l s:List Nat} (h:sgn l=some s):s∈signs∧s <+: l:=by
 unfold sgn at h
 have h1:=List.find?_some h
 exact ⟨List.mem_of_find?_eq_some h,List.isPrefixOf_iff_prefix.1 h1⟩
theorem sgn_len {l s:List Nat} (h:sgn l=some s):1≤s.length∧s.length≤2∧s.count 10=0:=signs_all (fun s=>1≤s.length∧s.length≤2∧s.count 10=0) (by decide) (sgn_mem h).1
theorem tok_pos {l:List Nat} {t:Tk} (h:tok l=some t):t.e≤l.length∧(t.k=6 ↔ l=[])∧(l≠[]→0<t.e)∧1≤t.k∧t.k≤6:=by
 unfold tok at h
 split at h
 · cases h; simp
 · rename_i x r
   split at h
   · rename_i hx
     unfold num at h
     split at h
     · cases h
       refine ⟨tw_len _,by simp,?_,by simp,by simp⟩
       simp [hx]
     · cases h
   · split at h
     · obtain ⟨⟨a,b⟩,h1,h2⟩:=Option.map_eq_some_iff.1 h
       have:=say_len _ _ _ _ (Nat.le_refl _) h1
       cases h2
       simp; omega
     · split at h
       · rename_i hx
         cases h
         have hw:wrd x=true:=by simp [wrd,hx]
         refine ⟨tw_len _,?_,?_,?_,?_⟩
         · split <;> simp
         · simp [hw]
         · split <;> simp
         · split <;> simp
       · obtain ⟨s,h1,h2⟩:=Option.map_eq_some_iff.1 h
         cases h2
         have:=(sgn_mem h1).2.length_le
         have:=sgn_len h1
         simp at *; omega
def hx (d:Nat):Nat:=if d<10 then 48+d else 87+d
def qw (x:Nat):List Nat:=if x=34∨x=92 then [92,x] else if x=10 then [92,110] else if 32≤x∧x≤126 then [x] else [92,120,hx (x / 16),hx (x % 16)]
def atW (T:List Nat) (a:Nat):Nat:=a+pas false (T.drop a)
def lnW (T:List Nat) (a:Nat):Nat:=1+(T.take (atW T a)).count 10
theorem atW_le {T:List Nat} {a:Nat} (h:a≤T.length):a≤atW T a∧atW T a≤T.length:=by
 have:=pas_le false (T.drop a)
 rw [List.length_drop] at this
 unfold atW; omega
def sep:List Nat:=[32,35,32,120,32,34,40,10,9]
def says (ps:List (Tk × List Nat)):List Nat:=ps.flatMap fun p=>p.2 ++ sep
def plc (ps:List (Tk × List Nat)):Nat:=(says ps).length-9
theorem dvA_le:∀ (l:List Nat) (a:Nat),a≤dvA a l
 | [],a=>Nat.le_refl a
 | x :: r,a=>Nat.le_trans (by omega) (dvA_le r (10*a+(x-48)))
theorem parseU_dig:∀ (l:List Nat) (a:Nat),(∀ x∈l,dig x=true)→Lib.parseUintM (2 ^ 64-1) a (l.map UInt8.ofNat)=if dvA a l≤2 ^ 64-1∨l=[] then .ok (dvA a l) else .range
 | [],a, _ => by simp [Lib.parseUintM,dvA]
 | x :: r,a,h=>by
   have hx:48≤x∧x≤57:=by simpa [dig] using h x (by simp)
   have e:(UInt8.ofNat x).toNat=x:=by rw [UInt8.toNat_ofNat']; exact Nat.mod_eq_of_lt (by omega)
   have hd:=dvA_le r (10*a+(x-48))
   rw [List.map_cons,Lib.parseUintM,e,if_pos hx,Nat.mul_comm a 10]
   rw [show dvA a (x :: r)=dvA (10*a+(x-48)) r from rfl]
   have hne:¬ (x :: r=[]):=by simp
   split
   · rw [if_neg (by rintro (h1 | h1); omega; exact hne h1)]
   · split
     · rw [if_neg (by rintro (h1 | h1); omega; exact hne h1)]
     · rw [parseU_dig r _ (fun y hy=>h y (by simp [hy]))]
       by_cases hr:r=[]
       · subst hr
         have:dvA (10*a+(x-48)) []=10*a+(x-48):=rfl
         rw [if_pos (.inr rfl),if_pos (.inl (by omega))]
       · by_cases h2:dvA (10*a+(x-48)) r≤2 ^ 64-1
         · rw [if_pos (.inl h2),if_pos (.inl h2)]
         · rw [if_neg (by rintro (h1 | h1); exact h2 h1; exact hr h1),if_neg (by rintro (h1 | h1); exact h2 h1; exact hne h1)]
theorem parse_dig (l:List Nat) (h:∀ x∈l,dig x=true) (hl:l≠[]):Lib.parseIntB 64 (l.map UInt8.ofNat)=if dval l≤9223372036854775807 then .ok (dval l:Int) else .range:=by
 match l,hl with
 | x :: r, _ =>
   have hx:48≤x∧x≤57:=by simpa [dig] using h x (by simp)
   have e:(UInt8.ofNat x).toNat=x:=by rw [UInt8.toNat_ofNat']; exact Nat.mod_eq_of_lt (by omega)
   have hp:=parseU_dig (x :: r) 0 h
   have hv:dvA 0 (x :: r)=dval (x :: r):=rfl
   rw [hv] at hp
   generalize dval (x :: r)=v at hp ⊢
   unfold Lib.parseIntB
   rw [List.map_cons] at hp ⊢
   simp only [e,if_neg (show ¬ (x=43∨x=45) by omega)]
   unfold Lib.parseUintB
   rw [if_neg (by simp),hp]
   by_cases h1:v≤2 ^ 64-1
   · rw [if_pos (.inl h1)]
     simp only
     by_cases h2:v≤9223372036854775807
     · rw [if_pos h2,if_neg (by omega),if_neg (by omega),if_neg (by omega)]
     · rw [if_neg h2,if_pos (by omega)]
   · rw [if_neg (by simp; omega),if_neg (by omega)]
end Go.Proofs.YtcmopnkldplngabGreatDoor
