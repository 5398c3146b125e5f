/- Programs as trees,and the reading of a text: plain mathematics. -/
import Derived.Test.YtcmopnkldplngabGreatDoorWa
namespace Go.Proofs.YtcmopnkldplngabGreatDoor
set_option linter.unusedVariables false
inductive Ex | mk (k:Nat) (s:List Nat) (n:Int) (l:List Ex)
inductive Sm | mk (k:Nat) (s:List Nat) (x:List Ex) (b c:List Sm) (ln:Int)
structure Bd where
 name:List Nat
 ps:List (List Nat)
 st:List Sm
 ln:Int
structure Rl where
 name:List Nat
 ps:List (List Nat)
 on:List Bd
 ln:Int
structure Pg where
 fns:List Bd
 roles:List Rl
structure Pst where
 k:Nat
 s:List Nat
 n:Nat
 ln:Nat
 a:Nat
 e:Nat
 er:Nat
 fl:Nat
 g:Nat
def Pst.step (T:List Nat) (p:Pst):Pst :=
 if 32768<T.length then ⟨0,[],0,0,0,0,3,0,p.g⟩
 else if T.length<p.e then ⟨0,[],0,0,0,0,2,0,p.g⟩
 else match tok (T.drop (atW T p.e)) with
   | none=>⟨0,[],0,0,0,0,100,lnW T p.e,p.g⟩
   | some t=>⟨t.k,t.s,t.n,lnW T p.e,atW T p.e,atW T p.e+t.e,0,0,p.g⟩
def Pst.fail (er:Nat) (p:Pst):Pst:=if p.er=0 then ⟨0,[],0,0,0,0,er,p.ln,p.g⟩ else p
def Pst.one (T:List Nat) (kind:Nat) (says:List (List Nat)) (p:Pst):List Nat × Pst :=
 if p.k=kind∧p.s∈says then (p.s,p.step T) else ([],p)
def Pst.must (T:List Nat) (sign:List Nat) (p:Pst):Bool × Pst :=
 if (p.one T 5 [sign]).1=[] then (false,(p.one T 5 [sign]).2.fail 101) else (true,(p.one T 5 [sign]).2)
def Pst.name (T:List Nat) (p:Pst):List Nat × Pst:=if p.k=3 then (p.s,p.step T) else ([],p.fail 101)
def Pst.begin (p:Pst):Pst:=if 250≤p.g then { p.fail 102 with g:=(p.fail 102).g+1 } else { p with g:=p.g+1 }
def Pst.fin (p:Pst):Pst:={ p with g:=p.g-1 }
abbrev Rr (α:Type):=Pst→Option (α × Pst)
def moreF {α:Type} (T:List Nat) (one:Rr α):Nat→List α→Rr (List α)
 | 0, _, _ => none
 | m + 1,l,p =>
   if (p.one T 5 [[44]]).1=[] then some (l,((p.one T 5 [[44]]).2.must T [41]).2)
   else match one (p.one T 5 [[44]]).2 with
     | none=>none
     | some (x,q)=>moreF T one m (l ++ [x]) q
def listF {α:Type} (T:List Nat) (one:Rr α) (m:Nat):Rr (List α):=fun p =>
 if (p.must T [40]).1=false then some ([],(p.must T [40]).2)
 else if ((p.must T [40]).2.one T 5 [[41]]).1≠[] then some ([],((p.must T [40]).2.one T 5 [[41]]).2)
 else match one ((p.must T [40]).2.one T 5 [[41]]).2 with
   | none=>none
   | some (x,q)=>moreF T one m [x] q
def withF (T:List Nat) (or:Rr Ex) (m kind:Nat):Rr Ex:=fun p =>
 match listF T or m (p.name T).2 with
 | none=>none
 | some (l,q)=>some (.mk kind (p.name T).1 0 l,q)
def keysE:List (List Nat):=[[116,114,117,101],[102,97,108,115,101],[115,101,108,102],[108,101,110],[99,97,108,108],[115,112,97,119,110]]
def keyedF (T:List Nat) (or:Rr Ex) (m:Nat):Rr Ex:=fun p =>
 if (p.one T 4 keysE).1=[116,114,117,101] then some (.mk 2 [] 1 [],(p.one T 4 keysE).2)
 else if (p.one T 4 keysE).1=[102,97,108,115,101] then some (.mk 2 [] 0 [],(p.one T 4 keysE).2)
 else if (p.one T 4 keysE).1=[115,101,108,102] then some (.mk 5 [] 0 [],(p.one T 4 keysE).2)
 else if (p.one T 4 keysE).1=[108,101,110] then
   match or ((p.one T 4 keysE).2.must T [40]).2 with
   | none=>none
   | some (x,q)=>some (.mk 9 [] 0 [x],(q.must T [41]).2)
 else if (p.one T 4 keysE).1=[99,97,108,108] then withF T or m 10 (p.one T 4 keysE).2
 else if (p.one T 4 keysE).1=[115,112,97,119,110] then withF T or m 11 (p.one T 4 keysE).2
 else some (.mk 0 [] 0 [],(p.one T 4 keysE).2.fail 101)
def tupF:List Ex→Ex
 | [x]=>x
 | l => .mk 6 [] 0 l
def primaryF (T:List Nat) (or:Rr Ex) (m:Nat):Rr Ex:=fun p =>
 if p.k=1 then some (.mk 1 [] p.n [],p.step T)
 else if p.k=2 then some (.mk 3 p.s 0 [],p.step T)
 else if p.k=3 then some (.mk 4 p.s 0 [],p.step T)
 else if p.k=4 then keyedF T or m p
 else match listF T or m p with
   | none=>none
   | some (l,q)=>some (tupF l,q)
def placesF (T:List Nat) (or:Rr Ex):Nat→Ex→Rr Ex
 | 0, _, _ => none
 | m + 1,x,p =>
   if (p.one T 5 [[91]]).1=[] then some (x,(p.one T 5 [[91]]).2)
   else match or (p.one T 5 [[91]]).2 with
     | none=>none
     | some (y,q)=>placesF T or m (.mk 8 [] 0 [x,y]) (q.must T [93]).2
def postF (T:List Nat) (or:Rr Ex) (m:Nat):Rr Ex:=fun p =>
 match primaryF T or m p with
 | none=>none
 | some (x,q)=>placesF T or m x q
def unaryF (T:List Nat) (or:Rr Ex) (m:Nat):Nat→Rr Ex
 | 0, _ => none
 | j + 1,p =>
   if (p.begin.one T 5 [[45],[33]]).1≠[] then
     match unaryF T or m j (p.begin.one T 5 [[45],[33]]).2 with
     | none=>none
     | some (x,q)=>some (.mk 7 (p.begin.one T 5 [[45],[33]]).1 0 [x],q.fin)
   else match postF T or m (p.begin.one T 5 [[45],[33]]).2 with
     | none=>none
     | some (x,q)=>some (x,q.fin)
def twoF (T:List Nat) (below:Rr Ex) (sg:List (List Nat)):Nat→Ex→Rr Ex
 | 0,x,p=>some (x,p)
 | m + 1,x,p =>
   if (p.one T 5 sg).1=[] then some (x,(p.one T 5 sg).2)
   else match below (p.one T 5 sg).2 with
     | none=>none
     | some (y,q)=>twoF T below sg m (.mk 7 (p.one T 5 sg).1 0 [x,y]) q
def twosF (T:List Nat) (below:Rr Ex) (most:Nat) (sg:List (List Nat)):Rr Ex:=fun p =>
 match below p with
 | none=>none
 | some (x,q)=>twoF T below sg most x q
def sMul:List (List Nat):=[[42],[47],[37]]
def sAdd:List (List Nat):=[[43],[45],[43,43]]
def sCmp:List (List Nat):=[[61,61],[33,61],[60,61],[62,61],[60],[62]]
def sAnd:List (List Nat):=[[38,38]]
def sOr:List (List Nat):=[[124,124]]
def orF (T:List Nat):Nat→Rr Ex
 | 0, _ => none
 | n+1,p=>twosF T (twosF T (twosF T (twosF T (twosF T (unaryF T (orF T n) n n) 32768 sMul) 32768 sAdd) 1 sCmp) 32768 sAnd) 32768 sOr p
def keysS:List (List Nat):=[[108,101,116],[115,101,116],[105,102],[119,104,105,108,101],[114,101,116,117,114,110],[115,101,110,100],[98,101,99,111,109,101],[115,116,111,112]]
def kindF (s:List Nat):Nat :=
 if s=[108,101,116] then 1 else if s=[115,101,116] then 2 else if s=[105,102] then 3 else if s=[119,104,105,108,101] then 4
 else if s=[114,101,116,117,114,110] then 5 else if s=[115,101,110,100] then 6 else if s=[98,101,99,111,109,101] then 7 else if s=[115,116,111,112] then 8 else 9
def nameP (T:List Nat):Rr (List Nat):=fun p=>some (p.name T)
def stmtsF (T:List Nat) (stmt:Rr Sm):Nat→List Sm→Rr (List Sm)
 | 0, _, _ => none
 | m + 1,l,p =>
   if p.er≠0 then some (l,p)
   else if (p.one T 5 [[125]]).1≠[] then some (l,(p.one T 5 [[125]]).2)
   else match stmt (p.one T 5 [[125]]).2 with
     | none=>none
     | some (x,q)=>stmtsF T stmt m (l ++ [x]) q
def bodyF (T:List Nat) (stmt:Rr Sm) (m:Nat):Rr (List Sm):=fun p=>stmtsF T stmt m [] (p.must T [123]).2
def branchF (T:List Nat) (or:Rr Ex) (body:Rr (List Sm)) (kind:Nat) (ln:Nat):Rr Sm:=fun p =>
 match or (p.must T [40]).2 with
 | none=>none
 | some (x,q)=>match body (q.must T [41]).2 with
   | none=>none
   | some (b,r) =>
     if kind=3 then
       if (r.one T 4 [[101,108,115,101]]).1≠[] then
         match body (r.one T 4 [[101,108,115,101]]).2 with
         | none=>none
         | some (c,u)=>some (.mk kind [] [x] b c ln,u)
       else some (.mk kind [] [x] b [] ln,(r.one T 4 [[101,108,115,101]]).2)
     else some (.mk kind [] [x] b [] ln,r)
def stmtK (T:List Nat) (or:Rr Ex) (body:Rr (List Sm)) (m:Nat) (kind ln:Nat):Rr Sm:=fun p =>
 if kind=1∨kind=2 then
   match or ((p.name T).2.must T [61]).2 with
   | none=>none
   | some (x,q)=>some (.mk kind (p.name T).1 [x] [] [] ln,(q.must T [59]).2)
 else if kind=3∨kind=4 then branchF T or body kind ln p
 else if kind=5∨kind=9 then
   match or p with
   | none=>none
   | some (x,q)=>some (.mk kind [] [x] [] [] ln,(q.must T [59]).2)
 else if kind=6 then
   match postF T or m p with
   | none=>none
   | some (x,q)=>match listF T or m (q.name T).2 with
     | none=>none
     | some (l,r)=>some (.mk kind (q.name T).1 (x :: l) [] [] ln,(r.must T [59]).2)
 else if kind=7 then
   match listF T or m (p.name T).2 with
   | none=>none
   | some (l,r)=>some (.mk kind (p.name T).1 l [] [] ln,(r.must T [59]).2)
 else some (.mk kind [] [] [] [] ln,(p.must T [59]).2)
def stmtF (T:List Nat) (or:Rr Ex) (m:Nat):Nat→Rr Sm
 | 0, _ => none
 | n+1,p =>
   match stmtK T or (bodyF T (stmtF T or m n) m) m (kindF (p.begin.one T 4 keysS).1) p.ln (p.begin.one T 4 keysS).2 with
   | none=>none
   | some (x,q)=>some (x,q.fin)
def namedF (T:List Nat) (n:Nat) (ln:Nat):Rr Bd:=fun p =>
 match listF T (nameP T) n (p.name T).2 with
 | none=>none
 | some (l,q)=>match bodyF T (stmtF T (orF T n) n n) n q with
   | none=>none
   | some (b,r)=>some (⟨(p.name T).1,l,b,ln⟩,r)
def onsF (T:List Nat) (n:Nat):Nat→List Bd→Rr (List Bd)
 | 0, _, _ => none
 | m + 1,l,p =>
   if p.er≠0 then some (l,p)
   else if (p.one T 5 [[125]]).1≠[] then some (l,(p.one T 5 [[125]]).2)
   else match namedF T n (p.one T 5 [[125]]).2.ln (if ((p.one T 5 [[125]]).2.one T 4 [[111,110]]).1=[] then ((p.one T 5 [[125]]).2.one T 4 [[111,110]]).2.fail 101 else ((p.one T 5 [[125]]).2.one T 4 [[111,110]]).2) with
     | none=>none
     | some (x,q)=>onsF T n m (l ++ [x]) q
def roleF (T:List Nat) (n:Nat) (ln:Nat):Rr Rl:=fun p =>
 match listF T (nameP T) n (p.name T).2 with
 | none=>none
 | some (l,q)=>match onsF T n n [] (q.must T [123]).2 with
   | none=>none
   | some (b,r)=>some (⟨(p.name T).1,l,b,ln⟩,r)
def kFn:List Nat:=[102,117,110,99]
def kAc:List Nat:=[97,99,116,111,114]
def progF (T:List Nat) (n:Nat):Nat→Pg→Rr Pg
 | 0, _, _ => none
 | m + 1,g,p =>
   if p.er≠0∨p.k=6 then some (g,p)
   else if (p.one T 4 [kFn,kAc]).1=kFn then
     match namedF T n p.ln (p.one T 4 [kFn,kAc]).2 with
     | none=>none
     | some (x,q)=>progF T n m { g with fns:=g.fns ++ [x] } q
   else if (p.one T 4 [kFn,kAc]).1=kAc then
     match roleF T n p.ln (p.one T 4 [kFn,kAc]).2 with
     | none=>none
     | some (x,q)=>progF T n m { g with roles:=g.roles ++ [x] } q
   else progF T n m g ((p.one T 4 [kFn,kAc]).2.fail 101)
def pst0:Pst:=⟨0,[],0,0,0,0,0,0,0⟩
def readF (T:List Nat) (n:Nat):Option (Pg × Pst):=progF T n n ⟨[],[]⟩ (pst0.step T)
/-! Right programs. -/
def isNm (s:List Nat):Bool:=decide (s.length≤32768)&&match tok (s.drop (atW s 0)) with
 | none=>false
 | some t=>t.k == 3&&atW s 0 == 0&&t.e == s.length
def ops2:List (List Nat):=[[124,124],[38,38],[61,61],[33,61],[60],[60,61],[62],[62,61],[43],[43,43],[42],[47],[37]]
def isOpF (s:List Nat) (k:Nat):Bool:=if s=[45] then k == 1||k == 2 else if s=[33] then k == 1 else if s∈ops2 then k == 2 else false
def rightX (k:Nat) (s:List Nat) (n:Int) (c:Nat):Bool :=
 if k=1 then s == []&&decide (0≤n)&&c == 0
 else if k=2 then s == []&&(n == 0||n == 1)&&c == 0
 else if n≠0 then false
 else if k=3 then c == 0
 else if k=4 then isNm s&&c == 0
 else if k=5 then s == []&&c == 0
 else if k=6 then s == []&&c != 1
 else if k=7 then isOpF s c
 else if k=8 then s == []&&c == 2
 else if k=9 then s == []&&c == 1
 else if k=10∨k=11 then isNm s
 else false
def rightS (k:Nat) (s:List Nat) (x b c:Nat):Bool :=
 if k=3 then s == []&&x == 1
 else if k=4 then s == []&&x == 1&&c == 0
 else if 0<b∨0<c then false
 else if k=1∨k=2 then isNm s&&x == 1
 else if k=5∨k=9 then s == []&&x == 1
 else if k=6 then isNm s&&decide (1≤x)
 else if k=7 then isNm s
 else if k=8 then s == []&&x == 0
 else false
mutual
def exR (d:Nat):Ex→Nat→Option Nat
 | .mk k s n l,c=>if c=0∨40<d then none else if rightX k s n l.length=false then none else exsR (d+1) l (c-1)
def exsR (d:Nat):List Ex→Nat→Option Nat
 | [],c=>some c
 | x :: r,c=>match exR d x c with
   | none=>none
   | some c'=>exsR d r c'
end
mutual
def smR (d:Nat):Sm→Nat→Option Nat
 | .mk k s x b e ln,c =>
   if c=0∨40<d then none else if rightS k s x.length b.length e.length=false then none
   else match exsR (d+1) x (c-1) with
     | none=>none
     | some c1=>match smsR (d+1) b c1 with
       | none=>none
       | some c2=>smsR (d+1) e c2
def smsR (d:Nat):List Sm→Nat→Option Nat
 | [],c=>some c
 | x :: r,c=>match smR d x c with
   | none=>none
   | some c'=>smsR d r c'
end
def headR (s:List Nat) (ps:List (List Nat)):Bool:=isNm s&&decide (ps.length≤30)&&ps.all isNm
def bodyR (b:Bd) (c:Nat):Option Nat:=if headR b.name b.ps then smsR 1 b.st c else none
def bodiesR:List Bd→Nat→Option Nat
 | [],c=>some c
 | x :: r,c=>match bodyR x c with
   | none=>none
   | some c'=>bodiesR r c'
def roleR (b:Rl) (c:Nat):Option Nat:=if headR b.name b.ps&&decide (b.on.length≤60) then bodiesR b.on c else none
def rolesR:List Rl→Nat→Option Nat
 | [],c=>some c
 | x :: r,c=>match roleR x c with
   | none=>none
   | some c'=>rolesR r c'
def rightP (p:Pg):Bool :=
 if 60<p.fns.length+p.roles.length then false
 else match bodiesR p.fns 2000 with
   | none=>false
   | some c=>(rolesR p.roles c).isSome
def parseF (T:List Nat) (n:Nat):Option (Pg × Nat × Nat) :=
 match readF T n with
 | none=>none
 | some (g,p)=>if p.er≠0 then some (⟨[],[]⟩,p.er,p.fl) else if rightP g then some (g,0,0) else some (⟨[],[]⟩,102,0)
def fuel (T:List Nat):Nat:=T.length+10
end Go.Proofs.YtcmopnkldplngabGreatDoor
