/- Words for memory that every walk of this seat uses: a slice of cells that reads as a list,and append onto a row of the call's own. -/
import Derived.WalkKit
import Derived.Maps.AppendAt
import Derived.Deep.Draws
import Derived.Lib.Hide
namespace Go.Proofs.YtcmopnkldplngabGreatDoor
open Go.RowKit
def At (w:World) (B:Nat) (A:Option Addr) (xs:List Value):Prop :=
 xs≠[]→∃ b o,A=some ⟨b,o,none⟩∧b<B∧∀ i x,xs[i]?=some x→w.cell? ⟨b,o+i,none⟩=some x
section
variable {w w':World} {B B':Nat} {A:Option Addr} {xs:List Value}
theorem At.nil (w:World) (B:Nat) (A:Option Addr):At w B A []:=fun h=>absurd rfl h
theorem At.keep (h:At w B A xs) (hk:∀ p:Addr,p.block<B→w'.cell? p=w.cell? p):At w' B A xs:=fun hn=>by
 obtain ⟨b,o,e,hb,hc⟩:=h hn
 exact ⟨b,o,e,hb,fun i x hx=>(hk _ hb).trans (hc i x hx)⟩
theorem At.more (h:At w B A xs) (hB:B≤B'):At w B' A xs:=fun hn=>by
 obtain ⟨b,o,e,hb,hc⟩:=h hn
 exact ⟨b,o,e,Nat.lt_of_lt_of_le hb hB,hc⟩
theorem At.below (h:At w B A xs) (hb:Below B w w'):At w' B A xs:=h.keep fun _ hp=>hb.cell hp
theorem At.drew (h:At w B A xs):At w.drew B A xs:=h
theorem At.alloc (h:At w B A xs) (hB:B≤w.heap.size) (o:Obj):At (w.alloc o) B A xs:=h.below ((Below.refl B w).alloc hB o)
theorem At.take (h:At w B A xs) (k:Nat):At w B A (xs.take k):=fun hn=>by
 obtain ⟨b,o,e,hb,hc⟩:=h (by intro h0; subst h0; simp at hn)
 refine ⟨b,o,e,hb,fun i x hx=>hc i x ?_⟩
 have hi:i<(xs.take k).length:=(List.getElem?_eq_some_iff.1 hx).1
 rw [List.length_take] at hi
 rw [List.getElem?_take_of_lt (by omega)] at hx
 exact hx
theorem At.of_own {base:Nat} {e:TypeId} {size n c:Nat} (h:w.ownsRow base e size (.slice A n c) n xs):At w w.heap.size A xs:=fun hn=>by
 have hA:∃ g,A=some ⟨g,0,none⟩:=by
   rcases h.2 with ⟨h1,h2⟩ | ⟨g,cap,cur,h1, _⟩
   · subst h2
     exact absurd (List.eq_nil_of_length_eq_zero (by simpa using h.1)) hn
   · injection h1 with h1
     exact ⟨g,h1⟩
 obtain ⟨g,rfl⟩:=hA
 refine ⟨g,0,rfl,(h.lt g rfl).2,fun i x hx=>?_⟩
 have:=h.cells (g:=g) rfl i x hx
 rwa [Addr.add_lit] at this
end
section
variable {P:Program} (w:World)
theorem run_append_at (base:Nat) (t ty e:TypeId) (i:TypeInfo) (z:Value) (size bytes:Nat) (ht:P.underlying t=some (.slice e)) (hi:P.info? e=some i) (hz:i.zero=some z)
   (hsize:i.size=size) (hby:i.bytes=bytes) (hzs:z.cells.size=size) (hsz:0<size)
   (v:Value) (n:Nat) (xs:List Value) (hown:w.ownsRow base e size v n xs) (B:Nat) (A:Option Addr) (m c:Nat) (news:List Value) (hr:At w B A news) (hm:news.length=m*size)
   (h1:∀ u∈news,u.oneCell'=true) (h63:n+m≤maxLen) (hbytes:(n+m)*bytes≤140737488355328) (hbase:base≤w.heap.size) :
   ∃ v' w',(Builtin.append_ #[t,t] ty #[v,.slice A m c]).run P w = .ok v' w'∧w'.ownsRow base e size v' (n+m) (xs ++ news)∧w.grownBy w' v.ownBlock ∧
     (v'.ownBlock=v.ownBlock∨v'.ownBlock=some w.heap.size):=by
 cases A with
 | some ad =>
   have hcells:∀ j u,news[j]?=some u→w.cell? (ad.add j)=some u:=by
     intro j u hu
     obtain ⟨b,o,e', _,hc⟩:=hr (by intro h0; subst h0; simp at hu)
     obtain rfl:=Option.some.inj e'
     rw [Addr.add_lit]
     exact hc j u hu
   obtain ⟨v',w',hrun,g1,g2, _,g3⟩:=run_append_own_at (P:=P) w base t ty e i z size bytes ht hi hz hsize hby hzs hsz v n xs hown ad m c news hm hcells h1 h63 hbytes hbase
   exact ⟨v',w',hrun,g1,g2,g3⟩
 | none =>
   have hn:news=[]:=by
     rcases hr':news with _ | ⟨x,l⟩
     · rfl
     · obtain ⟨_, _,e', _⟩:=hr (by rw [hr']; simp)
       cases e'
   subst hn
   obtain rfl:m=0:=by
     rcases Nat.mul_eq_zero.1 hm.symm with h0 | h0 <;> omega
   refine ⟨v,w,?_,by simpa using hown,World.grownBy.refl w _,.inl rfl⟩
   rcases hown.2 with ⟨rfl,rfl⟩ | ⟨g,cap,cur,rfl, _, _,hnc, _⟩
   · simp [Builtin.append_,run_underlying ht,sizeOf,typeInfo,hi,Builtin.lenOf,Builtin.firstCells]
   · simp [Builtin.append_,run_underlying ht,sizeOf,typeInfo,hi,Builtin.lenOf,Builtin.firstCells,hnc,storeCells]
theorem wp_append_at {o:Oper} {a:Act} {K:Act→World→Prop} {Q:Exit→Act→World→Prop} (s x:Operand) (t:TypeId)
   (ho:o.op = .call { callee := .builtin .append,args:=#[s,x],argTypes:=#[t,t] })
   (base:Nat) (e:TypeId) (i:TypeInfo) (z:Value) (size bytes:Nat) (ht:P.underlying t=some (.slice e)) (hi:P.info? e=some i) (hz:i.zero=some z)
   (hsize:i.size=size) (hby:i.bytes=bytes) (hzs:z.cells.size=size) (hsz:0<size)
   (v:Value) (n:Nat) (xs:List Value) (hs:a.eval s=v) (hown:w.ownsRow base e size v n xs) (B:Nat) (A:Option Addr) (m c:Nat) (news:List Value) (hx:a.eval x = .slice A m c)
   (hr:At w B A news) (hm:news.length=m*size) (h1:∀ u∈news,u.oneCell'=true) (h63:n+m≤maxLen) (hbytes:(n+m)*bytes≤140737488355328) (hbase:base≤w.heap.size)
   (h:∀ v' w',w'.ownsRow base e size v' (n+m) (xs ++ news)→w.grownBy w' v.ownBlock→(v'.ownBlock=v.ownBlock∨v'.ownBlock=some w.heap.size)→K (a.put o.dst v') w'):o.wp P a w K Q:=by
 obtain ⟨v',w',hrun,h2,h3,h4⟩:=run_append_at (P:=P) w base t o.type e i z size bytes ht hi hz hsize hby hzs hsz v n xs hown B A m c news hr hm h1 h63 hbytes hbase
 unfold Oper.wp execOp
 simp only [ho,resolve,invoke,builtin,Sem.run_bind,Sem.run_pure,Result.andThen_ok,List.map_toArray,List.map_cons,List.map_nil,hs,hx,hrun]
 exact h v' w' h2 h3 h4
theorem wpList_append_at {ops:Array Oper} {rest:List Oper} {o:Oper} {a:Act} {Q:Exit→Act→World→Prop} (hgd:o.guard=none) (s x:Operand) (t:TypeId)
   (ho:o.op = .call { callee := .builtin .append,args:=#[s,x],argTypes:=#[t,t] })
   (base:Nat) (e:TypeId) (i:TypeInfo) (z:Value) (size bytes:Nat) (ht:P.underlying t=some (.slice e)) (hi:P.info? e=some i) (hz:i.zero=some z)
   (hsize:i.size=size) (hby:i.bytes=bytes) (hzs:z.cells.size=size) (hsz:0<size)
   (v:Value) (n:Nat) (xs:List Value) (hs:a.eval s=v) (hown:w.ownsRow base e size v n xs) (B:Nat) (A:Option Addr) (m c:Nat) (news:List Value) (hx:a.eval x = .slice A m c)
   (hr:At w B A news) (hm:news.length=m*size) (h1:∀ u∈news,u.oneCell'=true) (h63:n+m≤maxLen) (hbytes:(n+m)*bytes≤140737488355328) (hbase:base≤w.heap.size)
   (h:∀ v' w',w'.ownsRow base e size v' (n+m) (xs ++ news)→w.grownBy w' v.ownBlock→(v'.ownBlock=v.ownBlock∨v'.ownBlock=some w.heap.size)→wpList P ops Q rest (a.put o.dst v') w') :
   wpList P ops Q (o :: rest) a w :=
 wpList_plain hgd fun _ hK=>wp_append_at w s x t ho base e i z size bytes ht hi hz hsize hby hzs hsz v n xs hs hown B A m c news hx hr hm h1 h63 hbytes hbase fun v' w' h2 h3 h4=>hK _ _ (h v' w' h2 h3 h4)
end
def bv (l:List Nat):List Value:=l.map fun x:Nat => .int .u8 (x:Int)
theorem bv_append (a b:List Nat):bv (a ++ b)=bv a ++ bv b:=by simp [bv]
theorem bv_one (l:List Nat):∀ u∈bv l,u.oneCell'=true:=by
 intro u hu
 obtain ⟨_, _,rfl⟩:=List.mem_map.1 hu
 rfl
theorem bv_take (l:List Nat) (k:Nat):bv (l.take k)=(bv l).take k:=by simp [bv]
theorem bv_ne {l:List Nat} (h:l≠[]):bv l≠[]:=by
 intro h0
 exact h (by simpa [bv] using h0)
theorem At.byte {w:World} {B:Nat} {A:Option Addr} {l:List Nat} (h:At w B A (bv l)) (hn:l≠[]) :
   ∃ b o,A=some ⟨b,o,none⟩∧b<B∧∀ i,i<l.length→w.cell? ⟨b,o+i,none⟩=some (.int .u8 ((l.getD i 0:Nat):Int)):=by
 obtain ⟨b,o,e,hb,hc⟩:=h (bv_ne hn)
 refine ⟨b,o,e,hb,fun i hi=>hc i _ ?_⟩
 simp [bv,hi]
end Go.Proofs.YtcmopnkldplngabGreatDoor
