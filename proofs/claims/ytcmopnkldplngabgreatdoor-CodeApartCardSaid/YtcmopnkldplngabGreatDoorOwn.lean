/- drover/bytes.own: its argument in new memory. And append onto a slice of bytes of the call's own. -/
import Derived.Test.YtcmopnkldplngabGreatDoorMem
import Derived.Test.YtcmopnkldplngabGreatDoorChecked
namespace Go.Proofs.YtcmopnkldplngabGreatDoor
open Go.RowKit
theorem u8_info:(Tryz.prog.info? 5).map (fun i=>(i.zero,i.size,i.bytes))=some (some (.int .u8 0),1,1):=by kernel_rfl
def Own (w:World) (base:Nat) (v:Value) (l:List Nat):Prop:=w.ownsRow base 5 1 v l.length (bv l)
theorem Own.nil (w:World) (base:Nat):Own w base (.slice none 0 0) []:=World.ownsRow_nil w base _ 1
theorem Own.drew {w:World} {base:Nat} {v:Value} {l:List Nat} (h:Own w base v l):Own w.drew base v l:=h
theorem Own.alloc {w:World} {base:Nat} {v:Value} {l:List Nat} (h:Own w base v l) (o:Obj):Own (w.alloc o) base v l:=World.ownsRow.alloc h o
theorem Own.below {w w':World} {base B:Nat} {v:Value} {l:List Nat} (h:Own w base v l) (hb:Below B w w') (hB:w.heap.size≤B):Own w' base v l :=
 World.ownsRow.kept (row:=none) h ⟨hb.os,hb.tape,hb.output,hb.size,fun k hk _ => hb.block k (by omega)⟩
   (by cases hv:v.ownBlock <;> simp)
theorem Own.mono {w:World} {base base':Nat} {v:Value} {l:List Nat} (h:Own w base v l) (hb:base'≤base):Own w base' v l:=by
 refine ⟨h.1,?_⟩
 rcases h.2 with h0 | ⟨g,cap,cur,h1,h2,h3⟩
 · exact .inl h0
 · exact .inr ⟨g,cap,cur,h1,by omega,h3⟩
theorem Own.form {w:World} {base:Nat} {v:Value} {l:List Nat} (h:Own w base v l):∃ A c,v = .slice A l.length c∧l.length≤c∧c≤maxLen∧At w w.heap.size A (bv l)∧(A=none→c=0)∧(∀ a,A=some a→base≤a.block):=by
 have h':=h
 rcases h.2 with ⟨h1,h2⟩ | ⟨g,cap,cur,h1,h2,h3,h4,h5, _⟩
 · subst h1
   rw [h2]
   have hl:l=[]:=List.eq_nil_of_length_eq_zero h2
   subst hl
   exact ⟨none,0,rfl,by simp,by unfold maxLen; omega,At.nil _ _ _,fun _ => rfl,fun a h=>by cases h⟩
 · subst h1
   exact ⟨some ⟨g,0,none⟩,cap,rfl,h4,h5,At.of_own h',(fun e=>by cases e),fun a h=>by injection h with h; subst h; exact h2⟩
theorem At.made (w:World) (arr:Array Value) (t:TypeId) (fr:Nat × Nat:=(0,0)):At (w.alloc (.cells arr t fr)) (w.heap.size+1) (some ⟨w.heap.size,0,none⟩) arr.toList:=fun _ =>
 ⟨w.heap.size,0,rfl,by omega,fun i x hx=>by
   have hx':arr[i]?=some x:=by simpa using hx
   have hh:=heap_alloc_new w (.cells arr t fr)
   unfold World.cell?
   dsimp only
   rw [hh]
   simpa using hx'⟩
theorem At.one (w:World) (z:Int) (t:TypeId) (k:Nat) (h:z=(k:Int)):At (w.alloc (.cells #[.int .u8 z] t)) (w.heap.size+1) (some ⟨w.heap.size,0,none⟩) (bv [k]):=by
 subst h
 exact At.made w #[.int .u8 (k:Int)] t
theorem wpList_app {w:World} {ops:Array Oper} {rest:List Oper} {o:Oper} {a:Act} {Q:Exit→Act→World→Prop} (hgd:o.guard=none) (s x:Operand)
   (ho:o.op = .call { callee := .builtin .append,args:=#[s,x],argTypes:=#[50,50] })
   {base:Nat} {v:Value} {l:List Nat} (hs:a.eval s=v) (hown:Own w base v l) {B:Nat} {A:Option Addr} {m c:Nat} {news:List Nat} (hx:a.eval x = .slice A m c)
   (hr:At w B A (bv news)) (hm:news.length=m) (hn:l.length+m≤8796093022208) (hbase:base≤w.heap.size)
   (h:∀ v' w',Own w' base v' (l ++ news)→Below base w w'→w.grownBy w' v.ownBlock→(v'.ownBlock=v.ownBlock∨v'.ownBlock=some w.heap.size)→wpList Tryz.prog ops Q rest (a.put o.dst v') w') :
   wpList Tryz.prog ops Q (o :: rest) a w:=by
 obtain ⟨i0,hi0,hz0,hz1,hz2⟩:=info_parts u8_info
 subst hm
 refine wpList_append_at w hgd s x 50 ho base 5 i0 _ 1 1 Tryz.underlying50 hi0 hz0 hz1 hz2 rfl (by omega) v l.length (bv l) hs hown B A news.length c (bv news) hx hr
   (by simp [bv]) (bv_one news) (by unfold maxLen; omega) (by omega) hbase ?_
 intro v' w' h1 h2 h3
 refine h v' w' ?_ ((Below.refl _ _).grown h2 hbase (fun k hk=>(World.ownsRow.lt hown k hk).1)) h2 h3
 unfold Own
 rw [List.length_append,bv_append]
 exact h1
end Go.Proofs.YtcmopnkldplngabGreatDoor
