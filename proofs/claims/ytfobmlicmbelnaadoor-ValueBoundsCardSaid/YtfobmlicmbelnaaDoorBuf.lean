/- A slice of bytes in a captured variable, appended to again and again. -/
import Derived.Test.YtfobmlicmbelnaaDoorCompare
import Derived.Test.YtfobmlicmbelnaaDoorBs
import Derived.Lib.OthersKept
import Derived.Deep.RegionHeld3
import Derived.Deep.DeepCutAuto
namespace Go.Proofs.YtfobmlicmbelnaaDoor
open Go.RowKit

/-- The captured variable in block ba holds a slice of the call's own that reads as l. -/
def Buf (w : World) (base ba : Nat) (l : List Nat) : Prop := ∃ v, w.heap[ba]? = some (.cells #[v] 32 (0, 0)) ∧ Own w base v l
/-- All blocks but ba and rows of bytes are as they were. -/
def Ot (ba : Nat) (w w' : World) : Prop := Lib.OthersKept 5 (some ba) w w'
section
variable {w w' a : World} {base ba : Nat} {v u : Value} {l m : List Nat}
theorem ne_row (h : w.heap[ba]? = some (.cells #[u] 32 (0, 0))) (ho : Own w base v l) : v.ownBlock ≠ some ba := by
  rcases ho.2 with ⟨rfl, _⟩ | ⟨g, cap, cur, rfl, hg, hh, _⟩
  · intro h; cases h
  · intro h2
    have := Option.some.inj (show some g = some ba from h2)
    subst this
    rw [hh] at h
    simp at h
theorem ba_grown (h : w.heap[ba]? = some (.cells #[u] 32 (0, 0))) (ho : Own w base v l) (hg : w.grownBy w' v.ownBlock) : w'.heap[ba]? = some (.cells #[u] 32 (0, 0)) :=
  (hg.block ba (lt_heap h) (fun e => ne_row h ho e.symm)).trans h
theorem buf_store (h : w.heap[ba]? = some (.cells #[u] 32 (0, 0))) (ho : Own w base v l) : Buf (w.setCell ⟨ba, 0, none⟩ v) base ba l := by
  refine ⟨v, one_setCell h, ?_⟩
  exact ho.kept (row := some ba) ⟨rfl, rfl, rfl, by simp [World.setCell], fun k _ hk => Below.heap_setCell _ _ _ _ (fun e => hk (by rw [e]))⟩ (.inr (ne_row h ho))
theorem Ot.refl (ba : Nat) (w : World) : Ot ba w w := Lib.OthersKept.refl _ _ w
theorem Ot.trans (h : Ot ba a w) (k : Ot ba w w') : Ot ba a w' := Lib.OthersKept.trans h k
theorem Ot.alloc (h : Ot ba a w) (o : Obj) : Ot ba a (w.alloc o) := Lib.OthersKept.alloc h o
theorem Ot.set (h : Ot ba a w) (v : Value) : Ot ba a (w.setCell ⟨ba, 0, none⟩ v) := Lib.OthersKept.setCell h ⟨ba, 0, none⟩ rfl v
theorem Ot.drew (h : Ot ba a w) : Ot ba a w.drew := h
theorem Ot.below (h : Below w.heap.size w w') : Ot ba w w' := fun _ _ hk _ _ => heap_below hk h
theorem Ot.grown (h : Ot ba a w) (ho : Own w base v l) (hg : w.grownBy w' v.ownBlock) : Ot ba a w' :=
  Lib.OthersKept.grown h hg (Lib.ownsRowF_kind (World.ownsRowF_of ho))
theorem Ot.heap (h : Ot ba w w') {k : Nat} {c : Array Value} {T : TypeId} {fr : Nat × Nat} (hk : w.heap[k]? = some (.cells c T fr)) (hne : k ≠ ba) (hT : T ≠ 5) : w'.heap[k]? = some (.cells c T fr) :=
  h k _ hk (fun e => hne (Option.some.inj e)) (fun c' fz e => hT (by injection e))
/-- The four cells of a struct that a block holds. -/
theorem box4 {g : Nat} {y0 y1 y2 y3 : Value} {T : TypeId} {fr : Nat × Nat} (h : w.heap[g]? = some (.cells #[y0, y1, y2, y3] T fr)) :
    w.cell? ⟨g, 0, none⟩ = some y0 ∧ w.cell? ⟨g, 1, none⟩ = some y1 ∧ w.cell? ⟨g, 2, none⟩ = some y2 ∧ w.cell? ⟨g, 3, none⟩ = some y3 := by
  have := range_new w y0 y1 y2 y3 T fr h
  exact ⟨by simpa using this 0 _ rfl, by simpa using this 1 _ rfl, by simpa using this 2 _ rfl, by simpa using this 3 _ rfl⟩
/-- append onto a slice of bytes of the call's own, in a region that draws its order. -/
theorem step_app2 {ops : Array Oper} {o : Oper} {a : Act} {K : Act → World → Prop} {Q : Exit → Act → World → Prop} {E : Prop} (hgd : o.guard = none) (s x : Operand)
    (ho : o.op = .call { callee := .builtin .append, args := #[s, x], argTypes := #[32, 32] })
    {v : Value} {l : List Nat} (hs : a.eval s = v) (hown : Own w base v l) {B : Nat} {A : Option Addr} {m c : Nat} {news : List Nat} (hx : a.eval x = .slice A m c)
    (hr : At w B A (bv news)) (hm : news.length = m) (hn : l.length + m ≤ 8796093022208) (hbase : base ≤ w.heap.size)
    (h : ∀ v' w', Own w' base v' (l ++ news) → Below base w w' → w.grownBy w' v.ownBlock → K (a.put o.dst v') w') :
    if Region.wanted o (yielded ops a.tmps) = true then Oper.wp Tryd.prog o a w K Q else E := by
  have hw : Region.wanted o (yielded ops a.tmps) = true := by simp [Region.wanted, hgd]
  rw [if_pos hw]
  obtain ⟨i0, hi0, hz0, hz1, hz2⟩ := info_parts u8_info
  subst hm
  refine wp_append_at w s x 32 ho base 5 i0 _ 1 1 Tryd.underlying32 hi0 hz0 hz1 hz2 rfl (by omega) v l.length (bv l) hs hown B A news.length c (bv news) hx hr
    (by simp [bv]) (bv_one news) (by unfold maxLen; omega) (by omega) hbase ?_
  intro v' w' h1 h2 h3
  refine h v' w' ?_ ((Below.refl _ _).grown h2 hbase (fun k hk => (World.ownsRow.lt hown k hk).1)) h2
  unfold Own
  rw [List.length_append, bv_append]
  exact h1
end
end Go.Proofs.YtfobmlicmbelnaaDoor
