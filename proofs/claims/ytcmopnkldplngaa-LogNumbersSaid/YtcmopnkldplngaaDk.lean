/- A disk in memory: the block of its seven fields, and the row of its bytes. -/
import Derived.Test.YtcmopnkldplngaaDa
import Derived.Test.YtcmopnkldplngaaBs
import Derived.Test.YtcmopnkldplngaaCells
namespace Go.Proofs.Ytcmopnkldplngaa
open Go.RowKit

/-- All blocks but b, and but the row r, are as they were. -/
structure Kr (b : Nat) (r : Option Nat) (w w' : World) : Prop where
  os : w'.os = w.os
  tape : w'.tape = w.tape
  output : w'.output = w.output
  size : w.heap.size ≤ w'.heap.size
  block : ∀ k, k < w.heap.size → k ≠ b → r ≠ some k → w'.heap[k]? = w.heap[k]?
/-- The row is the elder one, or a new one. -/
def Rw (w : World) (r r' : Option Nat) : Prop := r' = r ∨ ∃ g, r' = some g ∧ w.heap.size ≤ g
section
variable {b : Nat} {r r' r'' : Option Nat} {a w w' : World}
theorem Kr.refl (b : Nat) (r : Option Nat) (w : World) : Kr b r w w := ⟨rfl, rfl, rfl, Nat.le_refl _, fun _ _ _ _ => rfl⟩
theorem Rw.refl (w : World) (r : Option Nat) : Rw w r r := .inl rfl
theorem Kr.trans (h : Kr b r a w) (hr : Rw a r r') (k : Kr b r' w w') : Kr b r a w' :=
  ⟨k.os.trans h.os, k.tape.trans h.tape, k.output.trans h.output, Nat.le_trans h.size k.size, fun i hi hb hn =>
    (k.block i (Nat.lt_of_lt_of_le hi h.size) hb (by
      rcases hr with rfl | ⟨g, rfl, hg⟩
      · exact hn
      · intro e
        have := Option.some.inj e
        omega)).trans (h.block i hi hb hn)⟩
theorem Rw.trans (hs : a.heap.size ≤ w.heap.size) (h : Rw a r r') (k : Rw w r' r'') : Rw a r r'' := by
  rcases k with rfl | ⟨g, rfl, hg⟩
  · exact h
  · exact .inr ⟨g, rfl, by omega⟩
theorem Kr.of_below (h : Below w.heap.size w w') : Kr b r w w' := ⟨h.os, h.tape, h.output, h.size, fun k hk _ _ => h.block k hk⟩
theorem Kr.alloc (h : Kr b r a w) (o : Obj) : Kr b r a (w.alloc o) := h.trans (.inl rfl) (Kr.of_below ((Below.refl _ _).alloc (Nat.le_refl _) o))
theorem Kr.drew (h : Kr b r a w) : Kr b r a w.drew := ⟨h.os, h.tape, h.output, h.size, h.block⟩
theorem Kr.drewN (h : Kr b r a w) (k : Nat) : Kr b r a (w.drewN k) := ⟨h.os, h.tape, h.output, h.size, h.block⟩
theorem Kr.set (h : Kr b r a w) (i : Nat) (v : Value) : Kr b r a (w.setCell ⟨b, i, none⟩ v) :=
  h.trans (.inl rfl) ⟨rfl, rfl, rfl, by simp [World.setCell], fun k _ hk _ => Below.heap_setCell _ _ _ _ hk⟩
theorem Kr.grown (h : Kr b r a w) (hr : Rw a r r') (hg : w.grownBy w' r') : Kr b r a w' :=
  h.trans hr ⟨hg.os, hg.tape, hg.output, hg.size, fun k hk _ hn => hg.block k hk (fun e => hn e.symm)⟩
theorem Kr.below {B : Nat} (h : Kr b r a w) (hb : B ≤ b) (hs : B ≤ a.heap.size) (hr : ∀ g, r = some g → B ≤ g) : Below B a w :=
  ⟨h.os, h.tape, h.output, h.size, fun k hk => h.block k (by omega) (by omega) (fun e => by have := hr k e; omega)⟩
theorem Kr.heap (h : Kr b r a w) {k : Nat} {o : Obj} (hk : a.heap[k]? = some o) (hb : k ≠ b) (hr : r ≠ some k) : w.heap[k]? = some o := (h.block k (lt_heap hk) hb hr).trans hk
end

/-- The disk at block p reads as d; r is its row of bytes. All that is its own lies from block base on. -/
def Dk (w : World) (base p : Nat) (r : Option Nat) (d : Pd) : Prop := ∃ v, v.ownBlock = r ∧ base ≤ p ∧ d.Ok ∧ Own w base v d.bs ∧
  w.heap[p]? = some (.cells #[.pointer (some ⟨p, 0, none⟩), .int .i64 (d.most : Int), v, .int .i64 (d.syn : Int), .bool d.armed, .int .i64 (d.left : Int), .bool d.down] 42 (0, 0))
section
variable {w w' : World} {base p q : Nat} {r r' : Option Nat} {d : Pd} {v : Value} {l : List Nat}
theorem own_row (h : Own w base v l) {g : Nat} (hg : v.ownBlock = some g) : base ≤ g ∧ ∃ cur, w.heap[g]? = some (.cells cur 5 (0, 0)) := by
  rcases h.2 with ⟨rfl, _⟩ | ⟨k, cap, cur, rfl, h1, h2, _⟩
  · cases hg
  · obtain rfl := Option.some.inj (show some k = some g from hg)
    exact ⟨h1, cur, h2⟩
/-- A block of another type is none of its row. -/
theorem own_ne (h : Own w base v l) {k : Nat} {c : Array Value} {T : TypeId} {fr : Nat × Nat} (hk : w.heap[k]? = some (.cells c T fr)) (hT : T ≠ 5) : v.ownBlock ≠ some k := by
  intro e
  obtain ⟨_, cur, hc⟩ := own_row h e
  rw [hk] at hc
  simp at hc
  exact hT hc.2.1
theorem Dk.ok (h : Dk w base p r d) : d.Ok := by
  obtain ⟨v, _, _, h, _⟩ := h
  exact h
theorem Dk.lt (h : Dk w base p r d) : p < w.heap.size := by
  obtain ⟨v, _, _, _, _, h⟩ := h
  exact lt_heap h
theorem Dk.row_lt (h : Dk w base p r d) {g : Nat} (e : r = some g) : base ≤ g ∧ g < w.heap.size := by
  obtain ⟨v, rfl, _, _, h, _⟩ := h
  obtain ⟨h1, cur, h2⟩ := own_row h e
  exact ⟨h1, lt_heap h2⟩
theorem Dk.row_ne (h : Dk w base p r d) {k : Nat} {c : Array Value} {T : TypeId} {fr : Nat × Nat} (hk : w.heap[k]? = some (.cells c T fr)) (hT : T ≠ 5) : r ≠ some k := by
  obtain ⟨v, rfl, _, _, h, _⟩ := h
  exact own_ne h hk hT
theorem own_kr {b : Nat} (h : Own w base v l) (hk : Kr b r w w') (hb : v.ownBlock ≠ some b) (hr : ∀ g, v.ownBlock = some g → r ≠ some g) : Own w' base v l := by
  refine ⟨h.1, ?_⟩
  rcases h.2 with h0 | ⟨g, cap, cur, rfl, h1, h2, h3⟩
  · exact .inl h0
  · exact .inr ⟨g, cap, cur, rfl, h1, hk.heap h2 (fun e => hb (by subst e; rfl)) (hr g rfl), h3⟩
/-- What is done to another disk, or to new memory, leaves a disk as it is. -/
theorem Dk.other (h : Dk w base p r d) (hk : Kr q r' w w') (hp : p ≠ q) (hr' : r' ≠ some p) (hq : r ≠ some q) (hr : ∀ g, r = some g → r' ≠ some g) : Dk w' base p r d := by
  obtain ⟨v, rfl, h1, h2, h3, h4⟩ := h
  exact ⟨v, rfl, h1, h2, own_kr h3 hk hq hr, hk.heap h4 hp hr'⟩
theorem Dk.below (h : Dk w base p r d) (hb : Below w.heap.size w w') : Dk w' base p r d := by
  obtain ⟨v, rfl, h1, h2, h3, h4⟩ := h
  exact ⟨v, rfl, h1, h2, h3.below hb (Nat.le_refl _), heap_below h4 hb⟩
theorem Dk.alloc (h : Dk w base p r d) (o : Obj) : Dk (w.alloc o) base p r d := h.below ((Below.refl _ _).alloc (Nat.le_refl _) o)
theorem Dk.drew (h : Dk w base p r d) : Dk w.drew base p r d := h
theorem Dk.drewN (h : Dk w base p r d) (k : Nat) : Dk (w.drewN k) base p r d := h
theorem Dk.mono (h : Dk w base p r d) {base' : Nat} (hb : base' ≤ base) : Dk w base' p r d := by
  obtain ⟨v, rfl, h1, h2, h3, h4⟩ := h
  exact ⟨v, rfl, by omega, h2, h3.mono hb, h4⟩
theorem Dk.low (h : Dk w base p r d) (k : Kr p r w w') : Below base w w' := by
  refine k.below ?_ ?_ (fun g e => (h.row_lt e).1)
  · obtain ⟨v, _, h, _⟩ := h
    exact h
  · have := h.lt
    obtain ⟨v, _, h, _⟩ := h
    omega
/-- The seven cells of a disk. -/
theorem box7 {g : Nat} {y0 y1 y2 y3 y4 y5 y6 : Value} {T : TypeId} (h : w.heap[g]? = some (.cells #[y0, y1, y2, y3, y4, y5, y6] T (0, 0))) :
    (w.cell? ⟨g, 0, none⟩ = some y0 ∧ w.cell? ⟨g, 1, none⟩ = some y1 ∧ w.cell? ⟨g, 2, none⟩ = some y2 ∧ w.cell? ⟨g, 3, none⟩ = some y3 ∧ w.cell? ⟨g, 4, none⟩ = some y4 ∧ w.cell? ⟨g, 5, none⟩ = some y5 ∧ w.cell? ⟨g, 6, none⟩ = some y6) ∧
    (w.frozen? ⟨g, 0, none⟩ = false ∧ w.frozen? ⟨g, 1, none⟩ = false ∧ w.frozen? ⟨g, 2, none⟩ = false ∧ w.frozen? ⟨g, 3, none⟩ = false ∧ w.frozen? ⟨g, 4, none⟩ = false ∧ w.frozen? ⟨g, 5, none⟩ = false ∧ w.frozen? ⟨g, 6, none⟩ = false) :=
  ⟨⟨cell_block h 0, cell_block h 1, cell_block h 2, cell_block h 3, cell_block h 4, cell_block h 5, cell_block h 6⟩, free_block h 0, free_block h 1, free_block h 2, free_block h 3, free_block h 4, free_block h 5, free_block h 6⟩
/-- Two disks side by side that share nothing. -/
theorem Own.pre (h : Own w base v l) {A : Option Addr} {n c : Nat} (hv : v = .slice A n c) (k : Nat) (hk : k ≤ l.length) : Own w base (.slice A k c) (l.take k) ∧ (Value.slice A k c).ownBlock = v.ownBlock := by
  subst hv
  have e : (l.take k).length = k := by simp; omega
  refine ⟨?_, by cases A <;> rfl⟩
  unfold Own
  rw [e]
  refine ⟨by simp [bv]; omega, ?_⟩
  rcases h.2 with ⟨h1, h2⟩ | ⟨g, cap, cur, h1, h2, h3, h4, h5, h6, h7⟩
  · injection h1 with h1 h8 h9
    subst h1 h9
    exact .inl ⟨by rw [show k = 0 by omega], by omega⟩
  · injection h1 with h1 h8 h9
    subst h1 h9
    refine .inr ⟨g, c, cur, rfl, h2, h3, by omega, h5, h6, ?_⟩
    rw [bv_take, ← h7, List.take_take]
    congr 1
    omega
theorem bel_drewN {B : Nat} {a : World} (h : Below B a w) (k : Nat) : Below B a (w.drewN k) := ⟨h.os, h.tape, h.output, h.size, h.block⟩
theorem Kr.of_kp {b : Nat} (h : Kp b w w') : Kr b r w w' := ⟨h.os, h.tape, h.output, h.size, fun k hk hb _ => h.block k hk (fun e => hb (Option.some.inj e))⟩
/-- Bytes lie in no disk's block. -/
theorem Bs.kp (hv : Bs w v l) (h : Dk w base p r d) (hk : Kp p w w') : Bs w' v l := by
  obtain ⟨⟨A, c, rfl, hc, ha⟩, h8⟩ := hv
  refine ⟨⟨A, c, rfl, hc, fun hn => ?_⟩, h8⟩
  obtain ⟨b, o, e, hb, hcell⟩ := ha hn
  refine ⟨b, o, e, Nat.lt_of_lt_of_le hb hk.size, fun i x hx => hk.cell (hcell i x hx) ?_⟩
  rintro rfl
  obtain ⟨u, rfl, _, _, _, hh⟩ := h
  have h1 := hcell i x hx
  rw [cell_block hh] at h1
  obtain ⟨y, _, rfl⟩ := List.mem_map.1 (List.mem_of_getElem? hx)
  have hj := (Array.getElem?_eq_some_iff.1 h1).1
  simp at hj
  generalize o + i = j at *
  match j, hj with
  | 0, _ => simp at h1
  | 1, _ => simp at h1
  | 2, _ => simp at h1; subst h1; rename_i ho; obtain ⟨_, _, e', _⟩ := ho.form; cases e'
  | 3, _ => simp at h1
  | 4, _ => simp at h1
  | 5, _ => simp at h1
  | 6, _ => simp at h1
/-- append onto a slice of bytes of the call's own, in a region that draws its order: what grows. -/
theorem step_appd {ops : Array Oper} {o : Oper} {a : Act} {K : Act → World → Prop} {Q : Exit → Act → World → Prop} {E : Prop} (hgd : o.guard = none) (s x : Operand)
    (ho : o.op = .call { callee := .builtin .append, args := #[s, x], argTypes := #[22, 22] })
    (hs : a.eval s = v) (hown : Own w base v l) {B : Nat} {A : Option Addr} {m c : Nat} {news : List Nat} (hx : a.eval x = .slice A m c)
    (hr : At w B A (bv news)) (hm : news.length = m) (hn : l.length + m ≤ 8796093022208) (hbase : base ≤ w.heap.size)
    (h : ∀ v' w', Own w' base v' (l ++ news) → w.grownBy w' v.ownBlock → (v'.ownBlock = v.ownBlock ∨ v'.ownBlock = some w.heap.size) → K (a.put o.dst v') w') :
    if Region.wanted o (yielded ops a.tmps) = true then Oper.wp Try.prog o a w K Q else E := by
  have hw : Region.wanted o (yielded ops a.tmps) = true := by simp [Region.wanted, hgd]
  rw [if_pos hw]
  obtain ⟨i0, hi0, hz0, hz1, hz2⟩ := info_parts u8_info
  subst hm
  refine wp_append_at w s x 22 ho base 5 i0 _ 1 1 Try.underlying22 hi0 hz0 hz1 hz2 rfl (by omega) v l.length (bv l) hs hown B A news.length c (bv news) hx hr
    (by simp [bv]) (bv_one news) (by unfold maxLen; omega) (by omega) hbase ?_
  intro v' w' h1 h2 h3
  refine h v' w' ?_ h2 h3
  unfold Own
  rw [List.length_append, bv_append]
  exact h1
end
end Go.Proofs.Ytcmopnkldplngaa
