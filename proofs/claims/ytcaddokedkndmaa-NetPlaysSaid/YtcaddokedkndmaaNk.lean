/- Rows of datagrams beside one another: what an append to one leaves of the other; sources that are parts of a row. -/
import Derived.Test.YtcaddokedkndmaaNj
namespace Go.Proofs.Ytcaddokedkndmaa
open Go.RowKit
set_option linter.unusedVariables false

section
variable {w w' : World} {base q N : Nat} {r r' : Option Nat} {l l' : List Gr} {v : Value}
/-- Behind an append to another row of datagrams this one is as it was. -/
theorem GR.beside (h : GR w base v l) {o : Option Nat} (hg : w.grownBy w' o) (hr : ∀ g, o = some g → base ≤ g ∧ ∃ cur, w.heap[g]? = some (.cells cur 29 (0, 0))) (hne : ∀ g, v.ownBlock = some g → o ≠ some g) : GR w' base v l :=
  h.keep hg.size (fun b k1 k2 => hg.block b k2 (fun e => by have := (hr b e.symm).1; omega))
    (fun b cur fr k => hg.block b (lt_heap k) (fun e => by
      obtain ⟨_, cur', h4⟩ := hr b e.symm
      rw [k] at h4
      have := Option.some.inj h4
      simp at this))
    (fun b cur fr hv k => hg.block b (lt_heap k) (fun e => hne b hv e.symm))
theorem GR.blk (h : GR w base v l) {g : Nat} (hg : v.ownBlock = some g) : base ≤ g ∧ g < w.heap.size ∧ ∃ cur, w.heap[g]? = some (.cells cur 29 (0, 0)) := by
  obtain ⟨xs, ho, -⟩ := h
  rcases ho.2 with ⟨rfl, _⟩ | ⟨k, cap, cur, rfl, h1, h2, _⟩
  · cases hg
  · obtain rfl := Option.some.inj (show some k = some g from hg)
    exact ⟨h1, lt_heap h2, cur, h2⟩
theorem GR.drew (h : GR w base v l) : GR w.drew base v l := h
theorem GR.drewN (h : GR w base v l) (k : Nat) : GR (w.drewN k) base v l := h
theorem gr_snoc (l : List Gr) (j : Nat) (x : Gr) (hx : l[j]? = some x) : l.take (j + 1) = l.take j ++ [x] := by
  have hj := (List.getElem?_eq_some_iff.1 hx).1
  rw [List.take_succ_eq_append_getElem hj, (List.getElem?_eq_some_iff.1 hx).2]
theorem rest_len (l : List Gr) (node : Int) : (rest l node).length ≤ l.length := List.length_filter_le _ _
theorem rest_rest (l : List Gr) (node : Int) : rest (rest l node) node = rest l node := by
  unfold rest
  rw [List.filter_filter]
  congr 1
  funext x
  simp
theorem rest_all (l : List Gr) (h : ∀ x ∈ l, 0 ≤ x.to ∧ x.to < 3) : rest (rest (rest l 0) 1) 2 = [] := by
  unfold rest
  rw [List.filter_filter, List.filter_filter, List.filter_eq_nil_iff]
  intro x hx
  have := h x hx
  simp
  omega
theorem rest_mem (l : List Gr) (node : Int) {x : Gr} (h : x ∈ rest l node) : x ∈ l := (List.mem_filter.1 h).1
/-- The first elements of a row, as a source of an append. -/
theorem GR.first {A : Option Addr} {n c : Nat} (h : GR w base (.slice A n c) l) (k : Nat) (hk : k ≤ l.length) : ∃ ys : List Value, At w w.heap.size A ys ∧ Gcs w base ys (l.take k) ∧ ys.length = k * 3 ∧ (∀ u ∈ ys, u.oneCell' = true) := by
  obtain ⟨xs, ho, hc, h1⟩ := h
  refine ⟨xs.take (k * 3), ?_, hc.take k, by rw [List.length_take, ho.1]; omega, fun u hu => h1 u (List.mem_of_mem_take hu)⟩
  rcases id ho.2 with ⟨h1, h2⟩ | ⟨g, cap, cur, he, k1, k2, k3, k4, k5, k6⟩
  · have : k * 3 = 0 := by omega
    rw [this, List.take_zero]
    exact At.nil _ _ _
  · injection he with he _ _
    subst he
    refine fun _ => ⟨g, 0, rfl, lt_heap k2, fun i u hu => ?_⟩
    have hi := (List.getElem?_eq_some_iff.1 hu).1
    rw [List.length_take, ho.1] at hi
    rw [List.getElem?_take_of_lt (by omega), ← k6, List.getElem?_take_of_lt (by omega), Array.getElem?_toList] at hu
    rw [cell_block k2, Nat.zero_add, hu]
/-- The elements behind the first k, as a source of an append: from element k on. -/
theorem GR.behind {A : Option Addr} {n c : Nat} (h : GR w base (.slice A n c) l) (k : Nat) (hk : k ≤ l.length) (A' : Option Addr) (hA : k < l.length → ∀ g, A = some ⟨g, 0, none⟩ → A' = some ⟨g, k * 3, none⟩) : ∃ ys : List Value, At w w.heap.size A' ys ∧ Gcs w base ys (l.drop k) ∧ ys.length = (l.length - k) * 3 ∧ (∀ u ∈ ys, u.oneCell' = true) := by
  obtain ⟨xs, ho, hc, h1⟩ := h
  refine ⟨xs.drop (k * 3), ?_, hc.drop k, by rw [List.length_drop, ho.1]; omega, fun u hu => h1 u (List.mem_of_mem_drop hu)⟩
  by_cases hkl : k < l.length
  · rcases id ho.2 with ⟨h1, h2⟩ | ⟨g, cap, cur, he, k1, k2, k3, k4, k5, k6⟩
    · omega
    · injection he with he _ _
      subst he
      rw [hA hkl g rfl]
      refine fun _ => ⟨g, k * 3, rfl, lt_heap k2, fun i u hu => ?_⟩
      rw [List.getElem?_drop] at hu
      have hi := (List.getElem?_eq_some_iff.1 hu).1
      rw [ho.1] at hi
      rw [← k6, List.getElem?_take_of_lt (by omega), Array.getElem?_toList] at hu
      rw [cell_block k2, hu]
  · rw [List.drop_eq_nil_of_le (by rw [ho.1]; omega)]
    exact At.nil _ _ _
/-- The block that is put into a cell of its own is a source of one. -/
theorem gm_at (w : World) (y0 y1 y2 : Value) : At (w.alloc (.cells #[y0, y1, y2] 29)) (w.alloc (.cells #[y0, y1, y2] 29)).heap.size (some ⟨w.heap.size, 0, none⟩) [y0, y1, y2] := by
  have := At.made w #[y0, y1, y2] 29
  simpa using this
theorem gm_ones {y0 y1 y2 : Value} (h0 : y0.oneCell' = true) (h1 : y1.oneCell' = true) (h2 : y2.oneCell' = true) : ∀ u ∈ [y0, y1, y2], u.oneCell' = true := by
  intro u hu
  simp at hu
  rcases hu with rfl | rfl | rfl <;> assumption
/-- A row's own block is a new one. -/
def New (W : World) (v : Value) : Prop := ∀ g, v.ownBlock = some g → W.heap.size ≤ g
theorem New.nil (W : World) : New W (.slice none 0 0) := fun g h => by cases h
theorem New.grown {W : World} {v' : Value} (h : New W v) (hs : W.heap.size ≤ w.heap.size) (k : v'.ownBlock = v.ownBlock ∨ v'.ownBlock = some w.heap.size) : New W v' := by
  intro g hg
  rcases k with k | k
  · exact h g (k ▸ hg)
  · rw [k] at hg
    have := Option.some.inj hg
    omega
theorem Gcs.below {xs : List Value} (h : Gcs w base xs l) (hb : Below w.heap.size w w') : Gcs w' base xs l := fun i x hx => by
  obtain ⟨h1, h2, u, h3, h4⟩ := h i x hx
  exact ⟨h1, h2, u, h3, h4.below hb⟩
/-- append onto such a row, within a statement that draws its order. -/
theorem step_gr {ops : Array Oper} {o : Oper} {a : Act} {K : Act → World → Prop} {Q : Exit → Act → World → Prop} {E : Prop} (hgd : o.guard = none) (s x : Operand)
    (ho : o.op = .call { callee := .builtin .append, args := #[s, x], argTypes := #[38, 38] })
    (hs : a.eval s = v) (hv : GR w base v l) {A : Option Addr} {m c : Nat} (hx : a.eval x = .slice A m c) {ys : List Value} (hr : At w w.heap.size A ys) (hl : l'.length = m) (hc : Gcs w base ys l') (hy : ys.length = m * 3) (h1 : ∀ u ∈ ys, u.oneCell' = true)
    (hn : l.length + m ≤ 100000) (hbase : base ≤ w.heap.size)
    (h : ∀ v' w', GR w' base v' (l ++ l') → w.grownBy w' v.ownBlock → (∀ g, v.ownBlock = some g → base ≤ g ∧ ∃ cur, w.heap[g]? = some (.cells cur 29 (0, 0))) → (v'.ownBlock = v.ownBlock ∨ v'.ownBlock = some w.heap.size) → K (a.put o.dst v') w') :
    if Region.wanted o (yielded ops a.tmps) = true then Oper.wp Try.prog o a w K Q else E := by
  have hw : Region.wanted o (yielded ops a.tmps) = true := by simp [Region.wanted, hgd]
  rw [if_pos hw]
  obtain ⟨i0, hi0, hz0, hz1, hz2⟩ := info_parts gm_info
  obtain ⟨xs, hown, hcs, hones⟩ := hv
  have hrow : ∀ g, v.ownBlock = some g → base ≤ g ∧ ∃ cur, w.heap[g]? = some (.cells cur 29 (0, 0)) := by
    intro g hg
    rcases hown.2 with ⟨rfl, _⟩ | ⟨k, cap, cur, rfl, h1, h2, _⟩
    · cases hg
    · obtain rfl := Option.some.inj (show some k = some g from hg)
      exact ⟨h1, cur, h2⟩
  refine wp_append_at w s x 38 ho base 29 i0 _ 3 40 Try.underlying38 hi0 hz0 hz1 hz2 rfl (by omega) v l.length xs hs hown w.heap.size A m c ys hx hr hy h1 (by unfold maxLen; omega) (by omega) hbase ?_
  intro v' w' h2 h3 h4
  refine h v' w' ⟨xs ++ ys, ?_, ?_, ?_⟩ h3 hrow h4
  · rw [List.length_append, hl]
    exact h2
  · have hk : ∀ {u : Value} {d : List Nat}, Bx w base u d → Bx w' base u d := fun hb => hb.keep h3.size
      (fun b k1 k2 => h3.block b k2 (fun e => by have := (hrow b e.symm).1; omega))
      (fun b cur fr k => h3.block b (lt_heap k) (fun e => by
        obtain ⟨_, cur', h4⟩ := hrow b e.symm
        rw [k] at h4
        have := Option.some.inj h4
        simp at this))
    intro i y hy'
    obtain ⟨k1, k2, u, k3, k4⟩ := (hcs.append hc hown.1) i y hy'
    exact ⟨k1, k2, u, k3, hk k4⟩
  · intro u hu
    rcases List.mem_append.1 hu with hu | hu
    · exact hones u hu
    · exact h1 u hu
end
end Go.Proofs.Ytcaddokedkndmaa
