/- Datagrams as plain data; a row of them; a net in memory. -/
import Derived.Test.YtjhopajhcmkllaaCv
import Derived.Test.YtjhopajhcmkllaaCells
import Derived.LaidEqlPtr
namespace Go.Proofs.Ytjhopajhcmkllaa
open Go.RowKit

theorem gr_info : (Try.prog.info? 98).map (fun i => (i.zero, i.size, i.bytes)) = some (some (.agg #[.int .i64 0, .int .i64 0, .string ⟨#[]⟩]), 3, 32) := by kernel_rfl
/-- A datagram. -/
structure Gr where
  fr : Int
  to : Int
  d : List Nat
theorem Gr.eq {a b : Gr} (h : a.fr = b.fr) (k : a.to = b.to) (l : a.d = b.d) : a = b := by
  cases a
  cases b
  simp_all
def gC (g : Gr) : List Value := [.int .i64 g.fr, .int .i64 g.to, .string (strOf g.d)]
def gCs (l : List Gr) : List Value := l.flatMap gC
theorem gCs_append (a b : List Gr) : gCs (a ++ b) = gCs a ++ gCs b := by unfold gCs; rw [List.flatMap_append]
theorem gCs_one (g : Gr) : gCs [g] = gC g := by simp [gCs]
theorem gCs_length (l : List Gr) : (gCs l).length = l.length * 3 := by
  induction l with
  | nil => rfl
  | cons g l ih =>
    have : gCs (g :: l) = gC g ++ gCs l := by simp [gCs]
    rw [this, List.length_append, ih]
    simp [gC]
    omega
theorem gC_one (g : Gr) : ∀ u ∈ gC g, u.oneCell' = true := by
  intro u hu
  simp [gC] at hu
  rcases hu with rfl | rfl | rfl <;> rfl
theorem gCs_ones (l : List Gr) : ∀ u ∈ gCs l, u.oneCell' = true := by
  intro u hu
  unfold gCs at hu
  obtain ⟨g, _, hg⟩ := List.mem_flatMap.1 hu
  exact gC_one g u hg
theorem gCs_at (l : List Gr) (i j : Nat) (x : Gr) (h : l[i]? = some x) (hj : j < 3) : (gCs l)[i * 3 + j]? = (gC x)[j]? := by
  induction l generalizing i with
  | nil => simp at h
  | cons g l ih =>
    have e : gCs (g :: l) = gC g ++ gCs l := by simp [gCs]
    rw [e]
    cases i with
    | zero =>
      simp at h
      subst h
      rw [List.getElem?_append_left (by simp [gC]; omega)]
      congr 1
      omega
    | succ i =>
      rw [List.getElem?_append_right (by simp [gC]; omega), ← ih i (by simpa using h)]
      congr 1
      simp [gC]
      omega
/-- A row of datagrams at block g. -/
def Gw (w : World) (base g c : Nat) (l : List Gr) : Prop := base ≤ g ∧ l.length ≤ c ∧ c ≤ maxLen ∧ ∃ cur, w.heap[g]? = some (.cells cur 98 (0, 0)) ∧ cur.size = c * 3 ∧ ∀ i j x, l[i]? = some x → j < 3 → cur[i * 3 + j]? = (gC x)[j]?
section
variable {w w' : World} {base g c n : Nat} {l : List Gr} {v : Value}
theorem Gw.own (h : Gw w base g c l) : w.ownsRow base 98 3 (.slice (some ⟨g, 0, none⟩) l.length c) l.length (gCs l) := by
  obtain ⟨h1, h2, h3, cur, h4, h5, h6⟩ := h
  refine ⟨gCs_length l, .inr ⟨g, c, cur, rfl, h1, h4, h2, h3, h5, ?_⟩⟩
  apply List.ext_getElem?
  intro k
  by_cases hk : k < l.length * 3
  · have e : k = k / 3 * 3 + k % 3 := by omega
    have hlt : k / 3 < l.length := by omega
    rw [List.getElem?_take_of_lt hk, Array.getElem?_toList, e, h6 (k / 3) (k % 3) l[k / 3] (List.getElem?_eq_getElem hlt) (by omega), gCs_at l (k / 3) (k % 3) l[k / 3] (List.getElem?_eq_getElem hlt) (by omega)]
  · rw [List.getElem?_eq_none (by simp; omega), List.getElem?_eq_none (by rw [gCs_length]; omega)]
theorem Gw.of_own (h : w.ownsRow base 98 3 (.slice (some ⟨g, 0, none⟩) n c) l.length (gCs l)) : n = l.length ∧ Gw w base g c l := by
  rcases h.2 with ⟨h0, _⟩ | ⟨g', c', cur, he, h1, h2, h3, h4, h5, h6⟩
  · cases h0
  · injection he with he e1 e2
    subst e1 e2
    obtain rfl : g = g' := by injection he with he; injection he
    refine ⟨rfl, h1, h3, h4, cur, h2, h5, fun i j x hx hj => ?_⟩
    have hi := (List.getElem?_eq_some_iff.1 hx).1
    rw [← gCs_at l i j x hx hj, ← h6, List.getElem?_take_of_lt (by omega), Array.getElem?_toList]
/-- What a slice of datagrams of the call's own looks like. -/
theorem row_form (h : w.ownsRow base 98 3 v l.length (gCs l)) : (v = .slice none 0 0 ∧ l = []) ∨ ∃ g c, v = .slice (some ⟨g, 0, none⟩) l.length c ∧ Gw w base g c l := by
  rcases id h.2 with ⟨h0, h1⟩ | ⟨g, c, cur, he, _⟩
  · exact .inl ⟨h0, List.length_eq_zero_iff.1 h1⟩
  · subst he
    exact .inr ⟨g, c, rfl, (Gw.of_own h).2⟩
theorem Gw.lt (h : Gw w base g c l) : g < w.heap.size := by
  obtain ⟨_, _, _, cur, h4, _⟩ := h
  exact lt_heap h4
theorem Gw.cell (h : Gw w base g c l) {i : Nat} {x : Gr} (hx : l[i]? = some x) {j : Nat} (hj : j < 3) : w.cell? ⟨g, i * 3 + j, none⟩ = (gC x)[j]? := by
  obtain ⟨_, _, _, cur, h4, _, h6⟩ := h
  rw [cell_block h4, h6 i j x hx hj]
theorem Gw.free (h : Gw w base g c l) (j : Nat) : w.frozen? ⟨g, j, none⟩ = false := by
  obtain ⟨_, _, _, cur, h4, _⟩ := h
  exact free_block h4 j
theorem Gw.there (h : Gw w base g c l) {j : Nat} (hj : j < c * 3) : (w.cell? ⟨g, j, none⟩).isSome = true := by
  obtain ⟨_, _, _, cur, h4, h5, _⟩ := h
  rw [cell_block h4, Array.getElem?_eq_getElem (by omega)]
  rfl
/-- A row stays a row in a world where its block is as it was. -/
theorem Gw.same (h : Gw w base g c l) (hh : w'.heap[g]? = w.heap[g]?) : Gw w' base g c l := by
  obtain ⟨h1, h2, h3, cur, h4, h5, h6⟩ := h
  exact ⟨h1, h2, h3, cur, hh.trans h4, h5, h6⟩
theorem Gw.begin (h : Gw w base g c l) {l' : List Gr} (hl : l'.length ≤ l.length) (hx : ∀ i, i < l'.length → l'[i]? = l[i]?) : Gw w base g c l' := by
  obtain ⟨h1, h2, h3, cur, h4, h5, h6⟩ := h
  exact ⟨h1, by omega, h3, cur, h4, h5, fun i j x hi hj => h6 i j x (by rw [← hx i (List.getElem?_eq_some_iff.1 hi).1]; exact hi) hj⟩
/-- Cells in a block that are stored one behind the other. -/
theorem heap_sets {T : TypeId} {fr : Nat × Nat} (vs : List Value) : ∀ (o : Nat) (w : World) (cur : Array Value), w.heap[g]? = some (.cells cur T fr) → ∃ cur', (w.setCells g o vs).heap[g]? = some (.cells cur' T fr) ∧ cur'.size = cur.size ∧
    (∀ k, k < cur.size → cur'[k]? = if o ≤ k ∧ k < o + vs.length then vs[k - o]? else cur[k]?) := by
  induction vs with
  | nil =>
    intro o w cur h
    refine ⟨cur, h, rfl, fun k _ => ?_⟩
    rw [if_neg (by simp)]
  | cons v vs ih =>
    intro o w cur h
    obtain ⟨cur', h1, h2, h3⟩ := ih (o + 1) _ _ (heap_set h o v)
    refine ⟨cur', h1, by rw [h2]; simp, fun k hk => ?_⟩
    rw [h3 k (by simpa using hk)]
    by_cases e : k = o
    · subst e
      rw [if_neg (by omega), if_pos (by simp)]
      simp [hk]
    · have e1 : (cur.setIfInBounds o v)[k]? = cur[k]? := by rw [Array.getElem?_setIfInBounds, if_neg (fun h => e h.symm)]
      rw [e1]
      by_cases hb : o + 1 ≤ k ∧ k < o + 1 + vs.length
      · rw [if_pos hb, if_pos ⟨by omega, by simp; omega⟩, show k - o = (k - (o + 1)) + 1 by omega]
        simp
      · rw [if_neg hb, if_neg (by simp; omega)]
/-- An element is stored. -/
theorem Gw.set (h : Gw w base g c l) (i : Nat) (hi : i < l.length) (x : Gr) : Gw (w.setCells g (i * 3) (gC x)) base g c (l.set i x) := by
  obtain ⟨h1, h2, h3, cur, h4, h5, h6⟩ := h
  obtain ⟨cur', k1, k2, k3⟩ := heap_sets (gC x) (i * 3) w cur h4
  refine ⟨h1, by simpa using h2, h3, cur', k1, by omega, fun i' j y hy hj => ?_⟩
  have hi' := (List.getElem?_eq_some_iff.1 hy).1
  simp at hi'
  rw [k3 _ (by omega)]
  by_cases e : i' = i
  · subst e
    rw [List.getElem?_set_self hi] at hy
    obtain rfl := Option.some.inj hy
    rw [if_pos ⟨by omega, by simp [gC]; omega⟩]
    congr 1
    omega
  · rw [List.getElem?_set_ne (fun h => e h.symm)] at hy
    rw [if_neg (by simp [gC]; omega), h6 i' j y hy hj]
/-- Elements are moved to the left. -/
theorem Gw.move (h : Gw w base g c l) (i : Nat) (hi : i < l.length) : Gw (w.setCells g (i * 3) (gCs (l.drop (i + 1)))) base g c (l.eraseIdx i) := by
  obtain ⟨h1, h2, h3, cur, h4, h5, h6⟩ := h
  obtain ⟨cur', k1, k2, k3⟩ := heap_sets (gCs (l.drop (i + 1))) (i * 3) w cur h4
  have hl : (l.eraseIdx i).length = l.length - 1 := by rw [List.length_eraseIdx, if_pos hi]
  have hd : (gCs (l.drop (i + 1))).length = (l.length - (i + 1)) * 3 := by rw [gCs_length]; simp
  refine ⟨h1, by omega, h3, cur', k1, by omega, fun i' j y hy hj => ?_⟩
  have hi' := (List.getElem?_eq_some_iff.1 hy).1
  rw [k3 _ (by omega)]
  rw [List.getElem?_eraseIdx] at hy
  by_cases e : i' < i
  · rw [if_pos e] at hy
    rw [if_neg (by omega), h6 i' j y hy hj]
  · rw [if_neg e] at hy
    rw [if_pos (by omega), show i' * 3 + j - i * 3 = (i' - i) * 3 + j by omega]
    refine gCs_at _ (i' - i) j y ?_ hj
    rw [List.getElem?_drop, ← hy]
    congr 1
    omega
/-- What is stored behind a row's elements leaves them. -/
theorem Gw.behind (h : Gw w base g c l) (vs : List Value) (o : Nat) (ho : l.length * 3 ≤ o) : Gw (w.setCells g o vs) base g c l := by
  obtain ⟨h1, h2, h3, cur, h4, h5, h6⟩ := h
  obtain ⟨cur', k1, k2, k3⟩ := heap_sets vs o w cur h4
  refine ⟨h1, h2, h3, cur', k1, by omega, fun i' j y hy hj => ?_⟩
  have hi' := (List.getElem?_eq_some_iff.1 hy).1
  rw [k3 _ (by omega), if_neg (by omega), h6 i' j y hy hj]
end
/-- All blocks but b, and but the row r, are as they were. -/
structure Kr (b : Nat) (r : Option Nat) (w w' : World) : Prop where
  os : w'.os = w.os
  tape : w'.tape = w.tape
  output : w'.output = w.output
  size : w.heap.size ≤ w'.heap.size
  block : ∀ k, k < w.heap.size → k ≠ b → r ≠ some k → w'.heap[k]? = w.heap[k]?
/-- The row is the elder one, or a new one. -/
def Rw (w : World) (r r' : Option Nat) : Prop := r' = r ∨ ∃ g, r' = some g ∧ w.heap.size ≤ g
section
variable {b : Nat} {r r' r'' : Option Nat} {a w w' : World}
theorem Kr.refl (b : Nat) (r : Option Nat) (w : World) : Kr b r w w := ⟨rfl, rfl, rfl, Nat.le_refl _, fun _ _ _ _ => rfl⟩
theorem Kr.trans (h : Kr b r a w) (hr : Rw a r r') (k : Kr b r' w w') : Kr b r a w' :=
  ⟨k.os.trans h.os, k.tape.trans h.tape, k.output.trans h.output, Nat.le_trans h.size k.size, fun i hi hb hn =>
    (k.block i (Nat.lt_of_lt_of_le hi h.size) hb (by
      rcases hr with rfl | ⟨g, rfl, hg⟩
      · exact hn
      · intro e
        have := Option.some.inj e
        omega)).trans (h.block i hi hb hn)⟩
theorem Rw.trans (hs : a.heap.size ≤ w.heap.size) (h : Rw a r r') (k : Rw w r' r'') : Rw a r r'' := by
  rcases k with rfl | ⟨g, rfl, hg⟩
  · exact h
  · exact .inr ⟨g, rfl, by omega⟩
theorem Kr.of_below (h : Below w.heap.size w w') : Kr b r w w' := ⟨h.os, h.tape, h.output, h.size, fun k hk _ _ => h.block k hk⟩
theorem Kr.alloc (h : Kr b r a w) (o : Obj) : Kr b r a (w.alloc o) := h.trans (.inl rfl) (Kr.of_below ((Below.refl _ _).alloc (Nat.le_refl _) o))
theorem Kr.drew (h : Kr b r a w) : Kr b r a w.drew := ⟨h.os, h.tape, h.output, h.size, h.block⟩
theorem Kr.drewN (h : Kr b r a w) (k : Nat) : Kr b r a (w.drewN k) := ⟨h.os, h.tape, h.output, h.size, h.block⟩
theorem Kr.set (h : Kr b r a w) (i : Nat) (v : Value) : Kr b r a (w.setCell ⟨b, i, none⟩ v) :=
  h.trans (.inl rfl) ⟨rfl, rfl, rfl, by simp [World.setCell], fun k _ hk _ => Below.heap_setCell _ _ _ _ hk⟩
theorem Kr.grown (h : Kr b r a w) (hr : Rw a r r') (hg : w.grownBy w' r') : Kr b r a w' :=
  h.trans hr ⟨hg.os, hg.tape, hg.output, hg.size, fun k hk _ hn => hg.block k hk (fun e => hn e.symm)⟩
theorem Kr.below {B : Nat} (h : Kr b r a w) (hb : B ≤ b) (hs : B ≤ a.heap.size) (hr : ∀ g, r = some g → B ≤ g) : Below B a w :=
  ⟨h.os, h.tape, h.output, h.size, fun k hk => h.block k (by omega) (by omega) (fun e => by have := hr k e; omega)⟩
theorem Kr.heap (h : Kr b r a w) {k : Nat} {o : Obj} (hk : a.heap[k]? = some o) (hb : k ≠ b) (hr : r ≠ some k) : w.heap[k]? = some o := (h.block k (lt_heap hk) hb hr).trans hk
end
/-- The net at block q: so many nodes, these on their way; r is its row. All that is its own lies from block base on. -/
def NtAt (w : World) (base q : Nat) (r : Option Nat) (N : Nat) (l : List Gr) : Prop := ∃ v, v.ownBlock = r ∧ base ≤ q ∧ w.ownsRow base 98 3 v l.length (gCs l) ∧
  w.heap[q]? = some (.cells #[.pointer (some ⟨q, 0, none⟩), .int .i64 (N : Int), v] 96 (0, 0)) ∧ (∀ x ∈ l, (∀ y ∈ x.d, y < 256) ∧ x.d.length ≤ 1048640) ∧ l.length ≤ 4096
section
variable {w w' : World} {base q N : Nat} {r r' : Option Nat} {l : List Gr}
theorem box3 {w : World} {g : Nat} {y0 y1 y2 : Value} {T : TypeId} (h : w.heap[g]? = some (.cells #[y0, y1, y2] T (0, 0))) :
    (w.cell? ⟨g, 0, none⟩ = some y0 ∧ w.cell? ⟨g, 1, none⟩ = some y1 ∧ w.cell? ⟨g, 2, none⟩ = some y2) ∧
    (w.frozen? ⟨g, 0, none⟩ = false ∧ w.frozen? ⟨g, 1, none⟩ = false ∧ w.frozen? ⟨g, 2, none⟩ = false) :=
  ⟨⟨cell_block h 0, cell_block h 1, cell_block h 2⟩, free_block h 0, free_block h 1, free_block h 2⟩
theorem row_blk {v : Value} (h : w.ownsRow base 98 3 v l.length (gCs l)) {g : Nat} (hg : v.ownBlock = some g) : base ≤ g ∧ ∃ cur, w.heap[g]? = some (.cells cur 98 (0, 0)) := by
  rcases h.2 with ⟨rfl, _⟩ | ⟨k, cap, cur, rfl, h1, h2, _⟩
  · cases hg
  · obtain rfl := Option.some.inj (show some k = some g from hg)
    exact ⟨h1, cur, h2⟩
theorem row_ne {v : Value} (h : w.ownsRow base 98 3 v l.length (gCs l)) {k : Nat} {c : Array Value} {T : TypeId} {fr : Nat × Nat} (hk : w.heap[k]? = some (.cells c T fr)) (hT : T ≠ 98) : v.ownBlock ≠ some k := by
  intro e
  obtain ⟨_, cur, hc⟩ := row_blk h e
  rw [hk] at hc
  simp at hc
  exact hT hc.2.1
theorem row_kept {v : Value} (h : w.ownsRow base 98 3 v l.length (gCs l)) (hk : ∀ g, v.ownBlock = some g → w'.heap[g]? = w.heap[g]?) : w'.ownsRow base 98 3 v l.length (gCs l) := by
  refine ⟨h.1, ?_⟩
  rcases h.2 with h0 | ⟨g, cap, cur, rfl, h1, h2, h3⟩
  · exact .inl h0
  · exact .inr ⟨g, cap, cur, rfl, h1, (hk g rfl).trans h2, h3⟩
theorem NtAt.lt (h : NtAt w base q r N l) : q < w.heap.size := by
  obtain ⟨v, _, _, _, h, _⟩ := h
  exact lt_heap h
theorem NtAt.low (h : NtAt w base q r N l) : base ≤ q := by
  obtain ⟨v, _, h, _⟩ := h
  exact h
theorem NtAt.row_lt (h : NtAt w base q r N l) {g : Nat} (e : r = some g) : base ≤ g ∧ g < w.heap.size := by
  obtain ⟨v, rfl, _, h, _⟩ := h
  obtain ⟨h1, cur, h2⟩ := row_blk h e
  exact ⟨h1, lt_heap h2⟩
theorem NtAt.row_ne (h : NtAt w base q r N l) {k : Nat} {c : Array Value} {T : TypeId} {fr : Nat × Nat} (hk : w.heap[k]? = some (.cells c T fr)) (hT : T ≠ 98) : r ≠ some k := by
  obtain ⟨v, rfl, _, h, _⟩ := h
  exact Go.Proofs.Ytjhopajhcmkllaa.row_ne h hk hT
theorem NtAt.q_ne (h : NtAt w base q r N l) {k : Nat} {c : Array Value} {T : TypeId} {fr : Nat × Nat} (hk : w.heap[k]? = some (.cells c T fr)) (hT : T ≠ 96) : k ≠ q := by
  obtain ⟨v, rfl, _, _, h, _⟩ := h
  rintro rfl
  rw [hk] at h
  simp at h
  exact hT h.2.1
theorem NtAt.len (h : NtAt w base q r N l) : l.length ≤ 4096 := by
  obtain ⟨v, _, _, _, _, _, h⟩ := h
  exact h
theorem NtAt.ok (h : NtAt w base q r N l) : ∀ x ∈ l, (∀ y ∈ x.d, y < 256) ∧ x.d.length ≤ 1048640 := by
  obtain ⟨v, _, _, _, _, h, _⟩ := h
  exact h
theorem NtAt.below (h : NtAt w base q r N l) (hb : Below w.heap.size w w') : NtAt w' base q r N l := by
  obtain ⟨v, h0, h1, h2, h3, h4⟩ := h
  exact ⟨v, h0, h1, row_kept h2 (fun g hg => hb.block g (by obtain ⟨_, _, h⟩ := row_blk h2 hg; exact lt_heap h)), heap_below h3 hb, h4⟩
theorem NtAt.drew (h : NtAt w base q r N l) : NtAt w.drew base q r N l := h
theorem NtAt.drewN (h : NtAt w base q r N l) (k : Nat) : NtAt (w.drewN k) base q r N l := h
theorem NtAt.mono (h : NtAt w base q r N l) {base' : Nat} (hb : base' ≤ base) : NtAt w base' q r N l := by
  obtain ⟨v, h0, h1, h2, h3, h4⟩ := h
  refine ⟨v, h0, by omega, ⟨h2.1, ?_⟩, h3, h4⟩
  rcases h2.2 with k0 | ⟨g, cap, cur, k1, k2, k3⟩
  · exact .inl k0
  · exact .inr ⟨g, cap, cur, k1, by omega, k3⟩
theorem NtAt.belowOf (h : NtAt w base q r N l) (k : Kr q r w w') : Below base w w' := k.below h.low (by have := h.lt; have := h.low; omega) (fun _ e => (h.row_lt e).1)
/-- Bytes that lie in no net: below the base, or in a block of bytes. -/
def Bx (w : World) (base : Nat) (v : Value) (x : List Nat) : Prop := (∃ A c, v = .slice A x.length c ∧ x.length ≤ c ∧ (bv x ≠ [] → ∃ b o, A = some ⟨b, o, none⟩ ∧ ((b < base ∧ b < w.heap.size) ∨ ∃ cur fr, w.heap[b]? = some (.cells cur 5 fr)) ∧ ∀ i u, (bv x)[i]? = some u → w.cell? ⟨b, o + i, none⟩ = some u)) ∧ ∀ y ∈ x, y < 256
theorem Bx.bs {v : Value} {x : List Nat} (h : Bx w base v x) : Bs w v x := by
  obtain ⟨⟨A, c, h1, h2, h3⟩, h8⟩ := h
  refine ⟨⟨A, c, h1, h2, fun hn => ?_⟩, h8⟩
  obtain ⟨b, o, k1, k2, k3⟩ := h3 hn
  refine ⟨b, o, k1, ?_, k3⟩
  rcases k2 with ⟨_, k⟩ | ⟨_, _, k⟩
  · exact k
  · exact lt_heap k
theorem cell_heap {w w' : World} {b o : Nat} (h : w'.heap[b]? = w.heap[b]?) : w'.cell? ⟨b, o, none⟩ = w.cell? ⟨b, o, none⟩ := by
  unfold World.cell?
  dsimp only
  rw [h]
/-- What leaves all blocks below the base, and all blocks of bytes, leaves them. -/
theorem Bx.keep {v : Value} {x : List Nat} (h : Bx w base v x) (hs : w.heap.size ≤ w'.heap.size) (hb : ∀ b : Nat, b < base → b < w.heap.size → w'.heap[b]? = w.heap[b]?) (hu : ∀ (b : Nat) (cur : Array Value) (fr : Nat × Nat), w.heap[b]? = some (.cells cur 5 fr) → w'.heap[b]? = w.heap[b]?) : Bx w' base v x := by
  obtain ⟨⟨A, c, h1, h2, h3⟩, h8⟩ := h
  refine ⟨⟨A, c, h1, h2, fun hn => ?_⟩, h8⟩
  obtain ⟨b, o, k1, k2, k3⟩ := h3 hn
  have e : w'.heap[b]? = w.heap[b]? := by
    rcases k2 with ⟨q1, q2⟩ | ⟨cur, fr, q⟩
    · exact hb b q1 q2
    · exact hu b cur fr q
  refine ⟨b, o, k1, ?_, fun i u hi => (cell_heap e).trans (k3 i u hi)⟩
  rcases k2 with ⟨q1, q2⟩ | ⟨cur, fr, q⟩
  · exact .inl ⟨q1, by omega⟩
  · exact .inr ⟨cur, fr, e.trans q⟩
theorem Bx.below {v : Value} {x : List Nat} (h : Bx w base v x) (hb : Below w.heap.size w w') : Bx w' base v x := h.keep hb.size (fun b _ h => hb.block b h) (fun b _ _ h => hb.block b (lt_heap h))
theorem Bx.kr {v : Value} {x : List Nat} (hv : Bx w base v x) (h : NtAt w base q r N l) (hk : Kr q r w w') : Bx w' base v x := by
  have h1 := h.low
  refine hv.keep hk.size (fun b k1 k2 => hk.block b k2 (by omega) (fun e => by have := (h.row_lt e).1; omega)) (fun b cur fr k => hk.block b (lt_heap k) (h.q_ne k (by decide)) (h.row_ne k (by decide)))
theorem Bx.of_bs {v : Value} {x : List Nat} (h : Bs w v x) (hs : w.heap.size ≤ base) : Bx w base v x := by
  obtain ⟨⟨A, c, h1, h2, h3⟩, h8⟩ := h
  refine ⟨⟨A, c, h1, h2, fun hn => ?_⟩, h8⟩
  obtain ⟨b, o, k1, k2, k3⟩ := h3 hn
  exact ⟨b, o, k1, .inl ⟨by omega, k2⟩, k3⟩
theorem Bx.of_own {v : Value} {x : List Nat} {lo : Nat} (h : Own w lo v x) (h8 : ∀ y ∈ x, y < 256) : Bx w base v x := by
  obtain ⟨A, c, rfl, hc, -, -, -, -⟩ := id h.form
  refine ⟨⟨A, c, rfl, hc, fun hn => ?_⟩, h8⟩
  obtain ⟨b, o, e1, hb1, hcell⟩ := At.of_own (show w.ownsRow lo 5 1 (.slice A x.length c) x.length (bv x) from h) hn
  subst e1
  rcases h.2 with ⟨h0, _⟩ | ⟨k, cap, cur, he, h1, h2, _⟩
  · cases h0
  · injection he with he _ _
    injection he with he
    injection he with he he2
    subst he he2
    exact ⟨b, 0, rfl, .inr ⟨cur, _, h2⟩, hcell⟩
end
end Go.Proofs.Ytjhopajhcmkllaa
