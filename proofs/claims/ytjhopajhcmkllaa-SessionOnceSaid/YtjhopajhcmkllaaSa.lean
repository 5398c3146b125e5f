/- Items as plain data; a row of them; a session in memory. -/
import Derived.Test.YtjhopajhcmkllaaNb
namespace Go.Proofs.Ytjhopajhcmkllaa
open Go.RowKit
set_option linter.unusedVariables false

theorem it_info : (Try.prog.info? 27).map (fun i => (i.zero, i.size, i.bytes)) = some (some (.agg #[.int .i64 0, .slice none 0 0]), 2, 32) := by kernel_rfl
/-- An item: its number; its bytes, and where they lie. -/
structure It where
  s : Int
  A : Option Addr
  c : Nat
  d : List Nat
def It.v (x : It) : Value := .slice x.A x.d.length x.c
def iC (x : It) : List Value := [.int .i64 x.s, .slice x.A x.d.length x.c]
def iCs (l : List It) : List Value := l.flatMap iC
theorem iCs_append (a b : List It) : iCs (a ++ b) = iCs a ++ iCs b := by unfold iCs; rw [List.flatMap_append]
theorem iCs_one (g : It) : iCs [g] = iC g := by simp [iCs]
theorem iCs_length (l : List It) : (iCs l).length = l.length * 2 := by
  induction l with
  | nil => rfl
  | cons g l ih =>
    have : iCs (g :: l) = iC g ++ iCs l := by simp [iCs]
    rw [this, List.length_append, ih]
    simp [iC]
    omega
theorem iC_one (g : It) : ∀ u ∈ iC g, u.oneCell' = true := by
  intro u hu
  simp [iC] at hu
  rcases hu with rfl | rfl <;> rfl
theorem iCs_ones (l : List It) : ∀ u ∈ iCs l, u.oneCell' = true := by
  intro u hu
  unfold iCs at hu
  obtain ⟨g, _, hg⟩ := List.mem_flatMap.1 hu
  exact iC_one g u hg
theorem iCs_at (l : List It) (i j : Nat) (x : It) (h : l[i]? = some x) (hj : j < 2) : (iCs l)[i * 2 + j]? = (iC x)[j]? := by
  induction l generalizing i with
  | nil => simp at h
  | cons g l ih =>
    have e : iCs (g :: l) = iC g ++ iCs l := by simp [iCs]
    rw [e]
    cases i with
    | zero =>
      simp at h
      subst h
      rw [List.getElem?_append_left (by simp [iC]; omega)]
      congr 1
      omega
    | succ i =>
      rw [List.getElem?_append_right (by simp [iC]; omega), ← ih i (by simpa using h)]
      congr 1
      simp [iC]
      omega
/-- A row of datagrams at block g. -/
def Iw (w : World) (base g c : Nat) (l : List It) : Prop := base ≤ g ∧ l.length ≤ c ∧ c ≤ maxLen ∧ ∃ cur, w.heap[g]? = some (.cells cur 27 (0, 0)) ∧ cur.size = c * 2 ∧ ∀ i j x, l[i]? = some x → j < 2 → cur[i * 2 + j]? = (iC x)[j]?
section
variable {w w' : World} {base g c n : Nat} {l : List It} {v : Value}
theorem Iw.own (h : Iw w base g c l) : w.ownsRow base 27 2 (.slice (some ⟨g, 0, none⟩) l.length c) l.length (iCs l) := by
  obtain ⟨h1, h2, h3, cur, h4, h5, h6⟩ := h
  refine ⟨iCs_length l, .inr ⟨g, c, cur, rfl, h1, h4, h2, h3, h5, ?_⟩⟩
  apply List.ext_getElem?
  intro k
  by_cases hk : k < l.length * 2
  · have e : k = k / 2 * 2 + k % 2 := by omega
    have hlt : k / 2 < l.length := by omega
    rw [List.getElem?_take_of_lt hk, Array.getElem?_toList, e, h6 (k / 2) (k % 2) l[k / 2] (List.getElem?_eq_getElem hlt) (by omega), iCs_at l (k / 2) (k % 2) l[k / 2] (List.getElem?_eq_getElem hlt) (by omega)]
  · rw [List.getElem?_eq_none (by simp; omega), List.getElem?_eq_none (by rw [iCs_length]; omega)]
theorem Iw.of_own (h : w.ownsRow base 27 2 (.slice (some ⟨g, 0, none⟩) n c) l.length (iCs l)) : n = l.length ∧ Iw w base g c l := by
  rcases h.2 with ⟨h0, _⟩ | ⟨g', c', cur, he, h1, h2, h3, h4, h5, h6⟩
  · cases h0
  · injection he with he e1 e2
    subst e1 e2
    obtain rfl : g = g' := by injection he with he; injection he
    refine ⟨rfl, h1, h3, h4, cur, h2, h5, fun i j x hx hj => ?_⟩
    have hi := (List.getElem?_eq_some_iff.1 hx).1
    rw [← iCs_at l i j x hx hj, ← h6, List.getElem?_take_of_lt (by omega), Array.getElem?_toList]
/-- What a slice of datagrams of the call's own looks like. -/
theorem irow_form (h : w.ownsRow base 27 2 v l.length (iCs l)) : (v = .slice none 0 0 ∧ l = []) ∨ ∃ g c, v = .slice (some ⟨g, 0, none⟩) l.length c ∧ Iw w base g c l := by
  rcases id h.2 with ⟨h0, h1⟩ | ⟨g, c, cur, he, _⟩
  · exact .inl ⟨h0, List.length_eq_zero_iff.1 h1⟩
  · subst he
    exact .inr ⟨g, c, rfl, (Iw.of_own h).2⟩
theorem Iw.lt (h : Iw w base g c l) : g < w.heap.size := by
  obtain ⟨_, _, _, cur, h4, _⟩ := h
  exact lt_heap h4
theorem Iw.cell (h : Iw w base g c l) {i : Nat} {x : It} (hx : l[i]? = some x) {j : Nat} (hj : j < 2) : w.cell? ⟨g, i * 2 + j, none⟩ = (iC x)[j]? := by
  obtain ⟨_, _, _, cur, h4, _, h6⟩ := h
  rw [cell_block h4, h6 i j x hx hj]
theorem Iw.free (h : Iw w base g c l) (j : Nat) : w.frozen? ⟨g, j, none⟩ = false := by
  obtain ⟨_, _, _, cur, h4, _⟩ := h
  exact free_block h4 j
theorem Iw.there (h : Iw w base g c l) {j : Nat} (hj : j < c * 2) : (w.cell? ⟨g, j, none⟩).isSome = true := by
  obtain ⟨_, _, _, cur, h4, h5, _⟩ := h
  rw [cell_block h4, Array.getElem?_eq_getElem (by omega)]
  rfl
/-- A row stays a row in a world where its block is as it was. -/
theorem Iw.same (h : Iw w base g c l) (hh : w'.heap[g]? = w.heap[g]?) : Iw w' base g c l := by
  obtain ⟨h1, h2, h3, cur, h4, h5, h6⟩ := h
  exact ⟨h1, h2, h3, cur, hh.trans h4, h5, h6⟩
theorem Iw.begin (h : Iw w base g c l) {l' : List It} (hl : l'.length ≤ l.length) (hx : ∀ i, i < l'.length → l'[i]? = l[i]?) : Iw w base g c l' := by
  obtain ⟨h1, h2, h3, cur, h4, h5, h6⟩ := h
  exact ⟨h1, by omega, h3, cur, h4, h5, fun i j x hi hj => h6 i j x (by rw [← hx i (List.getElem?_eq_some_iff.1 hi).1]; exact hi) hj⟩
/-- An element is stored. -/
theorem Iw.set (h : Iw w base g c l) (i : Nat) (hi : i < l.length) (x : It) : Iw (w.setCells g (i * 2) (iC x)) base g c (l.set i x) := by
  obtain ⟨h1, h2, h3, cur, h4, h5, h6⟩ := h
  obtain ⟨cur', k1, k2, k3⟩ := heap_sets (iC x) (i * 2) w cur h4
  refine ⟨h1, by simpa using h2, h3, cur', k1, by omega, fun i' j y hy hj => ?_⟩
  have hi' := (List.getElem?_eq_some_iff.1 hy).1
  simp at hi'
  rw [k3 _ (by omega)]
  by_cases e : i' = i
  · subst e
    rw [List.getElem?_set_self hi] at hy
    obtain rfl := Option.some.inj hy
    rw [if_pos ⟨by omega, by simp [iC]; omega⟩]
    congr 1
    omega
  · rw [List.getElem?_set_ne (fun h => e h.symm)] at hy
    rw [if_neg (by simp [iC]; omega), h6 i' j y hy hj]
/-- What is stored behind a row's elements leaves them. -/
theorem Iw.behind (h : Iw w base g c l) (vs : List Value) (o : Nat) (ho : l.length * 2 ≤ o) : Iw (w.setCells g o vs) base g c l := by
  obtain ⟨h1, h2, h3, cur, h4, h5, h6⟩ := h
  obtain ⟨cur', k1, k2, k3⟩ := heap_sets vs o w cur h4
  refine ⟨h1, h2, h3, cur', k1, by omega, fun i' j y hy hj => ?_⟩
  have hi' := (List.getElem?_eq_some_iff.1 hy).1
  rw [k3 _ (by omega), if_neg (by omega), h6 i' j y hy hj]
end
/-- What is told of a session: both nodes, its life; the last number, up to which all that came is done, accepted; the peer's life; the bytes of what waits. -/
structure Se where
  node : Nat
  peer : Nat
  life : Nat
  last : Nat
  done : Nat
  acc : Nat
  pl : Nat
  ds : List (List Nat)
/-- How many were acknowledged. -/
def Se.first (p : Se) : Nat := p.last - p.ds.length
structure Se.Ok (p : Se) : Prop where
  node : p.node < 16
  peer : p.peer < 16
  life : 1 ≤ p.life ∧ p.life ≤ 2305843009213693952
  last : p.ds.length ≤ p.last ∧ p.last ≤ 4611686018427387904
  done : p.done ≤ p.acc
  acc : p.acc ≤ 4611686018427387904
  pl : p.pl ≤ 4611686018427387904
  few : p.ds.length ≤ 1024
  short : ∀ d ∈ p.ds, d.length ≤ 1048576
/-- Items that are numbered from behind 'first' on, with these bytes, that lie in blocks of bytes. -/
structure Its (w : World) (first : Nat) (ds : List (List Nat)) (L : List It) : Prop where
  ds : L.map (·.d) = ds
  num : ∀ (i : Nat) (x : It), L[i]? = some x → x.s = ((first + 1 + i : Nat) : Int)
  bx : ∀ x ∈ L, Bx w 0 (.slice x.A x.d.length x.c) x.d
theorem Its.len {w : World} {first : Nat} {ds : List (List Nat)} {L : List It} (h : Its w first ds L) : L.length = ds.length := by rw [← h.ds]; simp
/-- The session at block q; r is its row. All that is its own, but the bytes of its items, lies from block base on. -/
def SeAt (w : World) (base q : Nat) (r : Option Nat) (p : Se) : Prop := ∃ v L, v.ownBlock = r ∧ base ≤ q ∧ w.ownsRow base 27 2 v L.length (iCs L) ∧
  w.heap[q]? = some (.cells #[.pointer (some ⟨q, 0, none⟩), .int .i64 (p.node : Int), .int .i64 (p.peer : Int), .int .i64 (p.life : Int), .int .i64 (p.last : Int), v, .int .i64 (p.done : Int), .int .i64 (p.acc : Int), .int .i64 (p.pl : Int)] 77 (0, 0)) ∧ Its w p.first p.ds L ∧ p.Ok
section
variable {w w' : World} {base q : Nat} {r r' : Option Nat} {p : Se} {L : List It}
theorem box9 {w : World} {g : Nat} {y0 y1 y2 y3 y4 y5 y6 y7 y8 : Value} {T : TypeId} (h : w.heap[g]? = some (.cells #[y0, y1, y2, y3, y4, y5, y6, y7, y8] T (0, 0))) :
    (w.cell? ⟨g, 0, none⟩ = some y0 ∧ w.cell? ⟨g, 1, none⟩ = some y1 ∧ w.cell? ⟨g, 2, none⟩ = some y2 ∧ w.cell? ⟨g, 3, none⟩ = some y3 ∧ w.cell? ⟨g, 4, none⟩ = some y4 ∧ w.cell? ⟨g, 5, none⟩ = some y5 ∧ w.cell? ⟨g, 6, none⟩ = some y6 ∧ w.cell? ⟨g, 7, none⟩ = some y7 ∧ w.cell? ⟨g, 8, none⟩ = some y8) :=
  ⟨cell_block h 0, cell_block h 1, cell_block h 2, cell_block h 3, cell_block h 4, cell_block h 5, cell_block h 6, cell_block h 7, cell_block h 8⟩
theorem irow_blk {v : Value} (h : w.ownsRow base 27 2 v L.length (iCs L)) {g : Nat} (hg : v.ownBlock = some g) : base ≤ g ∧ ∃ cur, w.heap[g]? = some (.cells cur 27 (0, 0)) := by
  rcases h.2 with ⟨rfl, _⟩ | ⟨k, cap, cur, rfl, h1, h2, _⟩
  · cases hg
  · obtain rfl := Option.some.inj (show some k = some g from hg)
    exact ⟨h1, cur, h2⟩
theorem irow_ne {v : Value} (h : w.ownsRow base 27 2 v L.length (iCs L)) {k : Nat} {c : Array Value} {T : TypeId} {fr : Nat × Nat} (hk : w.heap[k]? = some (.cells c T fr)) (hT : T ≠ 27) : v.ownBlock ≠ some k := by
  intro e
  obtain ⟨_, cur, hc⟩ := irow_blk h e
  rw [hk] at hc
  simp at hc
  exact hT hc.2.1
theorem irow_kept {v : Value} (h : w.ownsRow base 27 2 v L.length (iCs L)) (hk : ∀ g, v.ownBlock = some g → w'.heap[g]? = w.heap[g]?) : w'.ownsRow base 27 2 v L.length (iCs L) := by
  refine ⟨h.1, ?_⟩
  rcases h.2 with h0 | ⟨g, cap, cur, rfl, h1, h2, h3⟩
  · exact .inl h0
  · exact .inr ⟨g, cap, cur, rfl, h1, (hk g rfl).trans h2, h3⟩
theorem irow_slice {v : Value} (h : w.ownsRow base 27 2 v L.length (iCs L)) : ∃ A c, v = .slice A L.length c ∧ L.length ≤ c := by
  rcases irow_form h with ⟨rfl, rfl⟩ | ⟨g, c, rfl, hg⟩
  · exact ⟨none, 0, rfl, by simp⟩
  · exact ⟨_, _, rfl, hg.2.1⟩
theorem Its.keep {first : Nat} {ds : List (List Nat)} (h : Its w first ds L) (hs : w.heap.size ≤ w'.heap.size) (hu : ∀ (b : Nat) (cur : Array Value) (fr : Nat × Nat), w.heap[b]? = some (.cells cur 5 fr) → w'.heap[b]? = w.heap[b]?) : Its w' first ds L :=
  ⟨h.ds, h.num, fun x hx => (h.bx x hx).keep hs (fun b hb _ => absurd hb (Nat.not_lt_zero _)) hu⟩
theorem Its.below {first : Nat} {ds : List (List Nat)} (h : Its w first ds L) (hb : Below w.heap.size w w') : Its w' first ds L := h.keep hb.size (fun b _ _ h => hb.block b (lt_heap h))
theorem SeAt.ok (h : SeAt w base q r p) : p.Ok := by
  obtain ⟨_, _, _, _, _, _, _, h⟩ := h
  exact h
theorem SeAt.lt (h : SeAt w base q r p) : q < w.heap.size := by
  obtain ⟨v, _, _, _, _, h, _⟩ := h
  exact lt_heap h
theorem SeAt.low (h : SeAt w base q r p) : base ≤ q := by
  obtain ⟨v, _, _, h, _⟩ := h
  exact h
theorem SeAt.row_lt (h : SeAt w base q r p) {g : Nat} (e : r = some g) : base ≤ g ∧ g < w.heap.size := by
  obtain ⟨v, _, rfl, _, h, _⟩ := h
  obtain ⟨h1, cur, h2⟩ := irow_blk h e
  exact ⟨h1, lt_heap h2⟩
theorem SeAt.row_ne (h : SeAt w base q r p) {k : Nat} {c : Array Value} {T : TypeId} {fr : Nat × Nat} (hk : w.heap[k]? = some (.cells c T fr)) (hT : T ≠ 27) : r ≠ some k := by
  obtain ⟨v, _, rfl, _, h, _⟩ := h
  exact irow_ne h hk hT
theorem SeAt.q_ne (h : SeAt w base q r p) {k : Nat} {c : Array Value} {T : TypeId} {fr : Nat × Nat} (hk : w.heap[k]? = some (.cells c T fr)) (hT : T ≠ 77) : k ≠ q := by
  obtain ⟨v, _, rfl, _, _, h, _⟩ := h
  rintro rfl
  rw [hk] at h
  simp at h
  exact hT h.2.1
/-- What leaves its block, its row and all blocks of bytes leaves it. -/
theorem SeAt.keep (h : SeAt w base q r p) (hs : w.heap.size ≤ w'.heap.size) (hq : w'.heap[q]? = w.heap[q]?) (hr : ∀ g, r = some g → w'.heap[g]? = w.heap[g]?) (hu : ∀ (b : Nat) (cur : Array Value) (fr : Nat × Nat), w.heap[b]? = some (.cells cur 5 fr) → w'.heap[b]? = w.heap[b]?) : SeAt w' base q r p := by
  obtain ⟨v, L, h0, h1, h2, h3, h4, h5⟩ := h
  exact ⟨v, L, h0, h1, irow_kept h2 (fun g hg => hr g (by rw [← h0]; exact hg)), hq.trans h3, h4.keep hs hu, h5⟩
theorem SeAt.below (h : SeAt w base q r p) (hb : Below w.heap.size w w') : SeAt w' base q r p :=
  h.keep hb.size (hb.block q h.lt) (fun g hg => hb.block g (h.row_lt hg).2) (fun b _ _ h => hb.block b (lt_heap h))
theorem SeAt.drew (h : SeAt w base q r p) : SeAt w.drew base q r p := h.keep (Nat.le_refl _) rfl (fun _ _ => rfl) (fun _ _ _ _ => rfl)
theorem SeAt.drewN (h : SeAt w base q r p) (k : Nat) : SeAt (w.drewN k) base q r p := h.keep (Nat.le_refl _) rfl (fun _ _ => rfl) (fun _ _ _ _ => rfl)
theorem SeAt.mono (h : SeAt w base q r p) {base' : Nat} (hb : base' ≤ base) : SeAt w base' q r p := by
  obtain ⟨v, L, h0, h1, h2, h3, h4⟩ := h
  refine ⟨v, L, h0, by omega, ⟨h2.1, ?_⟩, h3, h4⟩
  rcases h2.2 with k0 | ⟨g, cap, cur, k1, k2, k3⟩
  · exact .inl k0
  · exact .inr ⟨g, cap, cur, k1, by omega, k3⟩
theorem SeAt.belowOf (h : SeAt w base q r p) (k : Kr q r w w') : Below base w w' := k.below h.low (by have := h.lt; have := h.low; omega) (fun _ e => (h.row_lt e).1)
/-- Behind a call the session is this one; its row is the elder one, or a new one. -/
def AfterS (w : World) (base q : Nat) (r : Option Nat) (p : Se) (w' : World) : Prop := ∃ r', SeAt w' base q r' p ∧ Kr q r w w' ∧ Rw w r r'
theorem AfterS.same (h : SeAt w base q r p) : AfterS w base q r p w := ⟨r, h, Kr.refl _ _ _, .inl rfl⟩
end
end Go.Proofs.Ytjhopajhcmkllaa
