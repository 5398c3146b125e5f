/- Two ends in memory, beside each other: their sessions, their rows of blobs, the array that holds them. -/
import Derived.Test.YtjhopajhcmkllaaObc
import Derived.Test.YtjhopajhcmkllaaNde
namespace Go.Proofs.Ytjhopajhcmkllaa
open Go.RowKit
set_option linter.unusedVariables false

/-- An end: its session's block and row; its three rows; what it is. -/
structure En where
  q : Nat
  r : Option Nat
  vS : Value
  vD : Value
  vA : Value
  lf : Nat
  e : Ep
/-- Its cells in the array. -/
structure EC (C : Array Value) (o : Nat) (x : En) : Prop where
  c0 : C[o]? = some (.pointer (some ⟨x.q, 0, none⟩))
  c1 : C[o + 1]? = some (.int .i64 (x.lf : Int))
  c2 : C[o + 2]? = some x.vS
  c3 : C[o + 3]? = some x.vD
  c4 : C[o + 4]? = some x.vA
structure EnAt (w : World) (B : Nat) (x : En) : Prop where
  s : SeAt w B x.q x.r x.e.p
  rS : RB w B x.vS x.e.S
  rD : RB w B x.vD x.e.D
  rA : RB w B x.vA x.e.A
  sd : Apart x.vS.ownBlock x.vD.ownBlock
  sa : Apart x.vS.ownBlock x.vA.ownBlock
  da : Apart x.vD.ownBlock x.vA.ownBlock
def En.rows (x : En) : List Value := [x.vS, x.vD, x.vA]
structure Arena (w : World) (B g o : Nat) (x y : En) : Prop where
  o5 : o = 0 ∨ o = 5
  low : B ≤ g
  X : ∃ C, w.heap[g]? = some (.cells C 60 (0, 0)) ∧ C.size = 10 ∧ EC C o x ∧ EC C (5 - o) y
  a : EnAt w B x
  b : EnAt w B y
  ne : x.q ≠ y.q
  ap : Apart x.r y.r
  cross : ∀ u ∈ x.rows, ∀ v ∈ y.rows, Apart u.ownBlock v.ownBlock
section
variable {w w' : World} {B g o : Nat} {x y : En}
theorem Arena.symm (h : Arena w B g o x y) : Arena w B g (5 - o) y x := by
  have h5 := h.o5
  obtain ⟨C, h1, h2, h3, h4⟩ := h.X
  exact ⟨by omega, h.low, ⟨C, h1, h2, h4, by rw [show 5 - (5 - o) = o by omega]; exact h3⟩, h.b, h.a, fun e => h.ne e.symm, h.ap.symm, fun u hu v hv => (h.cross v hv u hu).symm⟩
theorem Arena.lt (h : Arena w B g o x y) : g < w.heap.size := by
  obtain ⟨C, h1, _⟩ := h.X
  exact lt_heap h1
/-- An end stays where its blocks, and all blocks of bytes, do. -/
theorem EnAt.keep (h : EnAt w B x) (hs : w.heap.size ≤ w'.heap.size) (hq : w'.heap[x.q]? = w.heap[x.q]?) (hr : ∀ j, x.r = some j → w'.heap[j]? = w.heap[j]?) (hv : ∀ u ∈ x.rows, ∀ j, u.ownBlock = some j → w'.heap[j]? = w.heap[j]?) (hu : ∀ (b : Nat) (cur : Array Value) (fr : Nat × Nat), w.heap[b]? = some (.cells cur 5 fr) → w'.heap[b]? = w.heap[b]?) : EnAt w' B x :=
  ⟨h.s.keep hs hq hr hu, h.rS.keep hs (hv _ (by simp [En.rows])) hu, h.rD.keep hs (hv _ (by simp [En.rows])) hu, h.rA.keep hs (hv _ (by simp [En.rows])) hu, h.sd, h.sa, h.da⟩
/-- The block of a row. -/
theorem EnAt.row (h : EnAt w B x) {u : Value} (hu : u ∈ x.rows) {j : Nat} (hj : u.ownBlock = some j) : B ≤ j ∧ ∃ cur, w.heap[j]? = some (.cells cur 25 (0, 0)) := by
  simp [En.rows] at hu
  rcases hu with rfl | rfl | rfl
  · exact h.rS.blk hj
  · exact h.rD.blk hj
  · exact h.rA.blk hj
theorem SeAt.q_blk {q : Nat} {r : Option Nat} {p : Se} (h : SeAt w B q r p) : ∃ C, w.heap[q]? = some (.cells C 77 (0, 0)) := by
  obtain ⟨v, _, _, _, _, hh, _⟩ := h
  exact ⟨_, hh⟩
theorem SeAt.r_blk {q j : Nat} {r : Option Nat} {p : Se} (h : SeAt w B q r p) (hj : r = some j) : ∃ C, w.heap[j]? = some (.cells C 27 (0, 0)) := by
  obtain ⟨v, _, h0, _, ho, _, _⟩ := h
  obtain ⟨_, cur, hc⟩ := irow_blk ho (h0.trans hj)
  exact ⟨_, hc⟩
/-- All blocks of the five types that two ends are made of. -/
def Mine (T : TypeId) : Prop := T = 60 ∨ T = 77 ∨ T = 27 ∨ T = 25 ∨ T = 5
theorem EnAt.keepT (h : EnAt w B x) (hs : w.heap.size ≤ w'.heap.size) (hk : ∀ (k : Nat) (C : Array Value) (T : TypeId) (fr : Nat × Nat), w.heap[k]? = some (.cells C T fr) → Mine T → w'.heap[k]? = w.heap[k]?) : EnAt w' B x := by
  refine h.keep hs ?_ (fun j hj => ?_) (fun u hu j hj => ?_) (fun b cur fr hb => hk b cur _ fr hb (by simp [Mine]))
  · obtain ⟨C, hC⟩ := h.s.q_blk
    exact hk _ _ _ _ hC (by simp [Mine])
  · obtain ⟨C, hC⟩ := h.s.r_blk hj
    exact hk _ _ _ _ hC (by simp [Mine])
  · obtain ⟨_, C, hC⟩ := h.row hu hj
    exact hk _ _ _ _ hC (by simp [Mine])
theorem Arena.keepT (h : Arena w B g o x y) (hs : w.heap.size ≤ w'.heap.size) (hk : ∀ (k : Nat) (C : Array Value) (T : TypeId) (fr : Nat × Nat), w.heap[k]? = some (.cells C T fr) → Mine T → w'.heap[k]? = w.heap[k]?) : Arena w' B g o x y := by
  obtain ⟨C, h1, h2⟩ := h.X
  exact ⟨h.o5, h.low, ⟨C, (hk _ _ _ _ h1 (by simp [Mine])).trans h1, h2⟩, h.a.keepT hs hk, h.b.keepT hs hk, h.ne, h.ap, h.cross⟩
theorem Arena.below (h : Arena w B g o x y) (hb : Below w.heap.size w w') : Arena w' B g o x y := h.keepT hb.size (fun k C T fr hk _ => hb.block k (lt_heap hk))
theorem Arena.drew (h : Arena w B g o x y) : Arena w.drew B g o x y := h.keepT (Nat.le_refl _) (fun _ _ _ _ _ _ => rfl)
theorem Arena.net {q N : Nat} {r : Option Nat} {l : List Gr} (h : Arena w B g o x y) (hn : NtAt w B q r N l) (hk : Kr q r w w') : Arena w' B g o x y :=
  h.keepT hk.size (fun k C T fr hC hT => hk.block k (lt_heap hC) (hn.q_ne hC (by rcases hT with h | h | h | h | h <;> rw [h] <;> decide)) (hn.row_ne hC (by rcases hT with h | h | h | h | h <;> rw [h] <;> decide)))
/-- A call of the first one's session. -/
theorem Arena.sess {r1 : Option Nat} {p1 : Se} (h : Arena w B g o x y) (hs : SeAt w' B x.q r1 p1) (hk : Kr x.q x.r w w') (hw : Rw w x.r r1) (hl : p1.life = x.e.p.life) : Arena w' B g o { x with r := r1, e := { x.e with p := p1 } } y := by
  obtain ⟨C, h1, h2, h3, h4⟩ := h.X
  have hx := h.a.s
  refine ⟨h.o5, h.low, ⟨C, heap_other hx hk h1 (by decide) (by decide), h2, ⟨h3.c0, h3.c1, h3.c2, h3.c3, h3.c4⟩, h4⟩, ⟨hs, h.a.rS.other hx hk, h.a.rD.other hx hk, h.a.rA.other hx hk, h.a.sd, h.a.sa, h.a.da⟩,
    ⟨h.b.s.other hx (fun e => h.ne e.symm) h.ap hk, h.b.rS.other hx hk, h.b.rD.other hx hk, h.b.rA.other hx hk, h.b.sd, h.b.sa, h.b.da⟩, h.ne, h.ap.after h.b.s hw, h.cross⟩
/-- The array's cells stay beside a store to another one's. -/
theorem EC.set {C : Array Value} {i : Nat} (h : EC C o x) (hi : i < o ∨ o + 5 ≤ i) (v : Value) : EC (C.setIfInBounds i v) o x := by
  have e : ∀ j, j < 5 → (C.setIfInBounds i v)[o + j]? = C[o + j]? := fun j hj => by rw [Array.getElem?_setIfInBounds, if_neg (by omega)]
  exact ⟨(e 0 (by omega)).trans h.c0, (e 1 (by omega)).trans h.c1, (e 2 (by omega)).trans h.c2, (e 3 (by omega)).trans h.c3, (e 4 (by omega)).trans h.c4⟩
theorem set_at {C : Array Value} {i : Nat} (hi : i < C.size) (v : Value) (j : Nat) : (C.setIfInBounds i v)[j]? = if j = i then some v else C[j]? := by
  rw [Array.getElem?_setIfInBounds]
  by_cases e : i = j
  · subst e
    simp [hi]
  · rw [if_neg e, if_neg (fun h => e h.symm)]
/-- A store to the array leaves an end's own. -/
theorem EnAt.st {z : En} {C : Array Value} {i : Nat} {v : Value} (hz : EnAt w B z) (h1 : w.heap[g]? = some (.cells C 60 (0, 0))) : EnAt (w.setCell ⟨g, i, none⟩ v) B z := by
  have hk : Kp g w (w.setCell ⟨g, i, none⟩ v) := (Kp.refl g w).set rfl _
  have hT : ∀ (k : Nat) (C' : Array Value) (T : TypeId) (fr : Nat × Nat), w.heap[k]? = some (.cells C' T fr) → T ≠ 60 → (w.setCell ⟨g, i, none⟩ v).heap[k]? = w.heap[k]? := fun k C' T fr hC hT => by
    refine hk.block k (lt_heap hC) (fun e => ?_)
    obtain rfl := Option.some.inj e
    rw [h1] at hC
    simp at hC
    exact hT hC.2.1.symm
  refine hz.keep hk.size ?_ (fun j hj => ?_) (fun u hu j hj => ?_) (fun b cur fr hb => hT b cur _ fr hb (by decide))
  · obtain ⟨C, hC⟩ := hz.s.q_blk
    exact hT _ _ _ _ hC (by decide)
  · obtain ⟨C, hC⟩ := hz.s.r_blk hj
    exact hT _ _ _ _ hC (by decide)
  · obtain ⟨_, C, hC⟩ := hz.row hu hj
    exact hT _ _ _ _ hC (by decide)
/-- A store to the array: the first one is x' then. -/
theorem Arena.store {x' : En} {v : Value} {i : Nat} (h : Arena w B g o x y) (hi : i < 5) (hx : ∀ C : Array Value, C.size = 10 → EC C o x → EC (C.setIfInBounds (o + i) v) o x') (ha : EnAt w B x') (hne : x'.q ≠ y.q) (hap : Apart x'.r y.r) (hcr : ∀ u ∈ x'.rows, ∀ v ∈ y.rows, Apart u.ownBlock v.ownBlock) : Arena (w.setCell ⟨g, o + i, none⟩ v) B g o x' y := by
  obtain ⟨C, h1, h2, h3, h4⟩ := h.X
  have h5 := h.o5
  exact ⟨h5, h.low, ⟨_, heap_set h1 (o + i) v, by simpa using h2, hx C h2 h3, h4.set (by omega) v⟩, ha.st h1, h.b.st h1, hne, hap, hcr⟩
/-- A row of the first one grows. -/
theorem EnAt.grown {u : Value} {ll : List (List Nat)} (h : EnAt w B x) (hu : RB w B u ll) (hg : w.grownBy w' u.ownBlock) (hap : ∀ v ∈ x.rows, Apart u.ownBlock v.ownBlock) : EnAt w' B x := by
  refine h.keep hg.size ?_ (fun j hj => ?_) (fun v hv j hj => ?_) (fun b cur fr hb => hg.block b (lt_heap hb) (fun e => hu.ne hb (by decide) e.symm))
  · obtain ⟨C, hC⟩ := h.s.q_blk
    exact hg.block _ (lt_heap hC) (fun e => hu.ne hC (by decide) e.symm)
  · obtain ⟨C, hC⟩ := h.s.r_blk hj
    exact hg.block _ (lt_heap hC) (fun e => hu.ne hC (by decide) e.symm)
  · obtain ⟨_, C, hC⟩ := h.row hv hj
    exact hg.block _ (lt_heap hC) (fun e => hap v hv j e.symm hj)
end
end Go.Proofs.Ytjhopajhcmkllaa
