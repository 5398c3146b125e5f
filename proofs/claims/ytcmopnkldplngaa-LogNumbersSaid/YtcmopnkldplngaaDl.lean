/- A disk beside a growing row of the call's own. -/
import Derived.Test.YtcmopnkldplngaaDop3
namespace Go.Proofs.Ytcmopnkldplngaa
open Go.RowKit

theorem Dk.blk {w : World} {base p : Nat} {r : Option Nat} {d : Pd} (h : Dk w base p r d) : ∃ c, w.heap[p]? = some (.cells c 42 (0, 0)) := by
  obtain ⟨v, _, _, _, _, hc⟩ := h
  exact ⟨_, hc⟩
section
variable {w w' : World} {base p : Nat} {r r2 : Option Nat} {d d2 : Pd} {v v' : Value} {l l' : List Nat}
theorem Dk.grown (h : Dk w base p r d) {row : Option Nat} (hg : w.grownBy w' row) (hp : row ≠ some p) (hr : ∀ g, r = some g → row ≠ some g) : Dk w' base p r d := by
  obtain ⟨v, rfl, h1, h2, h3, h4⟩ := h
  refine ⟨v, rfl, h1, h2, ⟨h3.1, ?_⟩, (hg.block p (lt_heap h4) (fun e => hp e.symm)).trans h4⟩
  rcases h3.2 with h0 | ⟨g, cap, cur, rfl, k1, k2, k3⟩
  · exact .inl h0
  · exact .inr ⟨g, cap, cur, rfl, k1, (hg.block g (lt_heap k2) (fun e => hr g rfl e.symm)).trans k2, k3⟩
/-- A row of the call's own that shares nothing with a disk. -/
structure Beside (w : World) (base p : Nat) (r : Option Nat) (d : Pd) (v : Value) (l : List Nat) : Prop where
  dk : Dk w base p r d
  own : Own w base v l
  sep : ∀ g, v.ownBlock = some g → r ≠ some g
theorem Beside.row_ne (h : Beside w base p r d v l) : v.ownBlock ≠ some p := by
  obtain ⟨u, _, _, _, _, hc⟩ := id h.dk
  exact own_ne h.own hc (by decide)
/-- The disk is written to. -/
theorem Beside.disk (h : Beside w base p r d v l) (ha : After w base p r d2 w') : ∃ r2, Beside w' base p r2 d2 v l ∧ Kr p r w w' := by
  obtain ⟨r2, h1, h2, h3⟩ := ha
  refine ⟨r2, ⟨h1, own_kr h.own h2 h.row_ne h.sep, fun g hg => ?_⟩, h2⟩
  rcases h3 with rfl | ⟨k, rfl, hk⟩
  · exact h.sep g hg
  · intro e
    obtain ⟨_, cur, hc⟩ := own_row h.own hg
    have := lt_heap hc
    have := Option.some.inj e
    omega
/-- The row grows. -/
theorem Beside.row (h : Beside w base p r d v l) (ho : Own w' base v' l') (hg : w.grownBy w' v.ownBlock) (hr : v'.ownBlock = v.ownBlock ∨ v'.ownBlock = some w.heap.size) : Beside w' base p r d v' l' := by
  refine ⟨h.dk.grown hg h.row_ne (fun g e e' => h.sep g e' e), ho, fun g e => ?_⟩
  rcases hr with h1 | h1
  · exact h.sep g (h1 ▸ e)
  · rw [h1] at e
    obtain rfl := Option.some.inj e
    intro e'
    have := (h.dk.row_lt e').2
    omega
/-- Another row takes its place, whose memory is new. -/
theorem Beside.new (h : Beside w base p r d v l) (hb : Below w.heap.size w w') (ho : Own w' w.heap.size v' l') : Beside w' base p r d v' l' := by
  refine ⟨h.dk.below hb, ho.mono h.dk.base_le, fun g e e' => ?_⟩
  have h1 := (own_row ho e).1
  have h2 := (h.dk.row_lt e').2
  omega
theorem Beside.below (h : Beside w base p r d v l) (hb : Below w.heap.size w w') : Beside w' base p r d v l := ⟨h.dk.below hb, h.own.below hb (Nat.le_refl _), h.sep⟩
end
end Go.Proofs.Ytcmopnkldplngaa
