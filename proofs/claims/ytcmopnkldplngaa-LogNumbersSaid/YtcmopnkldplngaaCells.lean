/- A block known whole: its cells, whether they may be written, and what a store makes of it. -/
import Derived.Test.YtcmopnkldplngaaKp
namespace Go.Proofs.Ytcmopnkldplngaa
open Go.RowKit

section
variable {w : World} {g k i j : Nat} {c : Array Value} {T : TypeId} {fr : Nat × Nat} {v : Value} {o : Obj}
theorem cell_block (h : w.heap[g]? = some (.cells c T fr)) (j : Nat) : w.cell? ⟨g, j, none⟩ = c[j]? := by
  unfold World.cell?
  dsimp only
  rw [h]
  rfl
theorem free_block (h : w.heap[g]? = some (.cells c T (0, 0))) (j : Nat) : w.frozen? ⟨g, j, none⟩ = false := by
  unfold World.frozen?
  dsimp only
  rw [h]
  simp
theorem heap_set (h : w.heap[g]? = some (.cells c T fr)) (i : Nat) (v : Value) : (w.setCell ⟨g, i, none⟩ v).heap[g]? = some (.cells (c.setIfInBounds i v) T fr) := by
  unfold World.setCell
  dsimp only
  rw [Array.getElem?_modify, if_pos rfl, h]
  rfl
theorem heap_set_ne (h : w.heap[k]? = some o) (hk : k ≠ g) (i : Nat) (v : Value) : (w.setCell ⟨g, i, none⟩ v).heap[k]? = some o := by
  unfold World.setCell
  dsimp only
  rw [Array.getElem?_modify, if_neg (by omega), h]
theorem size_set (p : Addr) (v : Value) : (w.setCell p v).heap.size = w.heap.size := by
  unfold World.setCell
  simp
theorem box4f {g : Nat} {y0 y1 y2 y3 : Value} {T : TypeId} (h : w.heap[g]? = some (.cells #[y0, y1, y2, y3] T (0, 0))) :
    (w.cell? ⟨g, 0, none⟩ = some y0 ∧ w.cell? ⟨g, 1, none⟩ = some y1 ∧ w.cell? ⟨g, 2, none⟩ = some y2 ∧ w.cell? ⟨g, 3, none⟩ = some y3) ∧
    (w.frozen? ⟨g, 0, none⟩ = false ∧ w.frozen? ⟨g, 1, none⟩ = false ∧ w.frozen? ⟨g, 2, none⟩ = false ∧ w.frozen? ⟨g, 3, none⟩ = false) :=
  ⟨⟨cell_block h 0, cell_block h 1, cell_block h 2, cell_block h 3⟩, free_block h 0, free_block h 1, free_block h 2, free_block h 3⟩
/-- All four cells of a struct that a block holds are stored. -/
theorem set4 {y0 y1 y2 y3 : Value} (h : w.heap[g]? = some (.cells #[y0, y1, y2, y3] T fr)) (z0 z1 z2 z3 : Value) :
    ((((w.setCell ⟨g, 0, none⟩ z0).setCell ⟨g, 1, none⟩ z1).setCell ⟨g, 2, none⟩ z2).setCell ⟨g, 3, none⟩ z3).heap[g]? = some (.cells #[z0, z1, z2, z3] T fr) :=
  heap_set (heap_set (heap_set (heap_set h 0 z0) 1 z1) 2 z2) 3 z3
end
end Go.Proofs.Ytcmopnkldplngaa
