/- '[]byte(s)' of a string: the bytes in new memory. -/
import Derived.Test.YtjcefnlidophoaaGe
import Derived.Test.YtjcefnlidophoaaKp
import Derived.Laws.IdiomStrings
namespace Go.Proofs.Ytjcefnlidophoaa
open Go.RowKit

def convC (w : World) (s : List Nat) : Nat := grownCap w s.length 0 5
def convO (w : World) (s : List Nat) : Obj := .cells (bytesRow (strOf s) (convC w s)) 5 ((bytesRow (strOf s) (convC w s)).size, (bytesRow (strOf s) (convC w s)).size + 1)
theorem conv_any (s : List Nat) (w : World) : (convert 9 27 (.string (strOf s))).run Try.prog w = .ok (.slice (some ⟨w.heap.size, 0, none⟩) s.length (convC w s)) (w.drew.alloc (convO w s)) := by
  have := run_bytes_of_string (P := Try.prog) w 9 27 5 (strOf s) Try.underlying9 Try.underlying27 Try.underlying5
  rw [strOf_size] at this
  exact this
theorem conv_bs (s : List Nat) (h8 : ∀ x ∈ s, x < 256) (w : World) (g cap : Nat) (v : World) (hg : g = w.heap.size) (hc : cap = convC v s) : Bs (w.alloc (convO v s)) (.slice (some ⟨g, 0, none⟩) s.length cap) s := by
  subst hg
  subst hc
  refine Bs.of_at (fun hn => ⟨w.heap.size, 0, rfl, by simp, fun i x hx => ?_⟩) rfl (grownCap_ge _ _ _ _) h8
  have hi : i < s.length := by simpa [bv] using (List.getElem?_eq_some_iff.1 hx).1
  have e : w.alloc (convO v s) = w.alloc (.cells (bytesRow (strOf s) (convC v s)) 5 ((bytesRow (strOf s) (convC v s)).size, (bytesRow (strOf s) (convC v s)).size + 1)) := rfl
  have hh : (w.alloc (convO v s)).heap[w.heap.size]? = some (convO v s) := heap_new _ _
  unfold World.cell?
  dsimp only
  rw [hh]
  have := bytesRow_at (strOf s) (convC v s) i (by have := strOf_size s; show i < (strOf s).size; omega)
  show (bytesRow (strOf s) (convC v s))[0 + i]? = some x
  rw [Nat.zero_add, this, ← hx]
  have h1 := h8 s[i] (List.getElem_mem hi)
  simp [bv, strOf, hi, UInt8.toNat_ofNat', Nat.mod_eq_of_lt h1]
end Go.Proofs.Ytjcefnlidophoaa
