/- drover/value.Right: the walk. -/
import Derived.Test.YtfobmlicmbelnaaDoorRight1
import Derived.Laws.EntriesVeiled
namespace Go.Proofs.YtfobmlicmbelnaaDoor
open Go.RowKit

theorem heap_new' (w : World) (o : Obj) (g : Nat) (h : g = w.heap.size) : (w.alloc o).heap[g]? = some o := by
  subst h
  exact heap_new w o
theorem Kp.all {b : Nat} {w w0 w' : World} (h0 : Below w.heap.size w w0) (h : Kp b w0 w') (hb : w.heap.size ≤ b) : Below w.heap.size w w' := h0.trans (h.below hb h0.size)
set_option maxRecDepth 100000 in
set_option maxHeartbeats 400000 in
theorem right_any (t : Va) (v : Value) (w : World) (B : Nat) (h : Rep w B v t) (hB : B ≤ w.heap.size) :
    Calls Tryd.prog 18 #[v] w fun e w' => e = .returned (.bool (right t)) ∧ Below w.heap.size w w' := by
  obtain ⟨k, n, s, l⟩ := t
  obtain ⟨y0, y1, y2, y3, rfl⟩ := h.form
  obtain ⟨A, c, rfl, rfl, rfl, rfl, -⟩ := h.parts
  go_enter Tryd.func18, Tryd.ntmps18
  go_wp2_with fail
  refine (right1_any 16 _ 256 _ 1 _ B (w.heap.size + 1) (w.heap.size + 1 + 1) (by omega) (by omega) (by omega) (h.under ?ca) (by omega) (by omega) ?cb (by omega) ?cc ?cd).mono ?ce
  case ca => exact ((((Below.refl _ _).alloc hB _).alloc (by simp; omega) _).alloc (by simp; omega) _)
  case cb => simp; omega
  case cc => exact heap_old (heap_new' _ _ _ (by simp)) _
  case cd => exact heap_new' _ _ _ (by simp)
  rintro e w1 ⟨z, rfl, hz, hc, hk⟩
  go_wp2_with fail
  go_ret
  exact ⟨rfl, Kp.all ((((Below.refl _ _).alloc (Nat.le_refl _) _).alloc (by simp) _).alloc (by simp; omega) _) hk (by omega)⟩
end Go.Proofs.YtfobmlicmbelnaaDoor
