/- drover/value.Compare, Same: the walks. -/
import Derived.Test.YtfobmlicmbelnaaDoorCompare1
import Derived.Laws.EntriesVeiled
namespace Go.Proofs.YtfobmlicmbelnaaDoor
open Go.RowKit

def cmV (t u : Va) : Int := cmv 16 t u
set_option maxRecDepth 100000 in
set_option maxHeartbeats 400000 in
theorem compare_any (t u : Va) (v v' : Value) (w : World) (B : Nat) (h : Rep w B v t) (h' : Rep w B v' u) (hB : B ≤ w.heap.size) :
    Calls Tryd.prog 23 #[v, v'] w (OutC (cmV t u) w) := by
  have h0 := h
  have h0' := h'
  obtain ⟨k, n, s, l⟩ := t
  obtain ⟨k', n', s', l'⟩ := u
  obtain ⟨y0, y1, y2, y3, rfl⟩ := h.form
  obtain ⟨z0, z1, z2, z3, rfl⟩ := h'.form
  obtain ⟨A, c, rfl, rfl, rfl, rfl, -⟩ := h.parts
  obtain ⟨A', c', rfl, rfl, rfl, rfl, -⟩ := h'.parts
  clear h h'
  go_enter Tryd.func23, Tryd.ntmps23
  go_wp2_with fail
  have hb : ∀ (o o' o'' : Obj), Below w.heap.size w (((w.alloc o).alloc o').alloc o'') := fun o o' o'' => (two w o o').alloc (by simp; omega) o''
  refine (compare1_any 16 _ _ _ _ 1 _ B (w.heap.size + 1 + 1) (by omega) (by omega) (by omega) (h0.under ((hb _ _ _).mono hB)) (h0'.under ((hb _ _ _).mono hB)) (Nat.le_trans hB (hb _ _ _).size) ?cd).mono ?ce
  case cd => exact heap_new' _ _ _ (by simp)
  rintro e w1 ⟨rfl, hb1⟩
  have hb2 := nxt (hb _ _ _) hb1
  clear hb hb1
  go_wp2_with fail
  go_ret
  exact ⟨rfl, hb2⟩
set_option maxRecDepth 100000 in
set_option maxHeartbeats 400000 in
theorem same_val (t u : Va) (v v' : Value) (w : World) (B : Nat) (h : Rep w B v t) (h' : Rep w B v' u) (hB : B ≤ w.heap.size) :
    Calls Tryd.prog 24 #[v, v'] w fun e w' => e = .returned (.bool (decide (cmV t u = 0))) ∧ Below w.heap.size w w' := by
  have h0 := h
  have h0' := h'
  obtain ⟨k, n, s, l⟩ := t
  obtain ⟨k', n', s', l'⟩ := u
  obtain ⟨y0, y1, y2, y3, rfl⟩ := h.form
  obtain ⟨z0, z1, z2, z3, rfl⟩ := h'.form
  obtain ⟨A, c, rfl, rfl, rfl, rfl, -⟩ := h.parts
  obtain ⟨A', c', rfl, rfl, rfl, rfl, -⟩ := h'.parts
  clear h h'
  go_enter Tryd.func24, Tryd.ntmps24
  go_wp2_with fail
  refine (compare_any _ _ _ _ _ B (h0.under ((two w _ _).mono hB)) (h0'.under ((two w _ _).mono hB)) (Nat.le_trans hB (two w _ _).size)).mono ?_
  rintro e w1 ⟨rfl, hb1⟩
  have hb2 := nxt (two w _ _) hb1
  clear hb1
  go_wp2_with fail
  go_ret
  exact ⟨ret_bool (by rfl), hb2⟩
end Go.Proofs.YtfobmlicmbelnaaDoor
