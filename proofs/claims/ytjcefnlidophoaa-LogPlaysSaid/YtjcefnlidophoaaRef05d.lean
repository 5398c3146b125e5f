/- A store of a whole struct at a block known whole, as a law of the walk. -/
import Derived.Test.YtjcefnlidophoaaRef05c
namespace Go.Proofs.Ytjcefnlidophoaa
open Go.RowKit

set_option maxRecDepth 100000 in
set_option maxHeartbeats 1600000 in
theorem wpList_put5 {w : World} {ops : Array Oper} {rest : List Oper} {o : Oper} {a : Act} {Q : Exit → Act → World → Prop} {g : Nat} {x0 x1 x2 x3 x4 z0 z1 z2 z3 z4 : Value} {T : TypeId} (hgd : o.guard = none) (p v : Operand)
    (hop : o.op = Op.store 62 p v) (hp : a.eval p = .pointer (some ⟨g, 0, none⟩)) (hv : a.eval v = .agg #[z0, z1, z2, z3, z4]) (hh : w.heap[g]? = some (.cells #[x0, x1, x2, x3, x4] T (0, 0)))
    (m0 : ∃ k n, z0 = .int k n) (m1 : ∃ k n c, z1 = .slice k n c) (m2 : ∃ k n, z2 = .int k n) (m3 : ∃ k n, z3 = .int k n) (m4 : ∃ b, z4 = .bool b)
    (h : wpList Try.prog ops Q rest (a.put o.dst undef) (put5 w g z0 z1 z2 z3 z4)) : wpList Try.prog ops Q (o :: rest) a w := by
  obtain ⟨⟨c0, c1, c2, c3, c4⟩, f0, f1, f2, f3, f4⟩ := box5 hh
  obtain ⟨_, _, rfl⟩ := m0
  obtain ⟨_, _, _, rfl⟩ := m1
  obtain ⟨_, _, rfl⟩ := m2
  obtain ⟨_, _, rfl⟩ := m3
  obtain ⟨_, rfl⟩ := m4
  refine wpList_plain hgd fun K hK' => ?_
  have hK2 := hK' _ _ h
  clear h hK'
  unfold put5 at hK2
  unfold Oper.wp
  simp only [execOp, hop, hp, hv]
  go_simp
  exact hK2
set_option maxRecDepth 100000 in
set_option maxHeartbeats 1600000 in
theorem wpList_put3 {w : World} {ops : Array Oper} {rest : List Oper} {o : Oper} {a : Act} {Q : Exit → Act → World → Prop} {g : Nat} {x0 x1 x2 z0 z1 z2 : Value} {T : TypeId} (hgd : o.guard = none) (p v : Operand)
    (hop : o.op = Op.store 69 p v) (hp : a.eval p = .pointer (some ⟨g, 0, none⟩)) (hv : a.eval v = .agg #[z0, z1, z2]) (hh : w.heap[g]? = some (.cells #[x0, x1, x2] T (0, 0)))
    (m0 : ∃ k n, z0 = .int k n) (m1 : ∃ k n, z1 = .int k n) (m2 : ∃ b, z2 = .bool b)
    (h : wpList Try.prog ops Q rest (a.put o.dst undef) (put3 w g z0 z1 z2)) : wpList Try.prog ops Q (o :: rest) a w := by
  obtain ⟨⟨c0, c1, c2⟩, f0, f1, f2⟩ := box3r hh
  obtain ⟨_, _, rfl⟩ := m0
  obtain ⟨_, _, rfl⟩ := m1
  obtain ⟨_, rfl⟩ := m2
  refine wpList_plain hgd fun K hK' => ?_
  have hK2 := hK' _ _ h
  clear h hK'
  unfold put3 at hK2
  unfold Oper.wp
  simp only [execOp, hop, hp, hv]
  go_simp
  exact hK2
end Go.Proofs.Ytjcefnlidophoaa
