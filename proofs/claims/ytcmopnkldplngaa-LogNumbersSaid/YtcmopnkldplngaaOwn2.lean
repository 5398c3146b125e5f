/- A byte of a slice of the call's own, read and stored. And what is got of what was put, as plain laws. -/
import Derived.Test.YtcmopnkldplngaaBs
namespace Go.Proofs.Ytcmopnkldplngaa
open Go.RowKit

/-- append onto a slice of bytes of the call's own, in a region that draws its order. -/
theorem step_app {w : World} {ops : Array Oper} {o : Oper} {a : Act} {K : Act → World → Prop} {Q : Exit → Act → World → Prop} {E : Prop} (hgd : o.guard = none) (s x : Operand)
    (ho : o.op = .call { callee := .builtin .append, args := #[s, x], argTypes := #[22, 22] })
    {base : Nat} {v : Value} {l : List Nat} (hs : a.eval s = v) (hown : Own w base v l) {B : Nat} {A : Option Addr} {m c : Nat} {news : List Nat} (hx : a.eval x = .slice A m c)
    (hr : At w B A (bv news)) (hm : news.length = m) (hn : l.length + m ≤ 8796093022208) (hbase : base ≤ w.heap.size)
    (h : ∀ v' w', Own w' base v' (l ++ news) → Below base w w' → K (a.put o.dst v') w') :
    if Region.wanted o (yielded ops a.tmps) = true then Oper.wp Try.prog o a w K Q else E := by
  have hw : Region.wanted o (yielded ops a.tmps) = true := by simp [Region.wanted, hgd]
  rw [if_pos hw]
  obtain ⟨i0, hi0, hz0, hz1, hz2⟩ := info_parts u8_info
  subst hm
  refine wp_append_at w s x 22 ho base 5 i0 _ 1 1 Try.underlying22 hi0 hz0 hz1 hz2 rfl (by omega) v l.length (bv l) hs hown B A news.length c (bv news) hx hr
    (by simp [bv]) (bv_one news) (by unfold maxLen; omega) (by omega) hbase ?_
  intro v' w' h1 h2 h3
  refine h v' w' ?_ ((Below.refl _ _).grown h2 hbase (fun k hk => (World.ownsRow.lt hown k hk).1))
  unfold Own
  rw [List.length_append, bv_append]
  exact h1
theorem of_drew {w w' : World} (h : Below w.drew.heap.size w.drew w') : Below w.heap.size w w' := ⟨h.os, h.tape, h.output, h.size, h.block⟩
theorem of_drewN {w w' : World} {k : Nat} (h : Below (w.drewN k).heap.size (w.drewN k) w') : Below w.heap.size w w' := ⟨h.os, h.tape, h.output, h.size, h.block⟩
theorem below_drewN {B : Nat} {a w : World} (h : Below B a w) (k : Nat) : Below B a (w.drewN k) := ⟨h.os, h.tape, h.output, h.size, h.block⟩
theorem Own.head {w : World} {base : Nat} {v : Value} {l : List Nat} (h : Own w base v l) (hn : l ≠ []) : ∃ g c, v = .slice (some ⟨g, 0, none⟩) l.length c ∧ base ≤ g ∧ l.length ≤ c := by
  rcases h.2 with ⟨_, h2⟩ | ⟨g, cap, cur, h1, h2, h3, h4, h5, _⟩
  · exact absurd (List.eq_nil_of_length_eq_zero h2) hn
  · exact ⟨g, cap, h1, h2, h4⟩
theorem Own.cellAt {w : World} {base g c : Nat} {l : List Nat} (h : Own w base (.slice (some ⟨g, 0, none⟩) l.length c) l) (j : Nat) (hj : j < l.length) : w.cell? ⟨g, j, none⟩ = some (.int .u8 ((l.getD j 0 : Nat) : Int)) := by
  rw [World.ownsRow.cellAt h j (by omega)]
  simp [bv, hj]
theorem Own.frozenAt {w : World} {base g n c : Nat} {l : List Nat} (h : Own w base (.slice (some ⟨g, 0, none⟩) n c) l) (j : Nat) (hn : l.length = n) : w.frozen? ⟨g, j, none⟩ = false := by
  subst hn
  exact World.ownsRow.frozenAt h j
theorem bv_set (l : List Nat) (j x : Nat) : bv (l.set j x) = (bv l).set j (.int .u8 (x : Int)) := by simp [bv]
theorem Own.stored {w : World} {base g c : Nat} {l : List Nat} (h : Own w base (.slice (some ⟨g, 0, none⟩) l.length c) l) (j x : Nat) :
    Own (w.setCell ⟨g, j, none⟩ (.int .u8 (x : Int))) base (.slice (some ⟨g, 0, none⟩) l.length c) (l.set j x) ∧ w.grownBy (w.setCell ⟨g, j, none⟩ (.int .u8 (x : Int))) (some g) := by
  have := World.ownsRow.stored h j (.int .u8 (x : Int))
  refine ⟨?_, this.2⟩
  unfold Own
  rw [List.length_set, bv_set]
  exact this.1

end Go.Proofs.Ytcmopnkldplngaa
