/- What Open tells of what built made; what keeps a log. -/
import Derived.Test.YtcmopnkldplngaaLl
namespace Go.Proofs.Ytcmopnkldplngaa
open Go.RowKit

theorem open_dOf (all : List (List Nat)) (h : ∀ x ∈ all, lgood x) : openL (dOf all) = (dOf all, .ok all) := by
  have hw : whole (lrecs all) = all := whole_all all h
  unfold openL dOf
  dsimp only
  rw [hw, if_neg (by simp), if_neg (by omega)]
theorem ltake_good (ll : List (List Nat)) (h : ∀ x ∈ ll, ∀ y ∈ x, y < 256) : (∀ x ∈ ltake ll, lgood x ∧ x.length ≤ 100) ∧ (ltake ll).length ≤ 30 := by
  refine ⟨fun x hx => ?_, ?_⟩
  · have h1 := List.mem_filter.1 hx
    have h2 : 1 ≤ x.length ∧ x.length ≤ 100 := of_decide_eq_true h1.2
    exact ⟨⟨h2.1, by omega, h x (List.mem_of_mem_take h1.1)⟩, h2.2⟩
  · refine Nat.le_trans (List.length_filter_le _ _) ?_
    rw [List.length_take]
    omega
theorem BRows.byte {w : World} {a : Option Addr} {n c : Nat} {ll : List (List Nat)} (h : BRows w a n c ll) : ∀ x ∈ ll, ∀ y ∈ x, y < 256 := by
  intro x hx
  obtain ⟨i, hi, rfl⟩ := List.mem_iff_getElem.1 hx
  have hl := h.len
  obtain ⟨b, o, A, k, -, -, hb⟩ := h.at (Below.refl _ _) i (by omega)
  have := hb.2
  simpa [hi] using this
theorem LgAt.kr {w w' : World} {base p q : Nat} {r : Option Nat} {d : Pd} {l : Pl} (h : LgAt w q p l) (hd : Dk w base p r d) (hk : Kr p r w w') : LgAt w' q p l := hk.heap h (fun e => (hd.lg_ne h) e.symm) (hd.lg_row h)
/-- One blob more onto a row of blobs, behind a guard or not. -/
theorem wpList_rowapp {w : World} {ops : Array Oper} {rest : List Oper} {o : Oper} {a : Act} {Q : Exit → Act → World → Prop} (hw : Region.wanted o (yielded ops a.tmps) = true) (s x : Operand)
    (ho : o.op = .call { callee := .builtin .append, args := #[s, x], argTypes := #[30, 30] })
    {base n : Nat} {v : Value} {vs : List Value} (hs : a.eval s = v) (hown : w.ownsRow base 22 1 v n vs) {B : Nat} {A : Option Addr} {c : Nat} {u : Value} (hx : a.eval x = .slice A 1 c)
    (hr : At w B A [u]) (hu : u.oneCell' = true) (hn : n + 1 ≤ 1099511627776) (hbase : base ≤ w.heap.size)
    (h : ∀ v' w', w'.ownsRow base 22 1 v' (n + 1) (vs ++ [u]) → w.grownBy w' v.ownBlock → wpList Try.prog ops Q rest (a.put o.dst v') w') : wpList Try.prog ops Q (o :: rest) a w := by
  refine wpList_step fun K hK => ?_
  rw [if_pos hw]
  obtain ⟨i0, hi0, hz0, hz1, hz2⟩ := info_parts blk_info
  refine wp_append_at w s x 30 ho base 22 i0 _ 1 24 Try.underlying30 hi0 hz0 hz1 hz2 rfl (by omega) v n vs hs hown B A 1 c [u] hx hr rfl (by intro y hy; simp at hy; rw [hy]; exact hu) (by unfold maxLen; omega) (by omega) hbase ?_
  intro v' w' h1 h2 h3
  exact hK _ _ (h v' w' h1 h2)
end Go.Proofs.Ytcmopnkldplngaa
