/- Package tree: append of a row onto a row of one, in a region that draws its order. -/
import Derived.Test.YtpakjjefbholdaaGreatDoorTo
import Derived.Deep.RegionLaw
namespace Go.Proofs.YtpakjjefbholdaaGreatDoor
open Go.RowKit
set_option linter.unusedVariables false

section
variable {w : World}
theorem Flat.app {S : Nat → Prop} {sz : Nat} {xs ys : List Value} {l m : List Nd} (h : Flat w S sz xs l) (k : Flat w S sz ys m) : Flat w S sz (xs ++ ys) (l ++ m) := by
  have h1 := h.1
  have k1 := k.1
  refine ⟨by rw [List.length_append, List.length_append, h1, k1, Nat.add_mul], fun i x hx => ?_⟩
  by_cases hi : i < l.length
  · rw [List.getElem?_append_left hi] at hx
    have h2 : (i + 1) * sz ≤ l.length * sz := Nat.mul_le_mul_right _ hi
    rw [Nat.add_mul, Nat.one_mul] at h2
    rw [List.drop_append_of_le_length (by omega), List.take_append_of_le_length (by rw [List.length_drop]; omega)]
    exact h.2 i x hx
  · rw [List.getElem?_append_right (by omega)] at hx
    have h2 : i * sz = l.length * sz + (i - l.length) * sz := by rw [← Nat.add_mul]; congr 1; omega
    rw [h2, ← h1, List.drop_append, List.drop_eq_nil_of_le (by omega), List.nil_append]
    rw [show xs.length + (i - l.length) * sz - xs.length = (i - l.length) * sz by omega]
    exact k.2 _ x hx
/-- The cells of a row of expressions, as they stand in memory. -/
theorem rds_flat {S : Nat → Prop} {A : Option Addr} : ∀ (i : Nat) (l : List Ex), Rds w S A 4 i (l.map Ex.nd) → ∃ xs : List Value, Flat w S 4 xs (l.map Ex.nd) ∧ (∀ u ∈ xs, u.oneCell' = true) ∧ (xs ≠ [] → ∃ b o, A = some ⟨b, o, none⟩ ∧ S b) ∧ ∀ b o, A = some ⟨b, o, none⟩ → ∀ j u, xs[j]? = some u → w.cell? ⟨b, o + i * 4 + j, none⟩ = some u
  | i, [], h => ⟨[], Flat.nil _ _ _, by simp, by simp, by simp⟩
  | i, x :: r, h => by
    rw [List.map_cons, Rds] at h
    obtain ⟨⟨b, o, vs, rfl, h1, h2, h3, h4⟩, h5⟩ := h
    obtain ⟨xs, g1, g2, -, g4⟩ := rds_flat (i + 1) r h5
    obtain ⟨k, s, n, m⟩ := x
    obtain ⟨y, hv, -, -, hy⟩ := (Ex.rd k s n m _).1 h4
    obtain ⟨A3, n3, c3, rfl⟩ := hy.row_form
    have hv2 : vs = [.int .u8 (k : Int), .string (strOf s), .int .i64 n, .slice A3 n3 c3] := by
      injection hv with hv
      have := congrArg Array.toList hv
      simpa using this
    subst hv2
    refine ⟨[.int .u8 (k : Int), .string (strOf s), .int .i64 n, .slice A3 n3 c3] ++ xs, ?_, ?_, fun _ => ⟨b, o, rfl, h1⟩, ?_⟩
    · have := (Flat.one (n := 4) (by rfl) h4).app g1
      simpa using this
    · intro u hu
      rw [List.mem_append] at hu
      rcases hu with hu | hu
      · simp at hu
        rcases hu with rfl | rfl | rfl | rfl <;> rfl
      · exact g2 u hu
    · intro b' o' e j u hu
      cases e
      by_cases hj : j < 4
      · rw [List.getElem?_append_left (by simpa using hj)] at hu
        exact h3 j u hu
      · rw [List.getElem?_append_right (by simp; omega)] at hu
        have := g4 b o rfl (j - 4) u (by simpa using hu)
        rw [show o + (i + 1) * 4 + (j - 4) = o + i * 4 + j by omega] at this
        exact this
theorem row_flat {S : Nat → Prop} {l : List Ex} {v : Value} (hS : ∀ b, S b → b < w.heap.size) (h : Rd w S (.row 4 (l.map Ex.nd)) v) : ∃ A n c xs, v = .slice A n c ∧ n = l.length ∧ Flat w S 4 xs (l.map Ex.nd) ∧ (∀ u ∈ xs, u.oneCell' = true) ∧ At w w.heap.size A xs := by
  rw [Rd] at h
  obtain ⟨A, c, rfl, -, -, h⟩ := h
  obtain ⟨xs, h1, h2, h3, h4⟩ := rds_flat 0 l h
  refine ⟨A, _, c, xs, rfl, by simp, h1, h2, fun hn => ?_⟩
  obtain ⟨b, o, e, hb⟩ := h3 hn
  exact ⟨b, o, e, hS b hb, fun i u hu => by have := h4 b o e i u hu; simpa using this⟩
/-- append of expressions onto a row of the call's own, in a region that draws its order. -/
theorem step_ex {ops : Array Oper} {o : Oper} {a : Act} {K : Act → World → Prop} {Q : Exit → Act → World → Prop} {E : Prop} (hgd : o.guard = none) (s x : Operand)
    (ho : o.op = .call { callee := .builtin .append, args := #[s, x], argTypes := #[44, 44] })
    {base : Nat} {v : Value} {n : Nat} {xs : List Value} (hs : a.eval s = v) (hown : w.ownsRow base 46 4 v n xs) {B : Nat} {A : Option Addr} {m c : Nat} {news : List Value} (hx : a.eval x = .slice A m c)
    (hr : At w B A news) (hm : news.length = m * 4) (h1 : ∀ u ∈ news, u.oneCell' = true) (hn : n + m ≤ 1000000000) (hbase : base ≤ w.heap.size)
    (h : ∀ v' w', w'.ownsRow base 46 4 v' (n + m) (xs ++ news) → w.grownBy w' v.ownBlock → (v'.ownBlock = v.ownBlock ∨ v'.ownBlock = some w.heap.size) → K (a.put o.dst v') w') :
    if Region.wanted o (yielded ops a.tmps) = true then Oper.wp Tryz.prog o a w K Q else E := by
  have hw : Region.wanted o (yielded ops a.tmps) = true := by simp [Region.wanted, hgd]
  rw [if_pos hw]
  obtain ⟨i0, hi0, hz0, hz1, hz2⟩ := info_parts expr_info
  exact wp_append_at w s x 44 ho base 46 i0 _ 4 56 Tryz.underlying44 hi0 hz0 hz1 hz2 rfl (by omega) v n xs hs hown B A m c news hx hr hm h1 (by unfold maxLen; omega) (by omega) hbase h
/-- What was appended onto a row of one. -/
theorem cons_row {Y Y' : World} {g0 g3 gv base : Nat} {cells xs : List Value} {x : Nd} {l : List Nd} {v' : Value} (hx : Rd Y (fun b => Sg w Y g0 g3 b ∧ b ≠ gv) x (.agg cells.toArray)) (hl : Flat Y (fun b => Sg w Y g0 g3 b ∧ b ≠ gv) 4 xs l) (hc : cells.length = 4)
    (ho : Y'.ownsRow base 46 4 v' (1 + l.length) (cells ++ xs)) (hg : Y.grownBy Y' (some gv)) (hw : w.heap.size ≤ base) (h0 : g0 < base) (h3 : g3 < base) : Rd Y' (Sg w Y' g0 g3) (.row 4 (x :: l)) v' := by
  have hf : Flat Y (fun b => Sg w Y g0 g3 b ∧ b ≠ gv) 4 (cells ++ xs) (x :: l) := (Flat.one hc hx).app hl
  have hf' : Flat Y' (Sg w Y' g0 g3) 4 (cells ++ xs) (x :: l) := hf.keep (fun p hp => World.cell?_of_block (hg.block p.block hp.1.1.2 (fun e => hp.2 (Option.some.inj e)))) (fun b hb => ⟨⟨hb.1.1.1, Nat.lt_of_lt_of_le hb.1.1.2 hg.size⟩, hb.1.2⟩)
  rw [show 1 + l.length = (x :: l).length by simp; omega] at ho
  exact hf'.row ho (fun b h1 h2 => ⟨⟨by omega, h2⟩, by omega, by omega⟩)
theorem moreF_len {α : Type} {T : List Nat} {one : Rr α} : ∀ (m : Nat) (l : List α) (p : Pst) (r : List α × Pst), moreF T one m l p = some r → r.1.length ≤ l.length + m
  | 0, l, p, r, hr => by simp [moreF] at hr
  | m + 1, l, p, r, hr => by
    rw [moreF] at hr
    split at hr
    · cases hr; simp
    · split at hr
      · cases hr
      · have := moreF_len m _ _ _ hr
        simp at this
        omega
theorem listF_len {α : Type} {T : List Nat} {one : Rr α} {m : Nat} {p : Pst} {r : List α × Pst} (hr : listF T one m p = some r) : r.1.length ≤ m + 1 := by
  unfold listF at hr
  split at hr
  · cases hr; simp
  · split at hr
    · cases hr; simp
    · split at hr
      · cases hr
      · have := moreF_len m _ _ _ hr
        simp at this
        omega
end
end Go.Proofs.YtpakjjefbholdaaGreatDoor
