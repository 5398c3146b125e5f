/- Rows that are held in variables, beside one another. -/
import Derived.Test.YtpakjjefbholdaaGreatDoorTq
namespace Go.Proofs.YtpakjjefbholdaaGreatDoor
open Go.RowKit
set_option linter.unusedVariables false

/-- What reads so, in blocks that were made since w and are none of D. -/
def Px (w X : World) (D : Nat → Prop) (nd : Nd) (v : Value) : Prop := Rd X (fun b => Nw w X b ∧ ¬ D b) nd v
/-- A row of the call's own, that reads as these structs, its parts in no block of D. -/
def RowE (w wr : World) (B : Nat) (E : TypeId) (sz : Nat) (v : Value) (l : List Nd) (D : Nat → Prop) : Prop :=
  ∃ xs, wr.ownsRow B E sz v l.length xs ∧ Flat wr (fun b => Nw w wr b ∧ ¬ (D b ∨ some b = v.ownBlock)) sz xs l
section
variable {w X Y : World} {B : Nat} {E : TypeId} {sz : Nat} {v v' : Value} {l : List Nd} {D D' : Nat → Prop} {nd : Nd} {row : Option Nat}
theorem Px.keep (h : Px w X D nd v) (hg : X.grownBy Y row) (hD : ∀ g, row = some g → D g) (hD' : ∀ b, b < X.heap.size → D' b → D b) : Px w Y D' nd v :=
  Rd.keep (fun p hp => World.cell?_of_block (hg.block p.block hp.1.2 (fun e => hp.2 (hD _ e.symm)))) (fun b hb => ⟨⟨hb.1.1, Nat.lt_of_lt_of_le hb.1.2 hg.size⟩, fun hd => hb.2 (hD' b hb.1.2 hd)⟩) _ _ h
theorem RowE.nil (w wr : World) (B : Nat) (E : TypeId) (sz : Nat) (D : Nat → Prop) : RowE w wr B E sz (.slice none 0 0) [] D := ⟨[], World.ownsRow_nil _ _ _ _, Flat.nil _ _ _⟩
theorem RowE.form (h : RowE w X B E sz v l D) : ∃ A c, v = .slice A l.length c ∧ l.length ≤ c ∧ c ≤ maxLen := by
  obtain ⟨xs, h, -⟩ := h
  rcases h.2 with ⟨h1, h2⟩ | ⟨g, cap, cur, he, _, _, h3, h4, _⟩
  · exact ⟨none, 0, by rw [h1, h2], by omega, by unfold maxLen; omega⟩
  · exact ⟨_, cap, he, h3, h4⟩
theorem RowE.own (h : RowE w X B E sz v l D) : ∀ g, v.ownBlock = some g → B ≤ g ∧ g < X.heap.size := by
  obtain ⟨xs, h, -⟩ := h
  intro g e
  rcases own_ge h with e2 | ⟨g2, e2, h2, h3⟩
  · rw [e2] at e; cases e
  · rw [e2] at e
    have := Option.some.inj e
    subst this
    exact ⟨h2, h3⟩
theorem RowE.keep (h : RowE w X B E sz v l D) (hg : X.grownBy Y row) (hD : ∀ g, row = some g → D g) (hB : ∀ g, row = some g → v.ownBlock ≠ some g) (hD' : ∀ b, b < X.heap.size → D' b → D b) : RowE w Y B E sz v l D' := by
  obtain ⟨xs, h1, h2⟩ := h
  refine ⟨xs, World.ownsRow.kept h1 hg ?_, h2.keep (fun p hp => World.cell?_of_block (hg.block p.block hp.1.2 (fun e => hp.2 (.inl (hD _ e.symm))))) (fun b hb => ⟨⟨hb.1.1, Nat.lt_of_lt_of_le hb.1.2 hg.size⟩, ?_⟩)⟩
  · cases hv : v.ownBlock with
    | none => exact .inl rfl
    | some g =>
      right
      intro e
      exact hB g e.symm hv
  · rintro (hd | hd)
    · exact hb.2 (.inl (hD' b hb.1.2 hd))
    · exact hb.2 (.inr hd)
/-- It reads as its structs. -/
theorem RowE.px (h : RowE w X B E sz v l D) (hB : w.heap.size ≤ B) (hDB : ∀ g, B ≤ g → g < X.heap.size → ¬ D g) : Px w X D (.row sz l) v := by
  obtain ⟨xs, h1, h2⟩ := h
  exact (h2.keep (S' := fun b => Nw w X b ∧ ¬ D b) (fun _ _ => rfl) (fun b hb => ⟨hb.1, fun hd => hb.2 (.inl hd)⟩)).row h1 (fun b h3 h4 => ⟨⟨Nat.le_trans hB h3, h4⟩, hDB b h3 h4⟩)
/-- One struct more, that was appended. -/
theorem RowE.snoc {xs news : List Value} {x : Nd} (h1 : X.ownsRow B E sz v l.length xs) (h2 : Flat X (fun b => Nw w X b ∧ ¬ (D b ∨ some b = v.ownBlock)) sz xs l)
    (hx : Rd X (fun b => Nw w X b ∧ ¬ (D b ∨ some b = v.ownBlock)) x (.agg news.toArray)) (hn : news.length = sz) (ho : Y.ownsRow B E sz v' (l.length + 1) (xs ++ news)) (hg : X.grownBy Y v.ownBlock) (hor : v'.ownBlock = v.ownBlock ∨ v'.ownBlock = some X.heap.size) : RowE w Y B E sz v' (l ++ [x]) D := by
  refine ⟨xs ++ news, by simpa using ho, ?_⟩
  refine (h2.snoc hn hx).keep (fun p hp => World.cell?_of_block (hg.block p.block hp.1.2 (fun e => hp.2 (.inr e)))) (fun b hb => ⟨⟨hb.1.1, Nat.lt_of_lt_of_le hb.1.2 hg.size⟩, ?_⟩)
  rintro (hd | hd)
  · exact hb.2 (.inl hd)
  · rcases hor with e | e
    · rw [e] at hd; exact hb.2 (.inr hd)
    · rw [e] at hd
      have := Option.some.inj hd
      have := hb.1.2
      omega
end
theorem body_info : (Tryz.prog.info? 55).map (fun i => (i.zero, i.size, i.bytes)) = some (some (.agg #[.string ⟨#[]⟩, .slice none 0 0, .slice none 0 0, .int .i64 0]), 4, 72) := by kernel_rfl
theorem role_info : (Tryz.prog.info? 87).map (fun i => (i.zero, i.size, i.bytes)) = some (some (.agg #[.string ⟨#[]⟩, .slice none 0 0, .slice none 0 0, .int .i64 0]), 4, 72) := by kernel_rfl
section
variable {w : World}
theorem step_bd {ops : Array Oper} {o : Oper} {a : Act} {K : Act → World → Prop} {Q : Exit → Act → World → Prop} {E : Prop} (hgd : o.guard = none) (s x : Operand)
    (ho : o.op = .call { callee := .builtin .append, args := #[s, x], argTypes := #[23, 23] })
    {base : Nat} {v : Value} {n : Nat} {xs : List Value} (hs : a.eval s = v) (hown : w.ownsRow base 55 4 v n xs) {B : Nat} {A : Option Addr} {m c : Nat} {news : List Value} (hx : a.eval x = .slice A m c)
    (hr : At w B A news) (hm : news.length = m * 4) (h1 : ∀ u ∈ news, u.oneCell' = true) (hn : n + m ≤ 1000000000) (hbase : base ≤ w.heap.size)
    (h : ∀ v' w', w'.ownsRow base 55 4 v' (n + m) (xs ++ news) → w.grownBy w' v.ownBlock → (v'.ownBlock = v.ownBlock ∨ v'.ownBlock = some w.heap.size) → K (a.put o.dst v') w') :
    if Region.wanted o (yielded ops a.tmps) = true then Oper.wp Tryz.prog o a w K Q else E := by
  have hw : Region.wanted o (yielded ops a.tmps) = true := by simp [Region.wanted, hgd]
  rw [if_pos hw]
  obtain ⟨i0, hi0, hz0, hz1, hz2⟩ := info_parts body_info
  exact wp_append_at w s x 23 ho base 55 i0 _ 4 72 Tryz.underlying23 hi0 hz0 hz1 hz2 rfl (by omega) v n xs hs hown B A m c news hx hr hm h1 (by unfold maxLen; omega) (by omega) hbase h
theorem step_rl {ops : Array Oper} {o : Oper} {a : Act} {K : Act → World → Prop} {Q : Exit → Act → World → Prop} {E : Prop} (hgd : o.guard = none) (s x : Operand)
    (ho : o.op = .call { callee := .builtin .append, args := #[s, x], argTypes := #[24, 24] })
    {base : Nat} {v : Value} {n : Nat} {xs : List Value} (hs : a.eval s = v) (hown : w.ownsRow base 87 4 v n xs) {B : Nat} {A : Option Addr} {m c : Nat} {news : List Value} (hx : a.eval x = .slice A m c)
    (hr : At w B A news) (hm : news.length = m * 4) (h1 : ∀ u ∈ news, u.oneCell' = true) (hn : n + m ≤ 1000000000) (hbase : base ≤ w.heap.size)
    (h : ∀ v' w', w'.ownsRow base 87 4 v' (n + m) (xs ++ news) → w.grownBy w' v.ownBlock → (v'.ownBlock = v.ownBlock ∨ v'.ownBlock = some w.heap.size) → K (a.put o.dst v') w') :
    if Region.wanted o (yielded ops a.tmps) = true then Oper.wp Tryz.prog o a w K Q else E := by
  have hw : Region.wanted o (yielded ops a.tmps) = true := by simp [Region.wanted, hgd]
  rw [if_pos hw]
  obtain ⟨i0, hi0, hz0, hz1, hz2⟩ := info_parts role_info
  exact wp_append_at w s x 24 ho base 87 i0 _ 4 72 Tryz.underlying24 hi0 hz0 hz1 hz2 rfl (by omega) v n xs hs hown B A m c news hx hr hm h1 (by unfold maxLen; omega) (by omega) hbase h
end
end Go.Proofs.YtpakjjefbholdaaGreatDoor
