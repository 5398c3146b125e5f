/- Trees in memory: what reads as structs of numbers, texts and rows of structs; calls that write to one block of those there were. -/
import Derived.Test.YteacmanbiamhoaaGreatDoorTa
import Derived.Test.YteacmanbiamhoaaGreatDoorCells
import Derived.Test.YteacmanbiamhoaaGreatDoorOwn2
import Derived.Deep.MidRow
namespace Go.Proofs.YteacmanbiamhoaaGreatDoor
open Go.RowKit
set_option linter.unusedVariables false

/-- A struct: its numbers, texts and rows. -/
inductive Nd
  | num (k : IntKind) (n : Int)
  | str (s : List Nat)
  | row (sz : Nat) (l : List Nd)
  | st (l : List Nd)

mutual
/-- The value v reads as that, in memory of blocks of S. -/
def Rd (w : World) (S : Nat → Prop) : Nd → Value → Prop
  | .num k n, v => v = .int k n
  | .str s, v => v = .string (strOf s) ∧ (∀ y ∈ s, y < 256) ∧ s.length ≤ 140737488355328
  | .row sz l, v => ∃ A c, v = .slice A l.length c ∧ l.length ≤ c ∧ c ≤ maxLen ∧ Rds w S A sz 0 l
  | .st cs, v => ∃ vs, v = .agg vs ∧ Rcs w S cs vs.toList
def Rcs (w : World) (S : Nat → Prop) : List Nd → List Value → Prop
  | [], vs => vs = []
  | c :: r, vs => ∃ v vr, vs = v :: vr ∧ Rd w S c v ∧ Rcs w S r vr
def Rds (w : World) (S : Nat → Prop) (A : Option Addr) (sz : Nat) : Nat → List Nd → Prop
  | _, [] => True
  | i, x :: r => (∃ b o vs, A = some ⟨b, o, none⟩ ∧ S b ∧ vs.length = sz ∧ w.rangeAt b (o + i * sz) vs ∧ Rd w S x (.agg vs.toArray)) ∧ Rds w S A sz (i + 1) r
end

section
variable {w w' : World} {S S' : Nat → Prop}
theorem rangeAt_keep {b o : Nat} {vs : List Value} (h : w.rangeAt b o vs) (hk : ∀ p : Addr, p.block = b → w'.cell? p = w.cell? p) : w'.rangeAt b o vs := fun j u hu => (hk _ rfl).trans (h j u hu)
mutual
theorem Rd.keep (hk : ∀ p : Addr, S p.block → w'.cell? p = w.cell? p) (hS : ∀ b, S b → S' b) : ∀ (x : Nd) (v : Value), Rd w S x v → Rd w' S' x v
  | .num k n, v, h => by
    rw [Rd] at h ⊢
    exact h
  | .str s, v, h => by
    rw [Rd] at h ⊢
    exact h
  | .row sz l, v, h => by
    rw [Rd] at h ⊢
    obtain ⟨A, c, h1, h2, h3, h4⟩ := h
    exact ⟨A, c, h1, h2, h3, Rds.keep hk hS A sz 0 l h4⟩
  | .st cs, v, h => by
    rw [Rd] at h ⊢
    obtain ⟨vs, h1, h2⟩ := h
    exact ⟨vs, h1, Rcs.keep hk hS cs _ h2⟩
theorem Rcs.keep (hk : ∀ p : Addr, S p.block → w'.cell? p = w.cell? p) (hS : ∀ b, S b → S' b) : ∀ (cs : List Nd) (vs : List Value), Rcs w S cs vs → Rcs w' S' cs vs
  | [], vs, h => by
    rw [Rcs] at h ⊢
    exact h
  | c :: r, vs, h => by
    rw [Rcs] at h ⊢
    obtain ⟨v, vr, h1, h2, h3⟩ := h
    exact ⟨v, vr, h1, Rd.keep hk hS c v h2, Rcs.keep hk hS r vr h3⟩
theorem Rds.keep (hk : ∀ p : Addr, S p.block → w'.cell? p = w.cell? p) (hS : ∀ b, S b → S' b) (A : Option Addr) (sz : Nat) : ∀ (i : Nat) (l : List Nd), Rds w S A sz i l → Rds w' S' A sz i l
  | _, [], h => by
    rw [Rds]
    trivial
  | i, x :: r, h => by
    rw [Rds] at h ⊢
    obtain ⟨⟨b, o, vs, h1, h2, h3, h4, h5⟩, h6⟩ := h
    exact ⟨⟨b, o, vs, h1, hS b h2, h3, rangeAt_keep h4 (fun p hp => hk p (hp ▸ h2)), Rd.keep hk hS x _ h5⟩, Rds.keep hk hS A sz (i + 1) r h6⟩
end
theorem Rds.at {A : Option Addr} {sz : Nat} : ∀ {i : Nat} {l : List Nd}, Rds w S A sz i l → ∀ (j : Nat) (x : Nd), l[j]? = some x → ∃ b o vs, A = some ⟨b, o, none⟩ ∧ S b ∧ vs.length = sz ∧ w.rangeAt b (o + (i + j) * sz) vs ∧ Rd w S x (.agg vs.toArray)
  | i, [], h, j, x, hx => by simp at hx
  | i, y :: r, h, 0, x, hx => by
    rw [Rds] at h
    simp at hx
    subst hx
    exact h.1
  | i, y :: r, h, j + 1, x, hx => by
    rw [Rds] at h
    have := Rds.at h.2 j x (by simpa using hx)
    rw [show i + 1 + j = i + (j + 1) by omega] at this
    exact this
theorem Rds.of {A : Option Addr} {sz : Nat} : ∀ {i : Nat} {l : List Nd}, (∀ (j : Nat) (x : Nd), l[j]? = some x → ∃ b o vs, A = some ⟨b, o, none⟩ ∧ S b ∧ vs.length = sz ∧ w.rangeAt b (o + (i + j) * sz) vs ∧ Rd w S x (.agg vs.toArray)) → Rds w S A sz i l
  | i, [], h => by
    rw [Rds]
    trivial
  | i, y :: r, h => by
    rw [Rds]
    refine ⟨h 0 y rfl, Rds.of fun j x hx => ?_⟩
    have := h (j + 1) x (by simpa using hx)
    rw [show i + (j + 1) = i + 1 + j by omega] at this
    exact this
theorem Rd.nil (sz : Nat) : Rd w S (.row sz []) (.slice none 0 0) := by
  rw [Rd]
  refine ⟨none, 0, rfl, Nat.le_refl _, by unfold maxLen; omega, ?_⟩
  rw [Rds]
  trivial
end

/-- Blocks that were made between two worlds. -/
def Nw (w w' : World) (b : Nat) : Prop := w.heap.size ≤ b ∧ b < w'.heap.size
theorem Kp.cellq {q : Nat} {w w' : World} (h : Kp q w w') {p : Addr} (hp : p.block < w.heap.size) (hq : p.block ≠ q) : w'.cell? p = w.cell? p := by
  have := h.block p.block hp (fun e => hq (Option.some.inj e))
  unfold World.cell?
  rw [this]
/-- What was made before a further call, that writes to block q alone, reads as before. -/
theorem Rd.more {q : Nat} {a w w' : World} {x : Nd} {v : Value} (h : Rd w (Nw a w) x v) (hk : Kp q w w') (hq : q < a.heap.size) : Rd w' (Nw a w') x v :=
  Rd.keep (fun p hp => hk.cellq hp.2 (by have := hp.1; omega)) (fun b hb => ⟨hb.1, Nat.lt_of_lt_of_le hb.2 hk.size⟩) x v h
theorem Rd.early {a b w : World} {x : Nd} {v : Value} (h : Rd w (Nw b w) x v) (hs : a.heap.size ≤ b.heap.size) : Rd w (Nw a w) x v :=
  Rd.keep (fun _ _ => rfl) (fun k hk => ⟨Nat.le_trans hs hk.1, hk.2⟩) x v h

/-- The cells xs are the structs l, one behind the other. -/
def Flat (w : World) (S : Nat → Prop) (sz : Nat) (xs : List Value) (l : List Nd) : Prop := xs.length = l.length * sz ∧ ∀ i x, l[i]? = some x → Rd w S x (.agg ((xs.drop (i * sz)).take sz).toArray)
section
variable {w w' : World} {S S' : Nat → Prop} {sz : Nat} {xs : List Value} {l : List Nd}
theorem Flat.nil (w : World) (S : Nat → Prop) (sz : Nat) : Flat w S sz [] [] := ⟨by simp, by simp⟩
theorem Flat.keep (h : Flat w S sz xs l) (hk : ∀ p : Addr, S p.block → w'.cell? p = w.cell? p) (hS : ∀ b, S b → S' b) : Flat w' S' sz xs l := ⟨h.1, fun i x hx => Rd.keep hk hS _ _ (h.2 i x hx)⟩
theorem Flat.snoc (h : Flat w S sz xs l) {vs : List Value} {x : Nd} (hv : vs.length = sz) (hx : Rd w S x (.agg vs.toArray)) : Flat w S sz (xs ++ vs) (l ++ [x]) := by
  have hl := h.1
  refine ⟨by rw [List.length_append, List.length_append, hl, hv, Nat.add_mul]; simp, fun i y hy => ?_⟩
  by_cases hi : i < l.length
  · rw [List.getElem?_append_left hi] at hy
    have h1 : (i + 1) * sz ≤ l.length * sz := Nat.mul_le_mul_right _ hi
    rw [Nat.add_mul, Nat.one_mul] at h1
    rw [List.drop_append_of_le_length (by omega), List.take_append_of_le_length (by rw [List.length_drop]; omega)]
    exact h.2 i y hy
  · obtain rfl : i = l.length := by
      have := (List.getElem?_eq_some_iff.1 hy).1
      simp at this
      omega
    simp at hy
    subst hy
    rw [← hl, List.drop_left, List.take_of_length_le (by omega)]
    exact hx
/-- A row of the call's own reads as its structs. -/
theorem Flat.row (h : Flat w S sz xs l) {base : Nat} {e : TypeId} {v : Value} (ho : w.ownsRow base e sz v l.length xs) (hS : ∀ b, base ≤ b → b < w.heap.size → S b) : Rd w S (.row sz l) v := by
  rw [Rd]
  rcases ho.2 with ⟨h1, h2⟩ | ⟨g, cap, cur, h1, h2, h3, h4, h5, _⟩
  · have : l = [] := List.eq_nil_of_length_eq_zero h2
    subst this
    refine ⟨none, 0, h1, Nat.le_refl _, by unfold maxLen; omega, ?_⟩
    rw [Rds]
    trivial
  · refine ⟨_, cap, h1, h4, h5, Rds.of fun j x hx => ⟨g, 0, (xs.drop (j * sz)).take sz, rfl, hS g h2 (lt_heap h3), ?_, fun k u hu => ?_, h.2 j x hx⟩⟩
    · have hj := (List.getElem?_eq_some_iff.1 hx).1
      have h6 : (j + 1) * sz ≤ l.length * sz := Nat.mul_le_mul_right _ hj
      rw [Nat.add_mul, Nat.one_mul] at h6
      have := h.1
      rw [List.length_take, List.length_drop]
      omega
    · have hk := (List.getElem?_eq_some_iff.1 hu).1
      rw [List.length_take] at hk
      rw [List.getElem?_take_of_lt (by omega), List.getElem?_drop] at hu
      subst h1
      have := World.ownsRow.cells ho rfl (j * sz + k) u hu
      rw [Addr.add_lit] at this
      rw [Nat.zero_add] at this ⊢
      rwa [Nat.zero_add]
end

mutual
def Ex.nd : Ex → Nd
  | .mk k s n l => .st [.num .u8 (k : Int), .str s, .num .i64 n, .row 4 (Ex.nds l)]
def Ex.nds : List Ex → List Nd
  | [] => []
  | x :: r => Ex.nd x :: Ex.nds r
end
mutual
def Sm.nd : Sm → Nd
  | .mk k s x b c ln => .st [.num .u8 (k : Int), .str s, .row 4 (Ex.nds x), .row 6 (Sm.nds b), .row 6 (Sm.nds c), .num .i64 ln]
def Sm.nds : List Sm → List Nd
  | [] => []
  | x :: r => Sm.nd x :: Sm.nds r
end
theorem Ex.nds_eq (l : List Ex) : Ex.nds l = l.map Ex.nd := by
  induction l with
  | nil => rw [Ex.nds]; rfl
  | cons x r ih => rw [Ex.nds, ih]; rfl
theorem Sm.nds_eq (l : List Sm) : Sm.nds l = l.map Sm.nd := by
  induction l with
  | nil => rw [Sm.nds]; rfl
  | cons x r ih => rw [Sm.nds, ih]; rfl
def nmNd (s : List Nat) : Nd := .st [.str s]
def Bd.nd (b : Bd) : Nd := .st [.str b.name, .row 1 (b.ps.map nmNd), .row 6 (b.st.map Sm.nd), .num .i64 b.ln]
def Rl.nd (b : Rl) : Nd := .st [.str b.name, .row 1 (b.ps.map nmNd), .row 4 (b.on.map Bd.nd), .num .i64 b.ln]
def Pg.nd (g : Pg) : Nd := .st [.row 4 (g.fns.map Bd.nd), .row 4 (g.roles.map Rl.nd)]
section
variable {w : World} {S : Nat → Prop}
theorem Ex.rd (k : Nat) (s : List Nat) (n : Int) (l : List Ex) (v : Value) : Rd w S (Ex.nd (.mk k s n l)) v ↔ ∃ y, v = .agg #[.int .u8 (k : Int), .string (strOf s), .int .i64 n, y] ∧ (∀ y ∈ s, y < 256) ∧ s.length ≤ 140737488355328 ∧ Rd w S (.row 4 (l.map Ex.nd)) y := by
  rw [Ex.nd, Ex.nds_eq]
  constructor
  · intro h
    rw [Rd] at h
    obtain ⟨vs, rfl, h⟩ := h
    simp only [Rcs] at h
    obtain ⟨v0, r0, e0, h0, v1, r1, e1, h1, v2, r2, e2, h2, v3, r3, e3, h3, e4⟩ := h
    simp only [Rd] at h0 h1 h2
    obtain ⟨h1, h8, hn⟩ := h1
    subst h0 h1 h2 e1 e2 e3 e4
    obtain ⟨a⟩ := vs
    simp at e0
    subst e0
    exact ⟨v3, rfl, h8, hn, h3⟩
  · rintro ⟨y, rfl, h8, hn, h⟩
    rw [Rd]
    refine ⟨_, rfl, ?_⟩
    simp only [Rcs]
    refine ⟨_, _, rfl, ?_, _, _, rfl, ?_, _, _, rfl, ?_, _, _, rfl, h, rfl⟩
    · rw [Rd]
    · rw [Rd]
      exact ⟨rfl, h8, hn⟩
    · rw [Rd]
theorem Sm.rd (k : Nat) (s : List Nat) (x : List Ex) (b c : List Sm) (ln : Int) (v : Value) : Rd w S (Sm.nd (.mk k s x b c ln)) v ↔ ∃ y z u, v = .agg #[.int .u8 (k : Int), .string (strOf s), y, z, u, .int .i64 ln] ∧ (∀ y ∈ s, y < 256) ∧ s.length ≤ 140737488355328 ∧ Rd w S (.row 4 (x.map Ex.nd)) y ∧ Rd w S (.row 6 (b.map Sm.nd)) z ∧ Rd w S (.row 6 (c.map Sm.nd)) u := by
  rw [Sm.nd, Ex.nds_eq, Sm.nds_eq, Sm.nds_eq]
  constructor
  · intro h
    rw [Rd] at h
    obtain ⟨vs, rfl, h⟩ := h
    simp only [Rcs] at h
    obtain ⟨v0, r0, e0, h0, v1, r1, e1, h1, v2, r2, e2, h2, v3, r3, e3, h3, v4, r4, e4, h4, v5, r5, e5, h5, e6⟩ := h
    simp only [Rd] at h0 h1 h5
    obtain ⟨h1, h8, hn⟩ := h1
    subst h0 h1 h5 e1 e2 e3 e4 e5 e6
    obtain ⟨a⟩ := vs
    simp at e0
    subst e0
    exact ⟨v2, v3, v4, rfl, h8, hn, h2, h3, h4⟩
  · rintro ⟨y, z, u, rfl, h8, hn, h1, h2, h3⟩
    rw [Rd]
    refine ⟨_, rfl, ?_⟩
    simp only [Rcs]
    refine ⟨_, _, rfl, ?_, _, _, rfl, ?_, _, _, rfl, h1, _, _, rfl, h2, _, _, rfl, h3, _, _, rfl, ?_, rfl⟩
    · rw [Rd]
    · rw [Rd]
      exact ⟨rfl, h8, hn⟩
    · rw [Rd]
theorem nm_rd (s : List Nat) (v : Value) : Rd w S (nmNd s) v ↔ v = .agg #[.string (strOf s)] ∧ (∀ y ∈ s, y < 256) ∧ s.length ≤ 140737488355328 := by
  unfold nmNd
  constructor
  · intro h
    rw [Rd] at h
    obtain ⟨vs, rfl, h⟩ := h
    simp only [Rcs] at h
    obtain ⟨v0, r0, e0, h0, e1⟩ := h
    rw [Rd] at h0
    obtain ⟨h1, h8, hn⟩ := h0
    subst h1 e1
    obtain ⟨a⟩ := vs
    simp at e0
    subst e0
    exact ⟨rfl, h8, hn⟩
  · rintro ⟨rfl, h8, hn⟩
    rw [Rd]
    refine ⟨_, rfl, ?_⟩
    simp only [Rcs]
    refine ⟨_, _, rfl, ?_, rfl⟩
    rw [Rd]
    exact ⟨rfl, h8, hn⟩
/-- A struct of four: a name, names, a row, a line. -/
theorem hd_rd (s : List Nat) (ps : List (List Nat)) (sz : Nat) (l : List Nd) (ln : Int) (v : Value) : Rd w S (.st [.str s, .row 1 (ps.map nmNd), .row sz l, .num .i64 ln]) v ↔ ∃ y z, v = .agg #[.string (strOf s), y, z, .int .i64 ln] ∧ (∀ y ∈ s, y < 256) ∧ s.length ≤ 140737488355328 ∧ Rd w S (.row 1 (ps.map nmNd)) y ∧ Rd w S (.row sz l) z := by
  constructor
  · intro h
    rw [Rd] at h
    obtain ⟨vs, rfl, h⟩ := h
    simp only [Rcs] at h
    obtain ⟨v0, r0, e0, h0, v1, r1, e1, h1, v2, r2, e2, h2, v3, r3, e3, h3, e4⟩ := h
    simp only [Rd] at h0 h3
    obtain ⟨h0, h8, hn⟩ := h0
    subst h0 h3 e1 e2 e3 e4
    obtain ⟨a⟩ := vs
    simp at e0
    subst e0
    exact ⟨v1, v2, rfl, h8, hn, h1, h2⟩
  · rintro ⟨y, z, rfl, h8, hn, h1, h2⟩
    rw [Rd]
    refine ⟨_, rfl, ?_⟩
    simp only [Rcs]
    refine ⟨_, _, rfl, ?_, _, _, rfl, h1, _, _, rfl, h2, _, _, rfl, ?_, rfl⟩
    · rw [Rd]
      exact ⟨rfl, h8, hn⟩
    · rw [Rd]
theorem Pg.rd (g : Pg) (v : Value) : Rd w S g.nd v ↔ ∃ y z, v = .agg #[y, z] ∧ Rd w S (.row 4 (g.fns.map Bd.nd)) y ∧ Rd w S (.row 4 (g.roles.map Rl.nd)) z := by
  unfold Pg.nd
  constructor
  · intro h
    rw [Rd] at h
    obtain ⟨vs, rfl, h⟩ := h
    simp only [Rcs] at h
    obtain ⟨v0, r0, e0, h0, v1, r1, e1, h1, e2⟩ := h
    subst e1 e2
    obtain ⟨a⟩ := vs
    simp at e0
    subst e0
    exact ⟨v0, v1, rfl, h0, h1⟩
  · rintro ⟨y, z, rfl, h1, h2⟩
    rw [Rd]
    refine ⟨_, rfl, ?_⟩
    simp only [Rcs]
    exact ⟨_, _, rfl, h1, _, _, rfl, h2, rfl⟩
end
end Go.Proofs.YteacmanbiamhoaaGreatDoor
