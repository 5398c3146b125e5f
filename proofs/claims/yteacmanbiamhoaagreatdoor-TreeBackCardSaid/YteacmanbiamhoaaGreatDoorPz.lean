/- Texts Pa, Pb, Pc, Pd, Pe, Pf, Pg, Ph, Pi, Zt, Zv of this seat in one: see each part. -/
import Derived.Test.YteacmanbiamhoaaGreatDoorTa
namespace Go.Proofs.YteacmanbiamhoaaGreatDoor
set_option linter.unusedVariables false

/-- A token and its line. -/
structure Tw where
  k : Nat
  s : List Nat
  n : Nat
  ln : Nat
deriving DecidableEq
/-- From place e on a text has these tokens, one behind the other. -/
def Toks (T : List Nat) : Nat → List Tw → Prop
  | _, [] => True
  | e, t :: r => e ≤ T.length ∧ ∃ u, tok (T.drop (atW T e)) = some u ∧ t = ⟨u.k, u.s, u.n, lnW T e⟩ ∧ Toks T (atW T e + u.e) r
/-- A parser stands at the first one of these tokens; so many are going on. -/
def St (T : List Nat) (p : Pst) : List Tw → Nat → Prop
  | [], _ => False
  | t :: r, g => p.k = t.k ∧ p.s = t.s ∧ p.n = t.n ∧ p.ln = t.ln ∧ p.er = 0 ∧ p.fl = 0 ∧ p.g = g ∧ Toks T p.e r
section
variable {T : List Nat} {p : Pst} {t u : Tw} {r : List Tw} {g : Nat}
theorem St.step (hT : T.length ≤ 32768) (h : St T p (t :: u :: r) g) : St T (p.step T) (u :: r) g := by
  obtain ⟨h1, h2, h3, h4, h5, h6, h7, h8, tk, h9, h10, h11⟩ := h
  unfold Pst.step
  rw [if_neg (by omega), if_neg (by omega), h9]
  subst h10
  exact ⟨rfl, rfl, rfl, rfl, rfl, rfl, h7, h11⟩
theorem St.one_hit (h : St T p (t :: r) g) {kind : Nat} {says : List (List Nat)} (hk : t.k = kind) (hs : t.s ∈ says) : p.one T kind says = (t.s, p.step T) := by
  obtain ⟨h1, h2, h3⟩ := h
  unfold Pst.one
  rw [h1, h2, if_pos ⟨hk, hs⟩]
theorem St.one_miss (h : St T p (t :: r) g) {kind : Nat} {says : List (List Nat)} (hm : ¬ (t.k = kind ∧ t.s ∈ says)) : p.one T kind says = ([], p) := by
  obtain ⟨h1, h2, h3⟩ := h
  unfold Pst.one
  rw [h1, h2, if_neg hm]
theorem St.must (h : St T p (t :: r) g) {sign : List Nat} (hk : t.k = 5) (hs : t.s = sign) (hn : sign ≠ []) : p.must T sign = (true, p.step T) := by
  unfold Pst.must
  rw [h.one_hit hk (by simp [hs]), if_neg (by rw [hs]; exact hn)]
theorem St.name (h : St T p (t :: r) g) (hk : t.k = 3) : p.name T = (t.s, p.step T) := by
  obtain ⟨h1, h2, h3⟩ := h
  unfold Pst.name
  rw [if_pos (h1.trans hk), h2]
theorem St.begin {ts : List Tw} (h : St T p ts g) (hg : g < 250) : St T p.begin ts (g + 1) := by
  cases ts with
  | nil => exact h.elim
  | cons t r =>
    obtain ⟨h1, h2, h3, h4, h5, h6, h7, h8⟩ := h
    unfold Pst.begin
    rw [if_neg (by omega)]
    exact ⟨h1, h2, h3, h4, h5, h6, by dsimp only; omega, h8⟩
theorem St.fin {ts : List Tw} (h : St T p ts (g + 1)) : St T p.fin ts g := by
  cases ts with
  | nil => exact h.elim
  | cons t r =>
    obtain ⟨h1, h2, h3, h4, h5, h6, h7, h8⟩ := h
    exact ⟨h1, h2, h3, h4, h5, h6, by unfold Pst.fin; dsimp only; omega, h8⟩
theorem St.er (h : St T p (t :: r) g) : p.er = 0 := h.2.2.2.2.1
theorem St.ln (h : St T p (t :: r) g) : p.ln = t.ln := h.2.2.2.1
theorem St.k (h : St T p (t :: r) g) : p.k = t.k := h.1
theorem St.s (h : St T p (t :: r) g) : p.s = t.s := h.2.1
theorem St.n (h : St T p (t :: r) g) : p.n = t.n := h.2.2.1
end

/-! What is written of a tree. -/
def isS (t : Tw) (s : List Nat) : Prop := t.k = 5 ∧ t.s = s
def isK (t : Tw) (s : List Nat) : Prop := t.k = 4 ∧ t.s = s
def isN (t : Tw) (s : List Nat) : Prop := t.k = 3 ∧ t.s = s
def opK : Ex → Bool
  | .mk k _ _ _ => k == 7
def sUn : List (List Nat) := [[45], [33]]
def sTwo : List (List Nat) := sMul ++ sAdd ++ sCmp ++ sAnd ++ sOr
/-- In parentheses. -/
def Par (f : List Tw → Prop) (ts : List Tw) : Prop := ∃ o m c, ts = o :: (m ++ [c]) ∧ isS o [40] ∧ isS c [41] ∧ f m
mutual
/-- An expression is written as these tokens. -/
def RX : Ex → List Tw → Prop
  | .mk k s n l, ts =>
    (k = 1 ∧ s = [] ∧ l = [] ∧ ∃ t, ts = [t] ∧ t.k = 1 ∧ n = (t.n : Int)) ∨
    (k = 2 ∧ s = [] ∧ l = [] ∧ ∃ t, ts = [t] ∧ ((n = 1 ∧ isK t [116, 114, 117, 101]) ∨ (n = 0 ∧ isK t [102, 97, 108, 115, 101]))) ∨
    (k = 3 ∧ n = 0 ∧ l = [] ∧ ∃ t, ts = [t] ∧ t.k = 2 ∧ t.s = s) ∨
    (k = 4 ∧ n = 0 ∧ l = [] ∧ ∃ t, ts = [t] ∧ isN t s) ∨
    (k = 5 ∧ s = [] ∧ n = 0 ∧ l = [] ∧ ∃ t, ts = [t] ∧ isK t [115, 101, 108, 102]) ∨
    (k = 6 ∧ s = [] ∧ n = 0 ∧ l.length ≠ 1 ∧ Par (RXs l) ts) ∨
    (k = 7 ∧ n = 0 ∧ s ∈ sUn ∧ ∃ o a, ts = o :: a ∧ isS o s ∧ RPs l [a]) ∨
    (k = 7 ∧ n = 0 ∧ s ∈ sTwo ∧ ∃ a o b, ts = a ++ o :: b ∧ isS o s ∧ RPs l [a, b]) ∨
    (k = 8 ∧ s = [] ∧ n = 0 ∧ ∃ a o b c, ts = a ++ o :: (b ++ [c]) ∧ isS o [91] ∧ isS c [93] ∧ RPX l a b) ∨
    (k = 9 ∧ s = [] ∧ n = 0 ∧ l.length = 1 ∧ ∃ t a, ts = t :: a ∧ isK t [108, 101, 110] ∧ Par (RXs l) a) ∨
    (k = 10 ∧ n = 0 ∧ ∃ t u a, ts = t :: u :: a ∧ isK t [99, 97, 108, 108] ∧ isN u s ∧ Par (RXs l) a) ∨
    (k = 11 ∧ n = 0 ∧ ∃ t u a, ts = t :: u :: a ∧ isK t [115, 112, 97, 119, 110] ∧ isN u s ∧ Par (RXs l) a)
/-- Expressions with commas between. -/
def RXs : List Ex → List Tw → Prop
  | [], ts => ts = []
  | x :: r, ts => ∃ a b, ts = a ++ b ∧ RX x a ∧ RXr r b
/-- .. each behind a comma. -/
def RXr : List Ex → List Tw → Prop
  | [], ts => ts = []
  | x :: r, ts => ∃ c a b, ts = c :: (a ++ b) ∧ isS c [44] ∧ RX x a ∧ RXr r b
/-- Parts of an operation: another one stands in parentheses. -/
def RPs : List Ex → List (List Tw) → Prop
  | [], tss => tss = []
  | x :: r, tss => ∃ a b, tss = a :: b ∧ ((opK x = false ∧ RX x a) ∨ (opK x = true ∧ Par (RX x) a)) ∧ RPs r b
/-- A part, and any expression. -/
def RPX : List Ex → List Tw → List Tw → Prop
  | [], _, _ => False
  | x :: r, a, b => ((opK x = false ∧ RX x a) ∨ (opK x = true ∧ Par (RX x) a)) ∧ RXs r b ∧ r.length = 1
end
/-- A part. -/
def RP (x : Ex) (a : List Tw) : Prop := (opK x = false ∧ RX x a) ∨ (opK x = true ∧ Par (RX x) a)
theorem RPs_one {l : List Ex} {a : List Tw} (h : RPs l [a]) : ∃ x, l = [x] ∧ RP x a := by
  cases l with
  | nil => rw [RPs] at h; cases h
  | cons x r =>
    rw [RPs] at h
    obtain ⟨a', b, e, h1, h2⟩ := h
    cases e
    cases r with
    | nil => exact ⟨x, rfl, h1⟩
    | cons y q => rw [RPs] at h2; obtain ⟨a, b, e, -⟩ := h2; cases e
theorem RPs_two {l : List Ex} {a b : List Tw} (h : RPs l [a, b]) : ∃ x y, l = [x, y] ∧ RP x a ∧ RP y b := by
  cases l with
  | nil => rw [RPs] at h; cases h
  | cons x r =>
    rw [RPs] at h
    obtain ⟨a', b', e, h1, h2⟩ := h
    cases e
    obtain ⟨y, rfl, h3⟩ := RPs_one h2
    exact ⟨x, y, rfl, h1, h3⟩
theorem RPX_two {l : List Ex} {a b : List Tw} (h : RPX l a b) : ∃ x y, l = [x, y] ∧ RP x a ∧ RX y b := by
  cases l with
  | nil => rw [RPX] at h; exact h.elim
  | cons x r =>
    rw [RPX] at h
    obtain ⟨h1, h2, h3⟩ := h
    obtain ⟨y, rfl⟩ := List.length_eq_one_iff.1 h3
    rw [RXs] at h2
    obtain ⟨c, d, rfl, h4, h5⟩ := h2
    rw [RXr] at h5
    subst h5
    exact ⟨x, y, rfl, h1, by rw [List.append_nil]; exact h4⟩
mutual
/-- How many parts. -/
def szE : Ex → Nat
  | .mk _ _ _ l => 1 + szEs l
def szEs : List Ex → Nat
  | [] => 0
  | x :: r => szE x + szEs r
end
mutual
/-- How deep. -/
def dpE : Ex → Nat
  | .mk _ _ _ l => 1 + dpEs l
def dpEs : List Ex → Nat
  | [] => 0
  | x :: r => max (dpE x) (dpEs r)
end
theorem szE_pos (x : Ex) : 1 ≤ szE x := by
  obtain ⟨k, s, n, l⟩ := x
  rw [szE]
  omega
theorem szEs_len (l : List Ex) : l.length ≤ szEs l := by
  induction l with
  | nil => simp
  | cons x r ih =>
    rw [szEs, List.length_cons]
    have := szE_pos x
    omega
end Go.Proofs.YteacmanbiamhoaaGreatDoor
namespace Go.Proofs.YteacmanbiamhoaaGreatDoor
set_option linter.unusedVariables false

/-- Signs that go on with an expression. -/
def sGo : List (List Nat) := sTwo ++ [[91]]
def Stop (t : Tw) (l : List (List Nat)) : Prop := ¬ (t.k = 5 ∧ t.s ∈ l)
theorem Stop.sub {t : Tw} {l m : List (List Nat)} (h : Stop t m) (hs : ∀ x ∈ l, x ∈ m) : Stop t l := fun ⟨a, b⟩ => h ⟨a, hs _ b⟩
/-- A reader reads x off these tokens, with so many going on at most. -/
def Gets {α : Type} (T : List Nat) (f : Rr α) (x : α) (ts : List Tw) (l : List (List Nat)) (c : Nat) : Prop :=
  ∀ (p : Pst) (g : Nat) (t : Tw) (r : List Tw), St T p (ts ++ t :: r) g → g + c ≤ 250 → Stop t l → ∃ q, f p = some (x, q) ∧ St T q (t :: r) g
section
variable {T : List Nat}
theorem two_pass {f : Rr Ex} {x : Ex} {ts : List Tw} {l sg : List (List Nat)} {c most : Nat} (h : Gets T f x ts l c) (hs : ∀ y ∈ sg, y ∈ l) : Gets T (twosF T f (most + 1) sg) x ts l c := by
  intro p g t r hst hg hstop
  obtain ⟨q, h1, h2⟩ := h p g t r hst hg hstop
  refine ⟨q, ?_, h2⟩
  unfold twosF
  rw [h1]
  dsimp only
  rw [twoF, h2.one_miss (hstop.sub hs), if_pos rfl]
theorem ne_of_mem {s : List Nat} {l : List (List Nat)} (h : s ∈ l) (hl : l.all (fun y => decide (y ≠ [])) = true) : s ≠ [] := of_decide_eq_true (List.all_eq_true.1 hl s h)
theorem two_bin (hT : T.length ≤ 32768) {f : Rr Ex} {x y : Ex} {a b : List Tw} {o : Tw} {s : List Nat} {l l' sg : List (List Nat)} {c most : Nat} (hx : Gets T f x a l' c) (hy : Gets T f y b l c) (ho : isS o s) (hs : s ∈ sg) (hsg : sg.all (fun y => decide (y ≠ [])) = true) (hl' : s ∉ l') (hl : ∀ y ∈ sg, y ∈ l) (hb : b ≠ []) :
    Gets T (twosF T f (most + 1) sg) (.mk 7 s 0 [x, y]) (a ++ o :: b) l c := by
  intro p g t r hst hg hstop
  rw [List.append_assoc, List.cons_append] at hst
  obtain ⟨q, h1, h2⟩ := hx p g o _ hst hg (fun h => hl' (ho.2 ▸ h.2))
  obtain ⟨b0, b1, rfl⟩ : ∃ b0 b1, b = b0 :: b1 := by
    cases b with
    | nil => exact absurd rfl hb
    | cons b0 b1 => exact ⟨b0, b1, rfl⟩
  have h3 := h2.step hT
  obtain ⟨q2, h4, h5⟩ := hy _ g t r h3 hg hstop
  refine ⟨q2, ?_, h5⟩
  unfold twosF
  rw [h1]
  dsimp only
  rw [twoF, h2.one_hit ho.1 (by rw [ho.2]; exact hs), if_neg (by rw [ho.2]; exact ne_of_mem hs hsg)]
  dsimp only
  rw [h4]
  dsimp only
  rw [ho.2]
  cases most with
  | zero => rw [twoF]
  | succ m => rw [twoF, h5.one_miss (hstop.sub hl), if_pos rfl]
/-- No expression is written with nothing. -/
theorem RX_ne {x : Ex} {ts : List Tw} (h : RX x ts) : ts ≠ [] := by
  obtain ⟨k, s, n, l⟩ := x
  rw [RX] at h
  rintro rfl
  rcases h with ⟨-, -, -, t, h, -⟩ | ⟨-, -, -, t, h, -⟩ | ⟨-, -, -, t, h, -⟩ | ⟨-, -, -, t, h, -⟩ | ⟨-, -, -, -, t, h, -⟩ | ⟨-, -, -, -, o, m, c, h, -⟩ | ⟨-, -, -, o, a, h, -⟩ | ⟨-, -, -, a, o, b, h, -⟩ | ⟨-, -, -, a, o, b, c, h, -⟩ | ⟨-, -, -, -, t, a, h, -⟩ | ⟨-, -, t, u, a, h, -⟩ | ⟨-, -, t, u, a, h, -⟩ <;> simp at h
theorem RP_ne {x : Ex} {ts : List Tw} (h : RP x ts) : ts ≠ [] := by
  rcases h with ⟨-, h⟩ | ⟨-, o, m, c, rfl, -⟩
  · exact RX_ne h
  · simp
/-! Lists. -/
theorem more_gets (hT : T.length ≤ 32768) {α : Type} {one : Rr α} {c : Nat} (W : α → List Tw → Prop) (WR : List α → List Tw → Prop) (hnil : ∀ ts, WR [] ts → ts = []) (hcons : ∀ x r ts, WR (x :: r) ts → ∃ o a b, ts = o :: (a ++ b) ∧ isS o [44] ∧ W x a ∧ a ≠ [] ∧ WR r b) :
    ∀ (l : List α) (ts : List Tw) (acc : List α) (m : Nat), WR l ts → (∀ x ∈ l, ∀ a, W x a → Gets T one x a sGo c) → l.length < m →
      ∀ (p : Pst) (g : Nat) (e t : Tw) (r : List Tw), St T p (ts ++ e :: t :: r) g → isS e [41] → g + c ≤ 250 → ∃ q, moreF T one m acc p = some (acc ++ l, q) ∧ St T q (t :: r) g
  | [], ts, acc, m, hw, _, hm, p, g, e, t, r, hst, he, hg => by
    rw [hnil ts hw, List.nil_append] at hst
    obtain ⟨m', rfl⟩ : ∃ m', m = m' + 1 := ⟨m - 1, by simp at hm; omega⟩
    refine ⟨p.step T, ?_, hst.step hT⟩
    rw [moreF, hst.one_miss (fun h => by rw [he.2] at h; exact absurd h.2 (by decide)), if_pos rfl]
    dsimp only
    rw [hst.must he.1 he.2 (by decide), List.append_nil]
  | x :: l, ts, acc, m, hw, hx, hm, p, g, e, t, r, hst, he, hg => by
    obtain ⟨o, a, b, rfl, ho, h1, h2, h3⟩ := hcons x l ts hw
    obtain ⟨m', rfl⟩ : ∃ m', m = m' + 1 := ⟨m - 1, by simp at hm; omega⟩
    have hst' : St T p (o :: (a ++ (b ++ e :: t :: r))) g := by simpa using hst
    obtain ⟨a0, a1, rfl⟩ : ∃ a0 a1, a = a0 :: a1 := by
      cases a with
      | nil => exact absurd rfl h2
      | cons a0 a1 => exact ⟨a0, a1, rfl⟩
    have hs1 := hst'.step hT
    -- what stands behind x
    obtain ⟨z, y, hzy, hz⟩ : ∃ z y, b ++ e :: t :: r = z :: y ∧ Stop z sGo := by
      cases l with
      | nil =>
        rw [hnil b h3]
        exact ⟨e, t :: r, rfl, fun h => by rw [he.2] at h; exact absurd h.2 (by decide)⟩
      | cons x' l' =>
        obtain ⟨o', a', b', rfl, ho', -⟩ := hcons x' l' b h3
        exact ⟨o', _, rfl, fun h => by rw [ho'.2] at h; exact absurd h.2 (by decide)⟩
    rw [hzy] at hs1
    obtain ⟨q, h4, h5⟩ := hx x (by simp) _ h1 _ g z y hs1 hg hz
    rw [← hzy] at h5
    obtain ⟨q2, h6, h7⟩ := more_gets hT W WR hnil hcons l b (acc ++ [x]) m' h3 (fun y hy => hx y (by simp [hy])) (by simp at hm; omega) q g e t r h5 he hg
    refine ⟨q2, ?_, h7⟩
    rw [moreF, hst'.one_hit ho.1 (by simp [ho.2]), if_neg (show ¬ o.s = [] by rw [ho.2]; decide)]
    dsimp only
    rw [h4]
    dsimp only
    rw [h6]
    simp
end
end Go.Proofs.YteacmanbiamhoaaGreatDoor
namespace Go.Proofs.YteacmanbiamhoaaGreatDoor
set_option linter.unusedVariables false

/-- With commas between. -/
def CR {α : Type} (W : α → List Tw → Prop) : List α → List Tw → Prop
  | [], ts => ts = []
  | x :: r, ts => ∃ c a b, ts = c :: (a ++ b) ∧ isS c [44] ∧ W x a ∧ CR W r b
def CS {α : Type} (W : α → List Tw → Prop) : List α → List Tw → Prop
  | [], ts => ts = []
  | x :: r, ts => ∃ a b, ts = a ++ b ∧ W x a ∧ CR W r b
theorem RXr_eq : ∀ (l : List Ex) (ts : List Tw), RXr l ts → CR RX l ts
  | [], ts, h => by rw [RXr] at h; exact h
  | x :: r, ts, h => by
    rw [RXr] at h
    obtain ⟨c, a, b, h1, h2, h3, h4⟩ := h
    exact ⟨c, a, b, h1, h2, h3, RXr_eq r b h4⟩
theorem RXs_eq (l : List Ex) (ts : List Tw) (h : RXs l ts) : CS RX l ts := by
  cases l with
  | nil => rw [RXs] at h; exact h
  | cons x r =>
    rw [RXs] at h
    obtain ⟨a, b, h1, h2, h3⟩ := h
    exact ⟨a, b, h1, h2, RXr_eq r b h3⟩
/-- What is written does not begin with a sign that ends a list. -/
def Hd (a : List Tw) : Prop := ∃ t r, a = t :: r ∧ ¬ (t.k = 5 ∧ t.s = [41])
theorem Hd.app {a : List Tw} (h : Hd a) (b : List Tw) : Hd (a ++ b) := by
  obtain ⟨t, r, rfl, h⟩ := h
  exact ⟨t, r ++ b, rfl, h⟩
theorem Par.hd {f : List Tw → Prop} {a : List Tw} (h : Par f a) : Hd a := by
  obtain ⟨o, m, c, rfl, h1, -⟩ := h
  exact ⟨o, _, rfl, fun h => by rw [h1.2] at h; exact absurd h.2 (by decide)⟩
theorem RX_hd : ∀ (N : Nat) (x : Ex) (a : List Tw), szE x ≤ N → RX x a → Hd a
  | 0, x, a, h, _ => by have := szE_pos x; omega
  | N + 1, .mk k s n l, a, hz, h => by
    rw [RX] at h
    rw [szE] at hz
    have hp : ∀ x ∈ l, ∀ a, RP x a → Hd a := fun x hx a h => by
      rcases h with ⟨-, h⟩ | ⟨-, h⟩
      · refine RX_hd N x a ?_ h
        have : ∀ (l : List Ex), x ∈ l → szE x ≤ szEs l := by
          intro l
          induction l with
          | nil => intro h; cases h
          | cons y r ih =>
            intro h
            rw [szEs]
            rcases List.mem_cons.1 h with rfl | h
            · omega
            · have := ih h; omega
        have := this l hx
        omega
      · exact h.hd
    rcases h with ⟨-, -, -, t, rfl, h1, -⟩ | ⟨-, -, -, t, rfl, h1⟩ | ⟨-, -, -, t, rfl, h1, -⟩ | ⟨-, -, -, t, rfl, h1⟩ | ⟨-, -, -, -, t, rfl, h1⟩ | ⟨-, -, -, -, h1⟩ | ⟨-, -, hs, o, a, rfl, h1, -⟩ | ⟨-, -, -, a, o, b, rfl, h1, h2⟩ | ⟨-, -, -, a, o, b, c, rfl, -, -, h2⟩ | ⟨-, -, -, -, t, a, rfl, h1, -⟩ | ⟨-, -, t, u, a, rfl, h1, -⟩ | ⟨-, -, t, u, a, rfl, h1, -⟩
    · exact ⟨t, [], rfl, fun h => by rw [h1] at h; cases h.1⟩
    · rcases h1 with ⟨-, h1⟩ | ⟨-, h1⟩ <;> exact ⟨t, [], rfl, fun h => by rw [h1.1] at h; cases h.1⟩
    · exact ⟨t, [], rfl, fun h => by rw [h1] at h; cases h.1⟩
    · exact ⟨t, [], rfl, fun h => by rw [h1.1] at h; cases h.1⟩
    · exact ⟨t, [], rfl, fun h => by rw [h1.1] at h; cases h.1⟩
    · exact h1.hd
    · refine ⟨o, a, rfl, fun h => ?_⟩
      rw [h1.2] at h
      rw [h.2] at hs
      exact absurd hs (by decide)
    · obtain ⟨x, y, rfl, h3, -⟩ := RPs_two h2
      exact (hp x (by simp) a h3).app _
    · obtain ⟨x, y, rfl, h3, -⟩ := RPX_two h2
      exact (hp x (by simp) a h3).app _
    · exact ⟨t, _, rfl, fun h => by rw [h1.1] at h; cases h.1⟩
    · exact ⟨t, _, rfl, fun h => by rw [h1.1] at h; cases h.1⟩
    · exact ⟨t, _, rfl, fun h => by rw [h1.1] at h; cases h.1⟩
section
variable {T : List Nat}
theorem Hd.ne {a : List Tw} (h : Hd a) : a ≠ [] := by
  obtain ⟨t, r, rfl, -⟩ := h
  simp
/-- A list in parentheses is read. -/
theorem list_gets (hT : T.length ≤ 32768) {α : Type} {one : Rr α} {c m : Nat} (W : α → List Tw → Prop) (hh : ∀ x a, W x a → Hd a) (l : List α) (ts : List Tw) (hw : Par (CS W l) ts) (hx : ∀ x ∈ l, ∀ a, W x a → Gets T one x a sGo c) (hm : l.length ≤ m)
    (p : Pst) (g : Nat) (t : Tw) (r : List Tw) (hst : St T p (ts ++ t :: r) g) (hg : g + c ≤ 250) : ∃ q, listF T one m p = some (l, q) ∧ St T q (t :: r) g := by
  obtain ⟨o, mid, e, rfl, ho, he, hw⟩ := hw
  have hst' : St T p (o :: (mid ++ e :: t :: r)) g := by simpa using hst
  unfold listF
  rw [hst'.must ho.1 ho.2 (by decide), if_neg (by simp)]
  dsimp only
  cases l with
  | nil =>
    have : mid = [] := hw
    subst this
    have h1 := hst'.step hT
    refine ⟨(p.step T).step T, ?_, h1.step hT⟩
    rw [h1.one_hit he.1 (by simp [he.2]), if_pos (show e.s ≠ [] by rw [he.2]; decide)]
  | cons x l =>
    obtain ⟨a, b, rfl, h1, h2⟩ := hw
    obtain ⟨a0, a1, rfl, h3⟩ := hh x a h1
    have h5' : St T p (o :: a0 :: (a1 ++ (b ++ e :: t :: r))) g := by simpa using hst'
    have h4 : St T (p.step T) (a0 :: a1 ++ (b ++ e :: t :: r)) g := h5'.step hT
    have h5 : St T (p.step T) (a0 :: (a1 ++ (b ++ e :: t :: r))) g := h4
    rw [h5.one_miss (fun h => h3 ⟨h.1, by simpa using h.2⟩), if_neg (by simp)]
    dsimp only
    obtain ⟨z, y, hzy, hz⟩ : ∃ z y, b ++ e :: t :: r = z :: y ∧ Stop z sGo := by
      cases l with
      | nil =>
        have : b = [] := h2
        subst this
        exact ⟨e, t :: r, rfl, fun h => by rw [he.2] at h; exact absurd h.2 (by decide)⟩
      | cons x' l' =>
        obtain ⟨o', a', b', rfl, ho', -⟩ := h2
        exact ⟨o', _, rfl, fun h => by rw [ho'.2] at h; exact absurd h.2 (by decide)⟩
    rw [hzy] at h4
    obtain ⟨q, h6, h7⟩ := hx x (by simp) _ h1 _ g z y h4 hg hz
    rw [← hzy] at h7
    rw [h6]
    dsimp only
    obtain ⟨q2, h8, h9⟩ := more_gets hT W (CR W) (fun _ h => h) (fun x r ts h => by obtain ⟨c, a, b, e1, e2, e3, e4⟩ := h; exact ⟨c, a, b, e1, e2, e3, (hh x a e3).ne, e4⟩) l b [x] m h2 (fun y hy => hx y (by simp [hy])) (by simp at hm; omega) q g e t r h7 he hg
    exact ⟨q2, h8, h9⟩
end
end Go.Proofs.YteacmanbiamhoaaGreatDoor
namespace Go.Proofs.YteacmanbiamhoaaGreatDoor
set_option linter.unusedVariables false

theorem szE_mem {x : Ex} : ∀ {l : List Ex}, x ∈ l → szE x ≤ szEs l
  | [], h => by cases h
  | y :: r, h => by
    rw [szEs]
    rcases List.mem_cons.1 h with rfl | h
    · omega
    · have := szE_mem h; omega
theorem dpE_mem {x : Ex} : ∀ {l : List Ex}, x ∈ l → dpE x ≤ dpEs l
  | [], h => by cases h
  | y :: r, h => by
    rw [dpEs]
    rcases List.mem_cons.1 h with rfl | h
    · omega
    · have := dpE_mem h; omega
theorem dpE_pos (x : Ex) : 1 ≤ dpE x := by
  obtain ⟨k, s, n, l⟩ := x
  rw [dpE]
  omega
/-- All smaller expressions are read by that reader. -/
def Less (T : List Nat) (or : Rr Ex) (N : Nat) : Prop := ∀ y, szE y < N → ∀ ts, RX y ts → Gets T or y ts sGo (3 * dpE y)
section
variable {T : List Nat} {or : Rr Ex} {N : Nat}
theorem Gets.mono {α : Type} {f : Rr α} {x : α} {ts : List Tw} {l : List (List Nat)} {c c' : Nat} (h : Gets T f x ts l c) (hc : c ≤ c') : Gets T f x ts l c' := fun p g t r a b d => h p g t r a (by omega) d
/-- A list of smaller expressions. -/
theorem lists_get (hT : T.length ≤ 32768) (IH : Less T or N) (l : List Ex) (hl : szEs l < N) {m : Nat} (hm : N ≤ m) (ts : List Tw) (h : Par (RXs l) ts) (p : Pst) (g : Nat) (t : Tw) (r : List Tw) (hst : St T p (ts ++ t :: r) g) (hg : g + 3 * dpEs l ≤ 250) : ∃ q, listF T or m p = some (l, q) ∧ St T q (t :: r) g := by
  obtain ⟨o, mid, e, h1, h2, h3, h4⟩ := h
  have hlen := szEs_len l
  refine list_gets hT (c := 3 * dpEs l) (fun x a => RX x a ∧ szE x < N ∧ dpE x ≤ dpEs l) (fun x a h => RX_hd _ x a (Nat.le_refl _) h.1) l ts ⟨o, mid, e, h1, h2, h3, ?_⟩ (fun x hx a h => (IH x h.2.1 a h.1).mono (by have := h.2.2; omega)) (by omega) p g t r hst hg
  have key : ∀ (l' : List Ex) (ts : List Tw), (∀ x ∈ l', x ∈ l) → CR RX l' ts → CR (fun x a => RX x a ∧ szE x < N ∧ dpE x ≤ dpEs l) l' ts := by
    intro l'
    induction l' with
    | nil => intro ts _ h; exact h
    | cons x r ih =>
      intro ts hm h
      obtain ⟨c, a, b, e1, e2, e3, e4⟩ := h
      have hx := hm x (by simp)
      exact ⟨c, a, b, e1, e2, ⟨e3, by have := szE_mem hx; omega, dpE_mem hx⟩, ih b (fun y hy => hm y (by simp [hy])) e4⟩
  have h5 := RXs_eq l mid h4
  cases l with
  | nil => exact h5
  | cons x r =>
    obtain ⟨a, b, e1, e2, e3⟩ := h5
    have hx : x ∈ x :: r := by simp
    exact ⟨a, b, e1, ⟨e2, by have := szE_mem hx; omega, dpE_mem hx⟩, key r b (fun y hy => by simp [hy]) e3⟩
/-- A primary expression. -/
theorem primary_get (hT : T.length ≤ 32768) (IH : Less T or N) (k : Nat) (s : List Nat) (n : Int) (l : List Ex) (hz : szEs l < N) (h7 : k ≠ 7) (h8 : k ≠ 8) (ts : List Tw) (h : RX (.mk k s n l) ts) (p : Pst) (g : Nat) (t : Tw) (r : List Tw) (hst : St T p (ts ++ t :: r) g) (hg : g + 3 * dpEs l ≤ 250) :
    ∃ q, primaryF T or N p = some (.mk k s n l, q) ∧ St T q (t :: r) g := by
  rw [RX] at h
  unfold primaryF
  rcases h with ⟨rfl, rfl, rfl, u, rfl, h1, rfl⟩ | ⟨rfl, rfl, rfl, u, rfl, h1⟩ | ⟨rfl, rfl, rfl, u, rfl, h1, rfl⟩ | ⟨rfl, rfl, rfl, u, rfl, h1, rfl⟩ | ⟨rfl, rfl, rfl, rfl, u, rfl, h1⟩ | ⟨rfl, rfl, rfl, hne, h1⟩ | ⟨rfl, -⟩ | ⟨rfl, -⟩ | ⟨rfl, -⟩ | ⟨rfl, rfl, rfl, hl1, u, a, rfl, h1, h2⟩ | ⟨rfl, rfl, u, v, a, rfl, h1, h3, h2⟩ | ⟨rfl, rfl, u, v, a, rfl, h1, h3, h2⟩
  · refine ⟨p.step T, ?_, St.step hT hst⟩
    rw [if_pos (hst.k.trans h1), hst.n]
  · have hs : St T (p.step T) (t :: r) g := St.step hT hst
    have hk : p.k = 4 := hst.k.trans (by rcases h1 with ⟨-, h1⟩ | ⟨-, h1⟩ <;> exact h1.1)
    rw [if_neg (by omega), if_neg (by omega), if_neg (by omega), if_pos hk]
    unfold keyedF
    rcases h1 with ⟨rfl, h1⟩ | ⟨rfl, h1⟩
    · rw [St.one_hit hst h1.1 (by rw [h1.2]; decide)]
      dsimp only
      rw [if_pos h1.2]
      exact ⟨_, rfl, hs⟩
    · rw [St.one_hit hst h1.1 (by rw [h1.2]; decide)]
      dsimp only
      rw [h1.2, if_neg (by decide), if_pos rfl]
      exact ⟨_, rfl, hs⟩
  · refine ⟨p.step T, ?_, St.step hT hst⟩
    have hk : p.k = 2 := hst.k.trans h1
    rw [if_neg (by omega), if_pos hk, hst.s]
  · refine ⟨p.step T, ?_, St.step hT hst⟩
    have hk : p.k = 3 := hst.k.trans h1
    rw [if_neg (by omega), if_neg (by omega), if_pos hk, hst.s]
  · have hs : St T (p.step T) (t :: r) g := St.step hT hst
    have hk : p.k = 4 := hst.k.trans h1.1
    rw [if_neg (by omega), if_neg (by omega), if_neg (by omega), if_pos hk]
    unfold keyedF
    rw [St.one_hit hst h1.1 (by rw [h1.2]; decide)]
    dsimp only
    rw [h1.2, if_neg (by decide), if_neg (by decide), if_pos rfl]
    exact ⟨_, rfl, hs⟩
  · obtain ⟨q, h2, h3⟩ := lists_get hT IH l hz (Nat.le_refl _) ts h1 p g t r hst hg
    obtain ⟨o, mid, e, rfl, ho, -⟩ := h1
    have hk : p.k = 5 := (St.k hst).trans ho.1
    rw [if_neg (by omega), if_neg (by omega), if_neg (by omega), if_neg (by omega), h2]
    refine ⟨q, ?_, h3⟩
    dsimp only
    unfold tupF
    split
    · simp at hne
    · rfl
  · exact absurd rfl h7
  · exact absurd rfl h7
  · exact absurd rfl h8
  · have hk : p.k = 4 := (St.k hst).trans h1.1
    rw [if_neg (by omega), if_neg (by omega), if_neg (by omega), if_pos hk]
    unfold keyedF
    obtain ⟨o, mid, e, rfl, ho, he, h5⟩ := h2
    obtain ⟨x, rfl⟩ := List.length_eq_one_iff.1 hl1
    rw [RXs] at h5
    obtain ⟨a, b, rfl, h6, h7'⟩ := h5
    rw [RXr] at h7'
    subst h7'
    have hst1 : St T p (u :: o :: (a ++ e :: t :: r)) g := by simpa using hst
    have hst2 := hst1.step hT
    obtain ⟨a0, a1, rfl, -⟩ := RX_hd _ x a (Nat.le_refl _) h6
    have hst3 : St T ((p.step T).step T) (a0 :: a1 ++ e :: t :: r) g := hst2.step hT
    obtain ⟨q, h8', h9⟩ := IH x (by simp [szEs] at hz; omega) _ h6 _ g e (t :: r) hst3 (by simp [dpEs] at hg; omega) (fun h => by rw [he.2] at h; exact absurd h.2 (by decide))
    rw [St.one_hit hst1 h1.1 (by rw [h1.2]; decide)]
    dsimp only
    rw [h1.2, if_neg (by decide), if_neg (by decide), if_neg (by decide), if_pos rfl, hst2.must ho.1 ho.2 (by decide)]
    dsimp only
    rw [h8']
    dsimp only
    rw [h9.must he.1 he.2 (by decide)]
    exact ⟨_, rfl, h9.step hT⟩
  all_goals
    have hk : p.k = 4 := (St.k hst).trans h1.1
    rw [if_neg (by omega), if_neg (by omega), if_neg (by omega), if_pos hk]
    unfold keyedF withF
    have hst1 : St T p (u :: v :: (a ++ t :: r)) g := by simpa using hst
    have hst2 := hst1.step hT
    obtain ⟨a0, a1, rfl, -⟩ := h2.hd
    have hst3 : St T ((p.step T).step T) (a0 :: a1 ++ t :: r) g := hst2.step hT
    obtain ⟨q, h8', h9⟩ := lists_get hT IH l hz (Nat.le_refl _) _ h2 _ g t r hst3 hg
    rw [St.one_hit hst1 h1.1 (by rw [h1.2]; decide)]
    dsimp only
    rw [h1.2]
    simp only [show ([99, 97, 108, 108] : List Nat) = [116, 114, 117, 101] ↔ False by decide, show ([99, 97, 108, 108] : List Nat) = [102, 97, 108, 115, 101] ↔ False by decide, show ([99, 97, 108, 108] : List Nat) = [115, 101, 108, 102] ↔ False by decide, show ([99, 97, 108, 108] : List Nat) = [108, 101, 110] ↔ False by decide, show ([115, 112, 97, 119, 110] : List Nat) = [116, 114, 117, 101] ↔ False by decide, show ([115, 112, 97, 119, 110] : List Nat) = [102, 97, 108, 115, 101] ↔ False by decide, show ([115, 112, 97, 119, 110] : List Nat) = [115, 101, 108, 102] ↔ False by decide, show ([115, 112, 97, 119, 110] : List Nat) = [108, 101, 110] ↔ False by decide, show ([115, 112, 97, 119, 110] : List Nat) = [99, 97, 108, 108] ↔ False by decide, if_false, if_true]
    rw [hst2.name h3.1]
    dsimp only
    rw [h8']
    dsimp only
    rw [h3.2]
    exact ⟨_, rfl, h9⟩
end
end Go.Proofs.YteacmanbiamhoaaGreatDoor
namespace Go.Proofs.YteacmanbiamhoaaGreatDoor
set_option linter.unusedVariables false

/-- What is no operation does not begin with a sign of one. -/
theorem RX_hd2 : ∀ (N : Nat) (x : Ex) (a : List Tw), szE x ≤ N → opK x = false → RX x a → ∃ t r, a = t :: r ∧ ¬ (t.k = 5 ∧ t.s ∈ sUn)
  | 0, x, a, h, _, _ => by have := szE_pos x; omega
  | N + 1, .mk k s n l, a, hz, ho, h => by
    rw [RX] at h
    rw [szE] at hz
    have h7 : k ≠ 7 := fun e => by subst e; cases ho
    rcases h with ⟨-, -, -, t, rfl, h1, -⟩ | ⟨-, -, -, t, rfl, h1⟩ | ⟨-, -, -, t, rfl, h1, -⟩ | ⟨-, -, -, t, rfl, h1⟩ | ⟨-, -, -, -, t, rfl, h1⟩ | ⟨-, -, -, -, h1⟩ | ⟨e, -⟩ | ⟨e, -⟩ | ⟨-, -, -, a, o, b, c, rfl, -, -, h2⟩ | ⟨-, -, -, -, t, a, rfl, h1, -⟩ | ⟨-, -, t, u, a, rfl, h1, -⟩ | ⟨-, -, t, u, a, rfl, h1, -⟩
    · exact ⟨t, [], rfl, fun h => by rw [h1] at h; cases h.1⟩
    · rcases h1 with ⟨-, h1⟩ | ⟨-, h1⟩ <;> exact ⟨t, [], rfl, fun h => by rw [h1.1] at h; cases h.1⟩
    · exact ⟨t, [], rfl, fun h => by rw [h1] at h; cases h.1⟩
    · exact ⟨t, [], rfl, fun h => by rw [h1.1] at h; cases h.1⟩
    · exact ⟨t, [], rfl, fun h => by rw [h1.1] at h; cases h.1⟩
    · obtain ⟨o, m, c, rfl, h3, -⟩ := h1
      exact ⟨o, _, rfl, fun h => by rw [h3.2] at h; exact absurd h.2 (by decide)⟩
    · exact absurd e h7
    · exact absurd e h7
    · obtain ⟨x, y, rfl, h3, -⟩ := RPX_two h2
      rcases h3 with ⟨h4, h5⟩ | ⟨-, o', m, c', rfl, h5, -⟩
      · obtain ⟨t, r, rfl, h6⟩ := RX_hd2 N x a (by simp [szEs] at hz; omega) h4 h5
        exact ⟨t, _, rfl, h6⟩
      · exact ⟨o', _, rfl, fun h => by rw [h5.2] at h; exact absurd h.2 (by decide)⟩
    · exact ⟨t, _, rfl, fun h => by rw [h1.1] at h; cases h.1⟩
    · exact ⟨t, _, rfl, fun h => by rw [h1.1] at h; cases h.1⟩
    · exact ⟨t, _, rfl, fun h => by rw [h1.1] at h; cases h.1⟩
section
variable {T : List Nat} {or : Rr Ex} {N : Nat}
/-- A part that is small enough. -/
def Pt (N : Nat) (x : Ex) (ts : List Tw) : Prop := (opK x = false ∧ RX x ts ∧ szE x ≤ N) ∨ (opK x = true ∧ Par (RX x) ts ∧ szE x < N)
theorem Pt.of {x : Ex} {ts : List Tw} (h : RP x ts) (hz : szE x < N) : Pt N x ts := by
  rcases h with ⟨a, b⟩ | ⟨a, b⟩
  · exact .inl ⟨a, b, by omega⟩
  · exact .inr ⟨a, b, hz⟩
theorem Pt.hd {x : Ex} {ts : List Tw} (h : Pt N x ts) : ∃ t r, ts = t :: r ∧ ¬ (t.k = 5 ∧ t.s ∈ sUn) := by
  rcases h with ⟨a, b, -⟩ | ⟨-, ⟨o, m, c, rfl, h, -⟩, -⟩
  · exact RX_hd2 _ x ts (Nat.le_refl _) a b
  · exact ⟨o, _, rfl, fun e => by rw [h.2] at e; exact absurd e.2 (by decide)⟩
theorem post_get (hT : T.length ≤ 32768) (IH : Less T or N) : ∀ (M : Nat) (x : Ex), szE x ≤ M → ∀ ts, Pt N x ts → ∀ p g t r, St T p (ts ++ t :: r) g → (opK x = false → g + 3 * dpE x ≤ 253) → (opK x = true → g + 3 * dpE x ≤ 250) →
    ∃ q m, postF T or N p = placesF T or (m + 1) x q ∧ N ≤ m + szE x ∧ St T q (t :: r) g
  | 0, x, h => by have := szE_pos x; omega
  | M + 1, x, hM => fun ts h p g t r hst hg1 hg2 => by
    rcases h with ⟨ho, h, hz⟩ | ⟨ho, h, hz⟩
    · obtain ⟨k, s, n, l⟩ := x
      have hg := hg1 ho
      rw [szE] at hz hM
      rw [dpE] at hg
      by_cases h8 : k = 8
      · subst h8
        rw [RX] at h
        simp only [show ((8 : Nat) = 1) = False by simp, show ((8 : Nat) = 2) = False by simp, show ((8 : Nat) = 3) = False by simp, show ((8 : Nat) = 4) = False by simp, show ((8 : Nat) = 5) = False by simp, show ((8 : Nat) = 6) = False by simp, show ((8 : Nat) = 7) = False by simp, show ((8 : Nat) = 9) = False by simp, show ((8 : Nat) = 10) = False by simp, show ((8 : Nat) = 11) = False by simp, false_and, false_or, or_false, true_and] at h
        obtain ⟨rfl, rfl, a, o, b, c, rfl, h1, h2, h3⟩ := h
        obtain ⟨x, y, rfl, h4, h5⟩ := RPX_two h3
        simp only [szEs, dpEs] at hz hM hg
        have hpx := szE_pos x
        have hpy := szE_pos y
        have hst1 : St T p (a ++ o :: (b ++ c :: t :: r)) g := by simpa using hst
        obtain ⟨q1, m1, e1, e2, e3⟩ := post_get hT IH M x (by omega) a (Pt.of h4 (by omega)) p g o _ hst1 (fun _ => by omega) (fun _ => by omega)
        obtain ⟨b0, b1, rfl, -⟩ := RX_hd _ y b (Nat.le_refl _) h5
        have hst2 : St T (q1.step T) (b0 :: b1 ++ c :: t :: r) g := e3.step hT
        obtain ⟨q2, e4, e5⟩ := IH y (by omega) _ h5 _ g c (t :: r) hst2 (by omega) (fun h => by rw [h2.2] at h; exact absurd h.2 (by decide))
        obtain ⟨m2, rfl⟩ : ∃ m2, m1 = m2 + 1 := ⟨m1 - 1, by omega⟩
        refine ⟨q2.step T, m2, ?_, by simp only [szE, szEs]; omega, e5.step hT⟩
        rw [e1, placesF, e3.one_hit h1.1 (by simp [h1.2]), if_neg (show ¬ o.s = [] by rw [h1.2]; decide)]
        dsimp only
        rw [e4]
        dsimp only
        rw [e5.must h2.1 h2.2 (by decide)]
      · obtain ⟨q, h1, h2⟩ := primary_get hT IH k s n l (by omega) (fun e => by subst e; cases ho) h8 ts h p g t r hst (by omega)
        obtain ⟨N', rfl⟩ : ∃ N', N = N' + 1 := ⟨N - 1, by omega⟩
        refine ⟨q, N', ?_, by rw [szE]; omega, h2⟩
        unfold postF
        rw [h1]
    · have hg := hg2 ho
      obtain ⟨N', rfl⟩ : ∃ N', N = N' + 1 := ⟨N - 1, by omega⟩
      have h' : Par (RXs [x]) ts := by
        obtain ⟨o, m, c, h1, h2, h3, h4⟩ := h
        refine ⟨o, m, c, h1, h2, h3, ?_⟩
        rw [RXs]
        exact ⟨m, [], by simp, h4, by rw [RXr]⟩
      obtain ⟨q, h1, h2⟩ := lists_get hT IH [x] (by simp [szEs]; omega) (Nat.le_refl _) ts h' p g t r hst (by simp [dpEs]; omega)
      obtain ⟨o, mid, e, rfl, h3, -⟩ := h
      have hk : p.k = 5 := (St.k hst).trans h3.1
      refine ⟨q, N', ?_, by have := szE_pos x; omega, h2⟩
      unfold postF primaryF
      rw [if_neg (by omega), if_neg (by omega), if_neg (by omega), if_neg (by omega), h1]
      rfl
/-- A part is read by the rule of one. -/
theorem part_get (hT : T.length ≤ 32768) (IH : Less T or N) {x : Ex} {ts : List Tw} (h : Pt N x ts) (j : Nat) {l : List (List Nat)} (hl : [91] ∈ l) {c : Nat} (hc1 : opK x = false → 3 * dpE x ≤ c + 2) (hc2 : opK x = true → 3 * dpE x + 1 ≤ c) (hc : 1 ≤ c) : Gets T (unaryF T or N (j + 1)) x ts l c := by
  intro p g t r hst hg hstop
  obtain ⟨t0, r0, rfl, h0⟩ := h.hd
  have hb := hst.begin (by omega)
  obtain ⟨q, m, h1, h2, h3⟩ := post_get hT IH _ x (Nat.le_refl _) _ h _ _ t r hb (fun e => by have := hc1 e; omega) (fun e => by have := hc2 e; omega)
  refine ⟨q.fin, ?_, h3.fin⟩
  have hb' : St T p.begin (t0 :: (r0 ++ t :: r)) (g + 1) := hb
  rw [unaryF, hb'.one_miss (show ¬ (t0.k = 5 ∧ t0.s ∈ [[45], [33]]) from h0), if_neg (by simp)]
  dsimp only
  rw [h1, placesF, h3.one_miss (fun e => hstop ⟨e.1, by rw [List.mem_singleton.1 e.2]; exact hl⟩), if_pos rfl]
/-- A sign of one and a part are read by the rule of one. -/
theorem one_get (hT : T.length ≤ 32768) (IH : Less T or N) {y : Ex} {s : List Nat} {o : Tw} {a : List Tw} (ho : isS o s) (hs : s ∈ sUn) (h : Pt N y a) (j : Nat) {l : List (List Nat)} (hl : [91] ∈ l) : Gets T (unaryF T or N (j + 2)) (.mk 7 s 0 [y]) (o :: a) l (3 * dpE y + 2) := by
  intro p g t r hst hg hstop
  have hb := hst.begin (by omega)
  obtain ⟨t0, r0, rfl, h0⟩ := h.hd
  have hb' : St T p.begin (o :: t0 :: (r0 ++ t :: r)) (g + 1) := hb
  have h1 : St T (p.begin.step T) (t0 :: r0 ++ t :: r) (g + 1) := hb'.step hT
  obtain ⟨q, h2, h3⟩ := part_get hT IH h j hl (c := 3 * dpE y + 1) (fun _ => by omega) (fun _ => by omega) (by omega) _ _ t r h1 (by omega) hstop
  refine ⟨q.fin, ?_, h3.fin⟩
  rw [unaryF, hb'.one_hit ho.1 (by rw [ho.2]; exact hs), if_pos (show o.s ≠ [] by rw [ho.2]; exact ne_of_mem hs (by decide))]
  dsimp only
  rw [h2, ho.2]
theorem Gets.sub {α : Type} {f : Rr α} {x : α} {ts : List Tw} {l l' : List (List Nat)} {c : Nat} (h : Gets T f x ts l c) (hs : ∀ y ∈ l, y ∈ l') : Gets T f x ts l' c := fun p g t r a b d => h p g t r a b (d.sub hs)
end
/-- All that is written of an expression is read as it. -/
theorem reads {T : List Nat} (hT : T.length ≤ 32768) : ∀ N, Less T (orF T N) N
  | 0 => fun x h => by omega
  | N + 1 => fun x hx ts h => by
    have IH := reads hT N
    have hor : orF T (N + 1) = twosF T (twosF T (twosF T (twosF T (twosF T (unaryF T (orF T N) N N) 32768 sMul) 32768 sAdd) 1 sCmp) 32768 sAnd) 32768 sOr := by
      funext p
      rw [orF]
    rw [hor]
    have hp := szE_pos x
    have hdp := dpE_pos x
    obtain ⟨N', rfl⟩ : ∃ N', N = N' + 1 := ⟨N - 1, by omega⟩
    -- what is read by the rule of one
    have up : ∀ {ts : List Tw}, Gets T (unaryF T (orF T (N' + 1)) (N' + 1) (N' + 1)) x ts sGo (3 * dpE x) → Gets T (twosF T (twosF T (twosF T (twosF T (twosF T (unaryF T (orF T (N' + 1)) (N' + 1) (N' + 1)) 32768 sMul) 32768 sAdd) 1 sCmp) 32768 sAnd) 32768 sOr) x ts sGo (3 * dpE x) := fun h =>
      two_pass (two_pass (two_pass (two_pass (two_pass h (by decide)) (by decide)) (by decide)) (by decide)) (by decide)
    cases ho : opK x with
    | false => exact up (part_get hT IH (.inl ⟨ho, h, by omega⟩) N' (by decide) (fun _ => by omega) (fun e => by rw [ho] at e; cases e) (by omega))
    | true =>
      obtain ⟨k, s, n, l⟩ := x
      have h7 : k = 7 := by simpa [opK] using ho
      subst h7
      rw [RX] at h
      simp only [show ((7 : Nat) = 1) = False by simp, show ((7 : Nat) = 2) = False by simp, show ((7 : Nat) = 3) = False by simp, show ((7 : Nat) = 4) = False by simp, show ((7 : Nat) = 5) = False by simp, show ((7 : Nat) = 6) = False by simp, show ((7 : Nat) = 8) = False by simp, show ((7 : Nat) = 9) = False by simp, show ((7 : Nat) = 10) = False by simp, show ((7 : Nat) = 11) = False by simp, false_and, false_or, or_false, true_and] at h
      rcases h with ⟨rfl, hs, o, a, rfl, h1, h2⟩ | ⟨rfl, hs, a, o, b, rfl, h1, h2⟩
      · obtain ⟨y, rfl, h3⟩ := RPs_one h2
        have hy := szE_pos y
        simp only [szE, szEs] at hx
        obtain ⟨N'', rfl⟩ : ∃ N'', N' = N'' + 1 := ⟨N' - 1, by omega⟩
        exact up ((one_get hT IH h1 hs (Pt.of h3 (by omega)) N'' (by decide)).mono (by simp only [dpE, dpEs]; omega))
      · obtain ⟨y, z, rfl, h3, h4⟩ := RPs_two h2
        have hy := szE_pos y
        have hz := szE_pos z
        simp only [szE, szEs] at hx
        have hb : b ≠ [] := by
          intro e
          subst e
          rcases h4 with ⟨-, h⟩ | ⟨-, h⟩
          · exact RX_ne h rfl
          · obtain ⟨o, m, c, h, -⟩ := h; cases h
        have hd : dpE (.mk 7 s 0 [y, z]) = 1 + max (dpE y) (max (dpE z) 0) := by simp only [dpE, dpEs]
        have gy : ∀ (l : List (List Nat)), [91] ∈ l → Gets T (unaryF T (orF T (N' + 1)) (N' + 1) (N' + 1)) y a l (3 * dpE (.mk 7 s 0 [y, z])) := fun l hl => part_get hT IH (Pt.of h3 (by omega)) N' hl (fun _ => by omega) (fun _ => by omega) (by omega)
        have gz : ∀ (l : List (List Nat)), [91] ∈ l → Gets T (unaryF T (orF T (N' + 1)) (N' + 1) (N' + 1)) z b l (3 * dpE (.mk 7 s 0 [y, z])) := fun l hl => part_get hT IH (Pt.of h4 (by omega)) N' hl (fun _ => by omega) (fun _ => by omega) (by omega)
        generalize dpE (.mk 7 s 0 [y, z]) = D at *
        have hs' : s ∈ sMul ∨ s ∈ sAdd ∨ s ∈ sCmp ∨ s ∈ sAnd ∨ s ∈ sOr := by
          simpa [sTwo, or_assoc] using hs
        have out : ∀ (m l : List (List Nat)), m.all (fun y => decide (y ∉ l)) = true → s ∈ m → s ∉ l := fun m l h hm => of_decide_eq_true (List.all_eq_true.1 h s hm)
        rcases hs' with hs' | hs' | hs' | hs' | hs'
        · exact two_pass (two_pass (two_pass (two_pass (two_bin hT (gy [[91]] (by decide)) (gz sGo (by decide)) h1 hs' (by decide) (out sMul _ (by decide) hs') (by decide) hb) (by decide)) (by decide)) (by decide)) (by decide)
        · exact two_pass (two_pass (two_pass (two_bin hT (two_pass (gy ([[91]] ++ sMul) (by decide)) (by decide)) (two_pass (gz sGo (by decide)) (by decide)) h1 hs' (by decide) (out sAdd _ (by decide) hs') (by decide) hb) (by decide)) (by decide)) (by decide)
        · exact two_pass (two_pass (two_bin hT (two_pass (two_pass (gy ([[91]] ++ sMul ++ sAdd) (by decide)) (by decide)) (by decide)) (two_pass (two_pass (gz sGo (by decide)) (by decide)) (by decide)) h1 hs' (by decide) (out sCmp _ (by decide) hs') (by decide) hb) (by decide)) (by decide)
        · exact two_pass (two_bin hT (two_pass (two_pass (two_pass (gy ([[91]] ++ sMul ++ sAdd ++ sCmp) (by decide)) (by decide)) (by decide)) (by decide)) (two_pass (two_pass (two_pass (gz sGo (by decide)) (by decide)) (by decide)) (by decide)) h1 hs' (by decide) (out sAnd _ (by decide) hs') (by decide) hb) (by decide)
        · exact two_bin hT (two_pass (two_pass (two_pass (two_pass (gy ([[91]] ++ sMul ++ sAdd ++ sCmp ++ sAnd) (by decide)) (by decide)) (by decide)) (by decide)) (by decide)) (two_pass (two_pass (two_pass (two_pass (gz sGo (by decide)) (by decide)) (by decide)) (by decide)) (by decide)) h1 hs' (by decide) (out sOr _ (by decide) hs') (by decide) hb
end Go.Proofs.YteacmanbiamhoaaGreatDoor
namespace Go.Proofs.YteacmanbiamhoaaGreatDoor
set_option linter.unusedVariables false

def kLet : List Nat := [108, 101, 116]
def kSet : List Nat := [115, 101, 116]
def kIf : List Nat := [105, 102]
def kWhile : List Nat := [119, 104, 105, 108, 101]
def kReturn : List Nat := [114, 101, 116, 117, 114, 110]
def kSend : List Nat := [115, 101, 110, 100]
def kBecome : List Nat := [98, 101, 99, 111, 109, 101]
def kStop : List Nat := [115, 116, 111, 112]
def kElse : List Nat := [101, 108, 115, 101]
/-- In braces. -/
def Brc (f : List Tw → Prop) (ts : List Tw) : Prop := ∃ o m c, ts = o :: (m ++ [c]) ∧ isS o [123] ∧ isS c [125] ∧ f m
mutual
/-- A statement is written as these tokens. -/
def RS : Sm → List Tw → Prop
  | .mk k s x b e ln, ts =>
    (∃ t r, ts = t :: r ∧ ln = (t.ln : Int)) ∧
    ((k = 1 ∧ b = [] ∧ e = [] ∧ ∃ t u v a w y, ts = t :: u :: v :: (a ++ [w]) ∧ isK t kLet ∧ isN u s ∧ isS v [61] ∧ x = [y] ∧ RX y a ∧ isS w [59]) ∨
     (k = 2 ∧ b = [] ∧ e = [] ∧ ∃ t u v a w y, ts = t :: u :: v :: (a ++ [w]) ∧ isK t kSet ∧ isN u s ∧ isS v [61] ∧ x = [y] ∧ RX y a ∧ isS w [59]) ∨
     (k = 3 ∧ s = [] ∧ ∃ t o a c B R y, ts = t :: o :: (a ++ c :: (B ++ R)) ∧ isK t kIf ∧ isS o [40] ∧ x = [y] ∧ RX y a ∧ isS c [41] ∧ Brc (RSs b) B ∧ ((e = [] ∧ R = []) ∨ ∃ u E, R = u :: E ∧ isK u kElse ∧ Brc (RSs e) E)) ∨
     (k = 4 ∧ s = [] ∧ e = [] ∧ ∃ t o a c B y, ts = t :: o :: (a ++ c :: B) ∧ isK t kWhile ∧ isS o [40] ∧ x = [y] ∧ RX y a ∧ isS c [41] ∧ Brc (RSs b) B) ∨
     (k = 5 ∧ s = [] ∧ b = [] ∧ e = [] ∧ ∃ t a w y, ts = t :: (a ++ [w]) ∧ isK t kReturn ∧ x = [y] ∧ RX y a ∧ isS w [59]) ∨
     (k = 6 ∧ b = [] ∧ e = [] ∧ ∃ t a u L w y l, ts = t :: (a ++ u :: (L ++ [w])) ∧ isK t kSend ∧ x = y :: l ∧ RP y a ∧ isN u s ∧ Par (RXs l) L ∧ isS w [59]) ∨
     (k = 7 ∧ b = [] ∧ e = [] ∧ ∃ t u L w, ts = t :: u :: (L ++ [w]) ∧ isK t kBecome ∧ isN u s ∧ Par (RXs x) L ∧ isS w [59]) ∨
     (k = 8 ∧ s = [] ∧ x = [] ∧ b = [] ∧ e = [] ∧ ∃ t w, ts = [t, w] ∧ isK t kStop ∧ isS w [59]) ∨
     (k = 9 ∧ s = [] ∧ b = [] ∧ e = [] ∧ ∃ a w y, ts = a ++ [w] ∧ x = [y] ∧ RX y a ∧ isS w [59]))
/-- Statements, one behind the other. -/
def RSs : List Sm → List Tw → Prop
  | [], ts => ts = []
  | x :: r, ts => ∃ a b, ts = a ++ b ∧ RS x a ∧ RSs r b
end
mutual
def szS : Sm → Nat
  | .mk _ _ x b e _ => 1 + szEs x + szSs b + szSs e
def szSs : List Sm → Nat
  | [] => 0
  | x :: r => szS x + szSs r
end
mutual
/-- How many are going on in it. -/
def dpS : Sm → Nat
  | .mk _ _ x b e _ => 1 + max (3 * dpEs x) (max (dpSs b) (dpSs e))
def dpSs : List Sm → Nat
  | [] => 0
  | x :: r => max (dpS x) (dpSs r)
end
mutual
/-- How deep bodies stand in it. -/
def htS : Sm → Nat
  | .mk _ _ _ b e _ => 1 + max (htSs b) (htSs e)
def htSs : List Sm → Nat
  | [] => 0
  | x :: r => max (htS x) (htSs r)
end
theorem szS_mem {x : Sm} : ∀ {l : List Sm}, x ∈ l → szS x ≤ szSs l
  | [], h => by cases h
  | y :: r, h => by
    rw [szSs]
    rcases List.mem_cons.1 h with rfl | h
    · omega
    · have := szS_mem h; omega
theorem dpS_mem {x : Sm} : ∀ {l : List Sm}, x ∈ l → dpS x ≤ dpSs l
  | [], h => by cases h
  | y :: r, h => by
    rw [dpSs]
    rcases List.mem_cons.1 h with rfl | h
    · omega
    · have := dpS_mem h; omega
theorem htS_mem {x : Sm} : ∀ {l : List Sm}, x ∈ l → htS x ≤ htSs l
  | [], h => by cases h
  | y :: r, h => by
    rw [htSs]
    rcases List.mem_cons.1 h with rfl | h
    · omega
    · have := htS_mem h; omega
theorem szSs_len (l : List Sm) : l.length ≤ szSs l := by
  induction l with
  | nil => simp
  | cons x r ih =>
    obtain ⟨k, s, x, b, e, ln⟩ := x
    rw [szSs, szS, List.length_cons]
    omega
/-- What no statement begins with. -/
def Bg (t : Tw) : Prop := ¬ (t.k = 5 ∧ t.s ∈ [[125]]) ∧ ¬ (t.k = 4 ∧ t.s ∈ [kElse])
theorem RX_hd3 : ∀ (N : Nat) (x : Ex) (a : List Tw), szE x ≤ N → RX x a → ∃ t r, a = t :: r ∧ ¬ (t.k = 5 ∧ t.s ∈ [[125]]) ∧ ¬ (t.k = 4 ∧ t.s ∈ kElse :: keysS)
  | 0, x, a, h, _ => by have := szE_pos x; omega
  | N + 1, .mk k s n l, a, hz, h => by
    rw [RX] at h
    rw [szE] at hz
    have hp : ∀ x ∈ l, ∀ a, RP x a → ∃ t r, a = t :: r ∧ ¬ (t.k = 5 ∧ t.s ∈ [[125]]) ∧ ¬ (t.k = 4 ∧ t.s ∈ kElse :: keysS) := fun x hx a h => by
      have := szE_mem hx
      rcases h with ⟨-, h⟩ | ⟨-, o, m, c, rfl, h1, -⟩
      · exact RX_hd3 N x a (by omega) h
      · exact ⟨o, _, rfl, fun h => by rw [h1.2] at h; exact absurd h.2 (by decide), (fun h => by rw [h1.1] at h; cases h.1)⟩
    rcases h with ⟨-, -, -, t, rfl, h1, -⟩ | ⟨-, -, -, t, rfl, h1⟩ | ⟨-, -, -, t, rfl, h1, -⟩ | ⟨-, -, -, t, rfl, h1⟩ | ⟨-, -, -, -, t, rfl, h1⟩ | ⟨-, -, -, -, o, m, c, rfl, h1, -⟩ | ⟨-, -, hs, o, a, rfl, h1, -⟩ | ⟨-, -, -, a, o, b, rfl, h1, h2⟩ | ⟨-, -, -, a, o, b, c, rfl, -, -, h2⟩ | ⟨-, -, -, -, t, a, rfl, h1, -⟩ | ⟨-, -, t, u, a, rfl, h1, -⟩ | ⟨-, -, t, u, a, rfl, h1, -⟩
    · exact ⟨t, [], rfl, (fun h => by rw [h1] at h; cases h.1), (fun h => by rw [h1] at h; cases h.1)⟩
    · rcases h1 with ⟨-, h1⟩ | ⟨-, h1⟩ <;> exact ⟨t, [], rfl, (fun h => by rw [h1.1] at h; cases h.1), fun h => by rw [h1.2] at h; exact absurd h.2 (by decide)⟩
    · exact ⟨t, [], rfl, (fun h => by rw [h1] at h; cases h.1), (fun h => by rw [h1] at h; cases h.1)⟩
    · exact ⟨t, [], rfl, (fun h => by rw [h1.1] at h; cases h.1), (fun h => by rw [h1.1] at h; cases h.1)⟩
    · exact ⟨t, [], rfl, (fun h => by rw [h1.1] at h; cases h.1), fun h => by rw [h1.2] at h; exact absurd h.2 (by decide)⟩
    · exact ⟨o, _, rfl, fun h => by rw [h1.2] at h; exact absurd h.2 (by decide), (fun h => by rw [h1.1] at h; cases h.1)⟩
    · refine ⟨o, a, rfl, fun h => ?_, (fun h => by rw [h1.1] at h; cases h.1)⟩
      rw [h1.2] at h
      rw [List.mem_singleton.1 h.2] at hs
      exact absurd hs (by decide)
    · obtain ⟨x, y, rfl, h3, -⟩ := RPs_two h2
      obtain ⟨t, r, rfl, h4⟩ := hp x (by simp) a h3
      exact ⟨t, _, rfl, h4⟩
    · obtain ⟨x, y, rfl, h3, -⟩ := RPX_two h2
      obtain ⟨t, r, rfl, h4⟩ := hp x (by simp) a h3
      exact ⟨t, _, rfl, h4⟩
    · exact ⟨t, _, rfl, (fun h => by rw [h1.1] at h; cases h.1), fun h => by rw [h1.2] at h; exact absurd h.2 (by decide)⟩
    · exact ⟨t, _, rfl, (fun h => by rw [h1.1] at h; cases h.1), fun h => by rw [h1.2] at h; exact absurd h.2 (by decide)⟩
    · exact ⟨t, _, rfl, (fun h => by rw [h1.1] at h; cases h.1), fun h => by rw [h1.2] at h; exact absurd h.2 (by decide)⟩
theorem RS_hd {x : Sm} {a : List Tw} (h : RS x a) : ∃ t r, a = t :: r ∧ Bg t := by
  obtain ⟨k, s, x, b, e, ln⟩ := x
  rw [RS] at h
  have key : ∀ {t : Tw} {q : List Nat}, isK t q → q ≠ kElse → Bg t := fun h h' => ⟨(fun e => by rw [h.1] at e; cases e.1), fun e => by rw [h.2] at e; exact h' (List.mem_singleton.1 e.2)⟩
  rcases h.2 with ⟨-, -, -, t, u, v, a, w, y, rfl, h1, -⟩ | ⟨-, -, -, t, u, v, a, w, y, rfl, h1, -⟩ | ⟨-, -, t, o, a, c, B, R, y, rfl, h1, -⟩ | ⟨-, -, -, t, o, a, c, B, y, rfl, h1, -⟩ | ⟨-, -, -, -, t, a, w, y, rfl, h1, -⟩ | ⟨-, -, -, t, a, u, L, w, y, l, rfl, h1, -⟩ | ⟨-, -, -, t, u, L, w, rfl, h1, -⟩ | ⟨-, -, -, -, -, t, w, rfl, h1, -⟩ | ⟨-, -, -, -, a, w, y, rfl, -, h1, -⟩
  · exact ⟨t, _, rfl, key h1 (by decide)⟩
  · exact ⟨t, _, rfl, key h1 (by decide)⟩
  · exact ⟨t, _, rfl, key h1 (by decide)⟩
  · exact ⟨t, _, rfl, key h1 (by decide)⟩
  · exact ⟨t, _, rfl, key h1 (by decide)⟩
  · exact ⟨t, _, rfl, key h1 (by decide)⟩
  · exact ⟨t, _, rfl, key h1 (by decide)⟩
  · exact ⟨t, _, rfl, key h1 (by decide)⟩
  · obtain ⟨t, r, rfl, h2, h3⟩ := RX_hd3 _ y a (Nat.le_refl _) h1
    exact ⟨t, _, rfl, h2, fun h => h3 ⟨h.1, List.mem_cons.2 (.inl (List.mem_singleton.1 h.2))⟩⟩
/-- A statement is read by that reader. -/
def GetsS (T : List Nat) (f : Rr Sm) (x : Sm) : Prop := ∀ ts, RS x ts → ∀ p g t r, St T p (ts ++ t :: r) g → g + dpS x ≤ 250 → ¬ (t.k = 4 ∧ t.s ∈ [kElse]) → ∃ q, f p = some (x, q) ∧ St T q (t :: r) g
section
variable {T : List Nat}
theorem stmts_get (hT : T.length ≤ 32768) {f : Rr Sm} : ∀ (l : List Sm) (ts : List Tw) (acc : List Sm) (m : Nat), RSs l ts → (∀ x ∈ l, GetsS T f x) → l.length < m → ∀ (p : Pst) (g : Nat) (e t : Tw) (r : List Tw), St T p (ts ++ e :: t :: r) g → isS e [125] → g + dpSs l ≤ 250 → ∃ q, stmtsF T f m acc p = some (acc ++ l, q) ∧ St T q (t :: r) g
  | [], ts, acc, m, hw, _, hm, p, g, e, t, r, hst, he, hg => by
    rw [RSs] at hw
    subst hw
    obtain ⟨m', rfl⟩ : ∃ m', m = m' + 1 := ⟨m - 1, by simp at hm; omega⟩
    have hst' : St T p (e :: t :: r) g := hst
    refine ⟨p.step T, ?_, hst'.step hT⟩
    rw [stmtsF, if_neg (by rw [hst'.er]; simp), hst'.one_hit he.1 (by simp [he.2]), if_pos (show e.s ≠ [] by rw [he.2]; decide), List.append_nil]
  | x :: l, ts, acc, m, hw, hx, hm, p, g, e, t, r, hst, he, hg => by
    rw [RSs] at hw
    obtain ⟨a, b, rfl, h1, h2⟩ := hw
    obtain ⟨m', rfl⟩ : ∃ m', m = m' + 1 := ⟨m - 1, by simp at hm; omega⟩
    rw [dpSs] at hg
    obtain ⟨t0, r0, rfl, h3, h4⟩ := RS_hd h1
    have hst' : St T p (t0 :: r0 ++ (b ++ e :: t :: r)) g := by simpa using hst
    obtain ⟨z, y, hzy, hz⟩ : ∃ z y, b ++ e :: t :: r = z :: y ∧ ¬ (z.k = 4 ∧ z.s ∈ [kElse]) := by
      cases l with
      | nil =>
        rw [RSs] at h2
        subst h2
        exact ⟨e, t :: r, rfl, (fun h => by rw [he.1] at h; cases h.1)⟩
      | cons x' l' =>
        rw [RSs] at h2
        obtain ⟨a', b', rfl, h5, -⟩ := h2
        obtain ⟨t1, r1, rfl, -, h6⟩ := RS_hd h5
        exact ⟨t1, _, rfl, h6⟩
    have hst2 := hst'
    rw [hzy] at hst'
    obtain ⟨q, h5, h6⟩ := hx x (by simp) _ h1 p g z y hst' (by omega) hz
    rw [← hzy] at h6
    obtain ⟨q2, h7, h8⟩ := stmts_get hT l b (acc ++ [x]) m' h2 (fun y hy => hx y (by simp [hy])) (by simp at hm; omega) q g e t r h6 he (by omega)
    refine ⟨q2, ?_, h8⟩
    have hst3 : St T p (t0 :: (r0 ++ (b ++ e :: t :: r))) g := hst2
    rw [stmtsF, if_neg (by rw [hst3.er]; simp), hst3.one_miss h3, if_neg (by simp)]
    dsimp only
    rw [h5]
    dsimp only
    rw [h7]
    simp
theorem body_get (hT : T.length ≤ 32768) {f : Rr Sm} (l : List Sm) (ts : List Tw) (m : Nat) (hw : Brc (RSs l) ts) (hx : ∀ x ∈ l, GetsS T f x) (hm : l.length < m) (p : Pst) (g : Nat) (t : Tw) (r : List Tw) (hst : St T p (ts ++ t :: r) g) (hg : g + dpSs l ≤ 250) : ∃ q, bodyF T f m p = some (l, q) ∧ St T q (t :: r) g := by
  obtain ⟨o, mid, e, rfl, ho, he, hw⟩ := hw
  have hst1 : St T p (o :: (mid ++ e :: t :: r)) g := by simpa using hst
  have hst2 : St T (p.step T) (mid ++ e :: t :: r) g := by
    cases mid with
    | nil => exact hst1.step hT
    | cons a b => exact hst1.step hT
  obtain ⟨q, h1, h2⟩ := stmts_get hT l mid [] m hw hx hm _ g e t r hst2 he hg
  refine ⟨q, ?_, h2⟩
  unfold bodyF
  rw [hst1.must ho.1 ho.2 (by decide)]
  exact h1
end
end Go.Proofs.YteacmanbiamhoaaGreatDoor
namespace Go.Proofs.YteacmanbiamhoaaGreatDoor
set_option linter.unusedVariables false

theorem kindF_of {t : Tw} {q : List Nat} (h : isK t q) : kindF t.s = kindF q := by rw [h.2]
section
variable {T : List Nat} {or : Rr Ex} {N : Nat}
theorem go_signs {w : Tw} {s : List Nat} (h : isS w s) (hs : s ∉ sGo) : Stop w sGo := fun e => by rw [h.2] at e; exact hs e.2
/-- What stands behind a statement's key is read. -/
theorem stmtK_get (hT : T.length ≤ 32768) (IH : Less T or N) (body : Rr (List Sm)) (x : Sm) (ln : Nat) (ts : List Tw) (h : RS x ts)
    (hb : ∀ l B, szSs l < szS x → htSs l < htS x → dpSs l < dpS x → Brc (RSs l) B → ∀ p g t r, St T p (B ++ t :: r) g → g + dpSs l ≤ 250 → ∃ q, body p = some (l, q) ∧ St T q (t :: r) g)
    (hz : szS x < N) (p : Pst) (g : Nat) (t : Tw) (r : List Tw) (hst : St T p (ts ++ t :: r) g) (hg : g + dpS x ≤ 251) (ht : ¬ (t.k = 4 ∧ t.s ∈ [kElse])) (hln : p.ln = ln) :
    ∃ q, stmtK T or body N (kindF (p.one T 4 keysS).1) ln (p.one T 4 keysS).2 = some (x, q) ∧ St T q (t :: r) g := by
  obtain ⟨k, s, x, b, e, l0⟩ := x
  rw [RS] at h
  obtain ⟨⟨t0, r0, e0, hl0⟩, h⟩ := h
  have hl0' : l0 = (ln : Int) := by
    subst e0
    rw [hl0, ← hln, St.ln hst]
  clear hl0
  subst hl0'
  simp only [szS] at hz hb
  simp only [dpS] at hg hb
  simp only [htS] at hb
  unfold stmtK
  rcases h with ⟨rfl, rfl, rfl, u, v, w, a, z, y, rfl, h1, h2, h3, rfl, h4, h5⟩ | ⟨rfl, rfl, rfl, u, v, w, a, z, y, rfl, h1, h2, h3, rfl, h4, h5⟩ | ⟨rfl, rfl, u, o, a, c, B, R, y, rfl, h1, h2, rfl, h4, h5, h6, h7⟩ | ⟨rfl, rfl, rfl, u, o, a, c, B, y, rfl, h1, h2, rfl, h4, h5, h6⟩ | ⟨rfl, rfl, rfl, rfl, u, a, z, y, rfl, h1, rfl, h4, h5⟩ | ⟨rfl, rfl, rfl, u, a, v, L, z, y, l, rfl, h1, rfl, h4, h3, h2, h5⟩ | ⟨rfl, rfl, rfl, u, v, L, z, rfl, h1, h3, h2, h5⟩ | ⟨rfl, rfl, rfl, rfl, rfl, u, z, rfl, h1, h5⟩ | ⟨rfl, rfl, rfl, rfl, a, z, y, rfl, rfl, h4, h5⟩
  · have hst1 : St T p (u :: v :: w :: (a ++ z :: t :: r)) g := by simpa using hst
    have hst2 := hst1.step hT
    have hst3 := hst2.step hT
    obtain ⟨a0, a1, rfl, -⟩ := RX_hd _ y a (Nat.le_refl _) h4
    have hst4 : St T (((p.step T).step T).step T) (a0 :: a1 ++ z :: t :: r) g := hst3.step hT
    simp only [szEs, dpEs] at hz hg
    obtain ⟨q, h6, h7⟩ := IH y (by omega) _ h4 _ g z (t :: r) hst4 (by omega) (go_signs h5 (by decide))
    rw [hst1.one_hit h1.1 (by rw [h1.2]; decide), kindF_of h1, show kindF kLet = 1 from rfl, if_pos (by decide)]
    dsimp only
    rw [hst2.name h2.1]
    dsimp only
    rw [hst3.must h3.1 h3.2 (by decide)]
    dsimp only
    rw [h6]
    dsimp only
    rw [h7.must h5.1 h5.2 (by decide), h2.2]
    exact ⟨_, rfl, h7.step hT⟩
  · have hst1 : St T p (u :: v :: w :: (a ++ z :: t :: r)) g := by simpa using hst
    have hst2 := hst1.step hT
    have hst3 := hst2.step hT
    obtain ⟨a0, a1, rfl, -⟩ := RX_hd _ y a (Nat.le_refl _) h4
    have hst4 : St T (((p.step T).step T).step T) (a0 :: a1 ++ z :: t :: r) g := hst3.step hT
    simp only [szEs, dpEs] at hz hg
    obtain ⟨q, h6, h7⟩ := IH y (by omega) _ h4 _ g z (t :: r) hst4 (by omega) (go_signs h5 (by decide))
    rw [hst1.one_hit h1.1 (by rw [h1.2]; decide), kindF_of h1, show kindF kSet = 2 from rfl, if_pos (by decide)]
    dsimp only
    rw [hst2.name h2.1]
    dsimp only
    rw [hst3.must h3.1 h3.2 (by decide)]
    dsimp only
    rw [h6]
    dsimp only
    rw [h7.must h5.1 h5.2 (by decide), h2.2]
    exact ⟨_, rfl, h7.step hT⟩
  · have hst1 : St T p (u :: o :: (a ++ c :: (B ++ (R ++ t :: r)))) g := by simpa using hst
    have hst2 := hst1.step hT
    obtain ⟨a0, a1, rfl, -⟩ := RX_hd _ y a (Nat.le_refl _) h4
    have hst3 : St T ((p.step T).step T) (a0 :: a1 ++ c :: (B ++ (R ++ t :: r))) g := hst2.step hT
    simp only [szEs, dpEs] at hz hg
    obtain ⟨q, h8, h9⟩ := IH y (by omega) _ h4 _ g c _ hst3 (by omega) (go_signs h5 (by decide))
    obtain ⟨o', m', c', rfl, h10⟩ := h6
    have hst4 : St T (q.step T) (o' :: (m' ++ [c']) ++ (R ++ t :: r)) g := h9.step hT
    rw [hst1.one_hit h1.1 (by rw [h1.2]; decide), kindF_of h1, show kindF kIf = 3 from rfl, if_neg (by decide), if_pos (by decide)]
    dsimp only
    unfold branchF
    rw [hst2.must h2.1 h2.2 (by decide)]
    dsimp only
    rw [h8]
    dsimp only
    rw [h9.must h5.1 h5.2 (by decide)]
    dsimp only
    rcases h7 with ⟨rfl, rfl⟩ | ⟨u', E, rfl, h13, h14⟩
    · obtain ⟨q2, h11, h12⟩ := hb b _ (by omega) (by omega) (by omega) ⟨o', m', c', rfl, h10⟩ _ g t r hst4 (by omega)
      rw [h11]
      dsimp only
      rw [if_pos rfl, h12.one_miss (show ¬ (t.k = 4 ∧ t.s ∈ [[101, 108, 115, 101]]) from ht), if_neg (by simp)]
      exact ⟨_, rfl, h12⟩
    · have hst5 : St T (q.step T) (o' :: (m' ++ [c']) ++ u' :: (E ++ t :: r)) g := hst4
      obtain ⟨q2, h11, h12⟩ := hb b _ (by omega) (by omega) (by omega) ⟨o', m', c', rfl, h10⟩ _ g u' _ hst5 (by omega)
      obtain ⟨o2, m2, c2, rfl, h15⟩ := h14
      have h16 : St T (q2.step T) (o2 :: (m2 ++ [c2]) ++ t :: r) g := h12.step hT
      obtain ⟨q3, h17, h18⟩ := hb e _ (by omega) (by omega) (by omega) ⟨o2, m2, c2, rfl, h15⟩ _ g t r h16 (by omega)
      rw [h11]
      dsimp only
      rw [if_pos rfl, h12.one_hit h13.1 (show u'.s ∈ [[101, 108, 115, 101]] by rw [h13.2]; decide), if_pos (show u'.s ≠ [] by rw [h13.2]; decide)]
      dsimp only
      rw [h17]
      exact ⟨_, rfl, h18⟩
  · have hst1 : St T p (u :: o :: (a ++ c :: (B ++ t :: r))) g := by simpa using hst
    have hst2 := hst1.step hT
    obtain ⟨a0, a1, rfl, -⟩ := RX_hd _ y a (Nat.le_refl _) h4
    have hst3 : St T ((p.step T).step T) (a0 :: a1 ++ c :: (B ++ t :: r)) g := hst2.step hT
    simp only [szEs, dpEs] at hz hg
    obtain ⟨q, h8, h9⟩ := IH y (by omega) _ h4 _ g c _ hst3 (by omega) (go_signs h5 (by decide))
    obtain ⟨o', m', c', rfl, h10⟩ := h6
    have hst4 : St T (q.step T) (o' :: (m' ++ [c']) ++ t :: r) g := h9.step hT
    rw [hst1.one_hit h1.1 (by rw [h1.2]; decide), kindF_of h1, show kindF kWhile = 4 from rfl, if_neg (by decide), if_pos (by decide)]
    dsimp only
    unfold branchF
    rw [hst2.must h2.1 h2.2 (by decide)]
    dsimp only
    rw [h8]
    dsimp only
    rw [h9.must h5.1 h5.2 (by decide)]
    dsimp only
    obtain ⟨q2, h11, h12⟩ := hb b _ (by omega) (by omega) (by omega) ⟨o', m', c', rfl, h10⟩ _ g t r hst4 (by omega)
    rw [h11]
    dsimp only
    rw [if_neg (by decide)]
    exact ⟨_, rfl, h12⟩
  · have hst1 : St T p (u :: (a ++ z :: t :: r)) g := by simpa using hst
    obtain ⟨a0, a1, rfl, -⟩ := RX_hd _ y a (Nat.le_refl _) h4
    have hst4 : St T (p.step T) (a0 :: a1 ++ z :: t :: r) g := hst1.step hT
    simp only [szEs, dpEs] at hz hg
    obtain ⟨q, h6, h7⟩ := IH y (by omega) _ h4 _ g z (t :: r) hst4 (by omega) (go_signs h5 (by decide))
    rw [hst1.one_hit h1.1 (by rw [h1.2]; decide), kindF_of h1, show kindF kReturn = 5 from rfl, if_neg (by decide), if_neg (by decide), if_pos (by decide)]
    dsimp only
    rw [h6]
    dsimp only
    rw [h7.must h5.1 h5.2 (by decide)]
    exact ⟨_, rfl, h7.step hT⟩
  · have hst1 : St T p (u :: (a ++ v :: (L ++ z :: t :: r))) g := by simpa using hst
    simp only [szEs, dpEs] at hz hg
    obtain ⟨a0, a1, rfl, -⟩ := (Pt.of h4 (show szE y < N by omega)).hd
    have hst2 : St T (p.step T) (a0 :: a1 ++ v :: (L ++ z :: t :: r)) g := hst1.step hT
    obtain ⟨q, m, h6, h7, h8⟩ := post_get hT IH _ y (Nat.le_refl _) _ (Pt.of h4 (by omega)) _ g v _ hst2 (fun _ => by omega) (fun _ => by omega)
    obtain ⟨L0, L1, rfl, -⟩ := h2.hd
    have h9 : St T (q.step T) (L0 :: L1 ++ z :: t :: r) g := h8.step hT
    obtain ⟨q2, h10, h11⟩ := lists_get hT IH l (by omega) (Nat.le_refl _) _ h2 _ g z _ h9 (by omega)
    rw [hst1.one_hit h1.1 (by rw [h1.2]; decide), kindF_of h1, show kindF kSend = 6 from rfl, if_neg (by decide), if_neg (by decide), if_neg (by decide), if_pos (by decide)]
    dsimp only
    rw [h6, placesF, h8.one_miss (fun e => by rw [h3.1] at e; cases e.1), if_pos rfl]
    dsimp only
    rw [h8.name h3.1]
    dsimp only
    rw [h10]
    dsimp only
    rw [h11.must h5.1 h5.2 (by decide), h3.2]
    exact ⟨_, rfl, h11.step hT⟩
  · have hst1 : St T p (u :: v :: (L ++ z :: t :: r)) g := by simpa using hst
    have hst2 := hst1.step hT
    obtain ⟨L0, L1, rfl, -⟩ := h2.hd
    have h9 : St T ((p.step T).step T) (L0 :: L1 ++ z :: t :: r) g := hst2.step hT
    obtain ⟨q2, h10, h11⟩ := lists_get hT IH x (by omega) (Nat.le_refl _) _ h2 _ g z _ h9 (by omega)
    rw [hst1.one_hit h1.1 (by rw [h1.2]; decide), kindF_of h1, show kindF kBecome = 7 from rfl, if_neg (by decide), if_neg (by decide), if_neg (by decide), if_neg (by decide), if_pos rfl]
    dsimp only
    rw [hst2.name h3.1]
    dsimp only
    rw [h10]
    dsimp only
    rw [h11.must h5.1 h5.2 (by decide), h3.2]
    exact ⟨_, rfl, h11.step hT⟩
  · have hst1 : St T p (u :: z :: t :: r) g := hst
    have hst2 := hst1.step hT
    rw [hst1.one_hit h1.1 (by rw [h1.2]; decide), kindF_of h1, show kindF kStop = 8 from rfl, if_neg (by decide), if_neg (by decide), if_neg (by decide), if_neg (by decide), if_neg (by decide)]
    dsimp only
    rw [hst2.must h5.1 h5.2 (by decide)]
    exact ⟨_, rfl, hst2.step hT⟩
  · obtain ⟨a0, a1, rfl, h8, h9⟩ := RX_hd3 _ y a (Nat.le_refl _) h4
    have hst4 : St T p (a0 :: a1 ++ z :: t :: r) g := by simpa using hst
    have hst1 : St T p (a0 :: (a1 ++ z :: t :: r)) g := hst4
    simp only [szEs, dpEs] at hz hg
    obtain ⟨q, h6, h7⟩ := IH y (by omega) _ h4 _ g z (t :: r) hst4 (by omega) (go_signs h5 (by decide))
    rw [hst1.one_miss (fun e => h9 ⟨e.1, List.mem_cons.2 (.inr e.2)⟩), show kindF [] = 9 from rfl, if_neg (by decide), if_neg (by decide), if_pos (by decide)]
    dsimp only
    rw [h6]
    dsimp only
    rw [h7.must h5.1 h5.2 (by decide)]
    exact ⟨_, rfl, h7.step hT⟩
/-- All that is written of a statement is read as it. -/
theorem stmt_get (hT : T.length ≤ 32768) (IH : Less T or N) : ∀ (j : Nat) (x : Sm), htS x ≤ j → szS x < N → GetsS T (stmtF T or N j) x
  | 0, .mk k s x b e ln => fun h => by rw [htS] at h; omega
  | j + 1, x => fun hj hz ts h p g t r hst hg ht => by
    have hpos : 1 ≤ dpS x := by obtain ⟨k, s, x, b, e, ln⟩ := x; rw [dpS]; omega
    have hb := hst.begin (by omega)
    obtain ⟨t0, r0, rfl, -⟩ := RS_hd h
    have hln : p.begin.ln = p.ln := by
      have h1 : p.ln = t0.ln := St.ln hst
      have h2 : p.begin.ln = t0.ln := St.ln hb
      rw [h1, h2]
    obtain ⟨q, h1, h2⟩ := stmtK_get hT IH (bodyF T (stmtF T or N j) N) x p.ln _ h (fun l B hl1 hl2 hl3 hB p g t r hst hg => body_get hT l B N hB (fun y hy => stmt_get hT IH j y (by have := htS_mem hy; omega) (by have := szS_mem hy; omega)) (by have := szSs_len l; omega) p g t r hst hg) hz p.begin (g + 1) t r hb (by omega) ht hln
    refine ⟨q.fin, ?_, h2.fin⟩
    rw [stmtF, h1]
end
end Go.Proofs.YteacmanbiamhoaaGreatDoor
namespace Go.Proofs.YteacmanbiamhoaaGreatDoor
set_option linter.unusedVariables false

def nmW (s : List Nat) (a : List Tw) : Prop := ∃ t, a = [t] ∧ isN t s
/-- A function or a body behind its key. -/
def RBd (b : Bd) (ts : List Tw) : Prop := ∃ u L B, ts = u :: (L ++ B) ∧ isN u b.name ∧ Par (CS nmW b.ps) L ∧ Brc (RSs b.st) B
def kOn : List Nat := [111, 110]
/-- What an actor does at messages. -/
def ROs : List Bd → List Tw → Prop
  | [], ts => ts = []
  | b :: r, ts => ∃ k a c, ts = k :: (a ++ c) ∧ isK k kOn ∧ b.ln = (k.ln : Int) ∧ RBd b a ∧ ROs r c
def RRl (b : Rl) (ts : List Tw) : Prop := ∃ u L B, ts = u :: (L ++ B) ∧ isN u b.name ∧ Par (CS nmW b.ps) L ∧ Brc (ROs b.on) B
/-- A function or an actor. -/
inductive It
  | fn (b : Bd)
  | ac (b : Rl)
def RIt : List It → List Tw → Prop
  | [], ts => ts = []
  | .fn b :: r, ts => ∃ k a c, ts = k :: (a ++ c) ∧ isK k kFn ∧ b.ln = (k.ln : Int) ∧ RBd b a ∧ RIt r c
  | .ac b :: r, ts => ∃ k a c, ts = k :: (a ++ c) ∧ isK k kAc ∧ b.ln = (k.ln : Int) ∧ RRl b a ∧ RIt r c
def itG (g : Pg) : List It → Pg
  | [] => g
  | .fn b :: r => itG ⟨g.fns ++ [b], g.roles⟩ r
  | .ac b :: r => itG ⟨g.fns, g.roles ++ [b]⟩ r
/-- A body is small enough. -/
def OkBn (N : Nat) (b : Bd) : Prop := szSs b.st < N ∧ dpSs b.st ≤ 250 ∧ b.ps.length ≤ N
def OkRn (N : Nat) (b : Rl) : Prop := b.on.length < N ∧ b.ps.length ≤ N ∧ ∀ x ∈ b.on, OkBn N x
def OkI (N : Nat) : It → Prop
  | .fn b => OkBn N b
  | .ac b => OkRn N b
theorem htS_le (N : Nat) : ∀ (x : Sm), szS x ≤ N → htS x ≤ szS x ∧ ∀ l : List Sm, szSs l ≤ N → htSs l ≤ szSs l := by
  induction N with
  | zero =>
    rintro ⟨k, s, x, b, e, ln⟩ h
    rw [szS] at h
    omega
  | succ N ih =>
    have key : ∀ l : List Sm, szSs l ≤ N → htSs l ≤ szSs l := by
      intro l
      induction l with
      | nil => intro _; simp [htSs]
      | cons x r ihl =>
        intro h
        rw [szSs] at h
        rw [htSs, szSs]
        have h1 := (ih x (by omega)).1
        have h2 := ihl (by omega)
        omega
    have key1 : ∀ x : Sm, szS x ≤ N + 1 → htS x ≤ szS x := by
      rintro ⟨k, s, x, b, e, ln⟩ h
      rw [szS] at h ⊢
      rw [htS]
      have h1 := key b (by omega)
      have h2 := key e (by omega)
      omega
    refine fun x h => ⟨key1 x h, fun l hl => ?_⟩
    induction l with
    | nil => simp [htSs]
    | cons x r ihl =>
      rw [szSs] at hl
      rw [htSs, szSs]
      have h1 := key1 x (by omega)
      have h2 := ihl (by omega)
      omega
section
variable {T : List Nat} {N : Nat}
theorem name_gets (hT : T.length ≤ 32768) (s : List Nat) (a : List Tw) (h : nmW s a) : Gets T (nameP T) s a sGo 0 := by
  obtain ⟨u, rfl, h⟩ := h
  intro p g t r hst hg hs
  refine ⟨p.step T, ?_, St.step hT hst⟩
  unfold nameP
  rw [St.name hst h.1, h.2]
theorem names_get (hT : T.length ≤ 32768) (l : List (List Nat)) (ts : List Tw) (h : Par (CS nmW l) ts) {m : Nat} (hm : l.length ≤ m) (p : Pst) (g : Nat) (t : Tw) (r : List Tw) (hst : St T p (ts ++ t :: r) g) (hg : g ≤ 250) : ∃ q, listF T (nameP T) m p = some (l, q) ∧ St T q (t :: r) g :=
  list_gets hT nmW (fun s a h => by obtain ⟨u, rfl, h⟩ := h; exact ⟨u, [], rfl, fun e => by rw [h.1] at e; cases e.1⟩) l ts h (fun s _ a h => name_gets hT s a h) hm p g t r hst hg
theorem named_get (hT : T.length ≤ 32768) (b : Bd) (ts : List Tw) (h : RBd b ts) (hb : OkBn N b) (ln : Nat) (hln : b.ln = (ln : Int)) (p : Pst) (t : Tw) (r : List Tw) (hst : St T p (ts ++ t :: r) 0) : ∃ q, namedF T N ln p = some (b, q) ∧ St T q (t :: r) 0 := by
  obtain ⟨u, L, B, rfl, h1, h2, h3⟩ := h
  obtain ⟨hz, hd, hp⟩ := hb
  have hst1 : St T p (u :: (L ++ (B ++ t :: r))) 0 := by simpa using hst
  obtain ⟨L0, L1, rfl, -⟩ := h2.hd
  obtain ⟨o, m, c, rfl, h4⟩ := h3
  have hst2 : St T (p.step T) (L0 :: L1 ++ o :: (m ++ [c] ++ t :: r)) 0 := hst1.step hT
  obtain ⟨q, h5, h6⟩ := names_get hT b.ps _ h2 hp _ 0 o _ hst2 (by omega)
  obtain ⟨q2, h7, h8⟩ := body_get hT (f := stmtF T (orF T N) N N) b.st _ N ⟨o, m, c, rfl, h4⟩ (fun x hx => stmt_get hT (reads hT N) N x (by
    have := szS_mem hx
    have := (htS_le _ x (Nat.le_refl _)).1
    omega) (by have := szS_mem hx; omega)) (by have := szSs_len b.st; omega) q 0 t r h6 (by omega)
  refine ⟨q2, ?_, h8⟩
  unfold namedF
  rw [hst1.name h1.1]
  dsimp only
  rw [h5]
  dsimp only
  rw [h7]
  dsimp only
  rw [h1.2, ← hln]
theorem ons_get (hT : T.length ≤ 32768) : ∀ (l : List Bd) (ts : List Tw) (acc : List Bd) (m : Nat), ROs l ts → (∀ b ∈ l, OkBn N b) → l.length < m → ∀ (p : Pst) (e t : Tw) (r : List Tw), St T p (ts ++ e :: t :: r) 0 → isS e [125] → ∃ q, onsF T N m acc p = some (acc ++ l, q) ∧ St T q (t :: r) 0
  | [], ts, acc, m, hw, _, hm, p, e, t, r, hst, he => by
    have hw : ts = [] := hw
    subst hw
    obtain ⟨m', rfl⟩ : ∃ m', m = m' + 1 := ⟨m - 1, by simp at hm; omega⟩
    have hst' : St T p (e :: t :: r) 0 := hst
    refine ⟨p.step T, ?_, hst'.step hT⟩
    rw [onsF, if_neg (by rw [hst'.er]; simp), hst'.one_hit he.1 (by simp [he.2]), if_pos (show e.s ≠ [] by rw [he.2]; decide), List.append_nil]
  | b :: l, ts, acc, m, hw, hok, hm, p, e, t, r, hst, he => by
    obtain ⟨k, a, c, rfl, h1, h2, h3, h4⟩ := hw
    obtain ⟨m', rfl⟩ : ∃ m', m = m' + 1 := ⟨m - 1, by simp at hm; omega⟩
    have hst1 : St T p (k :: (a ++ (c ++ e :: t :: r))) 0 := by simpa using hst
    obtain ⟨u, L, B, rfl, h5⟩ := h3
    have hst2 : St T (p.step T) (u :: (L ++ B) ++ (c ++ e :: t :: r)) 0 := hst1.step hT
    obtain ⟨z, y, hzy⟩ : ∃ z y, c ++ e :: t :: r = z :: y := by
      cases c with
      | nil => exact ⟨_, _, rfl⟩
      | cons c0 c1 => exact ⟨_, _, rfl⟩
    rw [hzy] at hst2
    obtain ⟨q, h6, h7⟩ := named_get hT b _ ⟨u, L, B, rfl, h5⟩ (hok b (by simp)) k.ln h2 _ z y hst2
    rw [← hzy] at h7
    obtain ⟨q2, h8, h9⟩ := ons_get hT l c (acc ++ [b]) m' h4 (fun x hx => hok x (by simp [hx])) (by simp at hm; omega) q e t r h7 he
    refine ⟨q2, ?_, h9⟩
    rw [onsF, if_neg (by rw [hst1.er]; simp), hst1.one_miss (fun e => by rw [h1.1] at e; cases e.1), if_neg (by simp)]
    dsimp only
    rw [hst1.one_hit h1.1 (by rw [h1.2]; decide), if_neg (show ¬ k.s = [] by rw [h1.2]; decide), hst1.ln]
    dsimp only
    rw [h6]
    dsimp only
    rw [h8]
    simp
theorem role_get (hT : T.length ≤ 32768) (b : Rl) (ts : List Tw) (h : RRl b ts) (hb : OkRn N b) (ln : Nat) (hln : b.ln = (ln : Int)) (p : Pst) (t : Tw) (r : List Tw) (hst : St T p (ts ++ t :: r) 0) : ∃ q, roleF T N ln p = some (b, q) ∧ St T q (t :: r) 0 := by
  obtain ⟨u, L, B, rfl, h1, h2, o, m, c, rfl, h3, h4, h5⟩ := h
  obtain ⟨hz, hp, hd⟩ := hb
  have hst1 : St T p (u :: (L ++ o :: (m ++ c :: t :: r))) 0 := by simpa using hst
  obtain ⟨L0, L1, rfl, -⟩ := h2.hd
  have hst2 : St T (p.step T) (L0 :: L1 ++ o :: (m ++ c :: t :: r)) 0 := hst1.step hT
  obtain ⟨q, h6, h7⟩ := names_get hT b.ps _ h2 hp _ 0 o _ hst2 (by omega)
  have hst3 : St T (q.step T) (m ++ c :: t :: r) 0 := by
    cases m with
    | nil => exact h7.step hT
    | cons m0 m1 => exact h7.step hT
  obtain ⟨q2, h8, h9⟩ := ons_get hT b.on m [] N h5 hd hz _ c t r hst3 h4
  refine ⟨q2, ?_, h9⟩
  unfold roleF
  rw [hst1.name h1.1]
  dsimp only
  rw [h6]
  dsimp only
  rw [h7.must h3.1 h3.2 (by decide)]
  dsimp only
  rw [h8]
  dsimp only
  rw [h1.2, ← hln, List.nil_append]
theorem prog_get (hT : T.length ≤ 32768) : ∀ (l : List It) (ts : List Tw) (g : Pg) (m : Nat), RIt l ts → (∀ x ∈ l, OkI N x) → l.length < m → ∀ (p : Pst) (e : Tw), St T p (ts ++ [e]) 0 → e.k = 6 → ∃ q, progF T N m g p = some (itG g l, q) ∧ q.er = 0
  | [], ts, g, m, hw, _, hm, p, e, hst, he => by
    have hw : ts = [] := hw
    subst hw
    obtain ⟨m', rfl⟩ : ∃ m', m = m' + 1 := ⟨m - 1, by simp at hm; omega⟩
    have hst' : St T p (e :: []) 0 := hst
    refine ⟨p, ?_, hst'.er⟩
    rw [progF, if_pos (.inr (hst'.k.trans he))]
    rfl
  | .fn b :: l, ts, g, m, hw, hok, hm, p, e, hst, he => by
    obtain ⟨k, a, c, rfl, h1, h2, h3, h4⟩ := hw
    obtain ⟨m', rfl⟩ : ∃ m', m = m' + 1 := ⟨m - 1, by simp at hm; omega⟩
    have hst1 : St T p (k :: (a ++ (c ++ [e]))) 0 := by simpa using hst
    obtain ⟨u, L, B, rfl, h5⟩ := h3
    have hst2 : St T (p.step T) (u :: (L ++ B) ++ (c ++ [e])) 0 := hst1.step hT
    obtain ⟨z, y, hzy⟩ : ∃ z y, c ++ [e] = z :: y := by
      cases c with
      | nil => exact ⟨_, _, rfl⟩
      | cons c0 c1 => exact ⟨_, _, rfl⟩
    rw [hzy] at hst2
    obtain ⟨q, h6, h7⟩ := named_get hT b _ ⟨u, L, B, rfl, h5⟩ (hok (.fn b) (by simp)) k.ln h2 _ z y hst2
    rw [← hzy] at h7
    obtain ⟨q2, h8, h9⟩ := prog_get hT l c ⟨g.fns ++ [b], g.roles⟩ m' h4 (fun x hx => hok x (by simp [hx])) (by simp at hm; omega) q e h7 he
    refine ⟨q2, ?_, h9⟩
    rw [progF, if_neg (by rw [hst1.er, hst1.k, h1.1]; simp), hst1.one_hit h1.1 (by rw [h1.2]; decide), if_pos h1.2]
    dsimp only
    rw [hst1.ln, h6]
    dsimp only
    rw [h8]
    rfl
  | .ac b :: l, ts, g, m, hw, hok, hm, p, e, hst, he => by
    obtain ⟨k, a, c, rfl, h1, h2, h3, h4⟩ := hw
    obtain ⟨m', rfl⟩ : ∃ m', m = m' + 1 := ⟨m - 1, by simp at hm; omega⟩
    have hst1 : St T p (k :: (a ++ (c ++ [e]))) 0 := by simpa using hst
    obtain ⟨u, L, B, rfl, h5⟩ := h3
    have hst2 : St T (p.step T) (u :: (L ++ B) ++ (c ++ [e])) 0 := hst1.step hT
    obtain ⟨z, y, hzy⟩ : ∃ z y, c ++ [e] = z :: y := by
      cases c with
      | nil => exact ⟨_, _, rfl⟩
      | cons c0 c1 => exact ⟨_, _, rfl⟩
    rw [hzy] at hst2
    obtain ⟨q, h6, h7⟩ := role_get hT b _ ⟨u, L, B, rfl, h5⟩ (hok (.ac b) (by simp)) k.ln h2 _ z y hst2
    rw [← hzy] at h7
    obtain ⟨q2, h8, h9⟩ := prog_get hT l c ⟨g.fns, g.roles ++ [b]⟩ m' h4 (fun x hx => hok x (by simp [hx])) (by simp at hm; omega) q e h7 he
    refine ⟨q2, ?_, h9⟩
    rw [progF, if_neg (by rw [hst1.er, hst1.k, h1.1]; simp), hst1.one_hit h1.1 (by rw [h1.2]; decide), if_neg (show ¬ k.s = kFn by rw [h1.2]; decide), if_pos h1.2]
    dsimp only
    rw [hst1.ln, h6]
    dsimp only
    rw [h8]
    rfl
/-- The parser stands at the first token. -/
theorem st_first (hT : T.length ≤ 32768) {t : Tw} {r : List Tw} (h : Toks T 0 (t :: r)) : St T (pst0.step T) (t :: r) 0 := by
  obtain ⟨h1, u, h2, rfl, h3⟩ := h
  unfold Pst.step
  rw [if_neg (by omega), if_neg (show ¬ T.length < pst0.e by simp [pst0])]
  have h2' : tok (T.drop (atW T pst0.e)) = some u := h2
  rw [h2']
  exact ⟨rfl, rfl, rfl, rfl, rfl, rfl, rfl, h3⟩
/-- A text whose tokens are written of a program is read as it. -/
theorem parse_reads (hT : T.length ≤ 32768) (l : List It) (ts : List Tw) (e : Tw) (ht : Toks T 0 (ts ++ [e])) (he : e.k = 6) (hr : RIt l ts) (hok : ∀ x ∈ l, OkI N x) (hl : l.length < N) :
    parseF T N = if rightP (itG ⟨[], []⟩ l) then some (itG ⟨[], []⟩ l, 0, 0) else some (⟨[], []⟩, 102, 0) := by
  obtain ⟨t, r, h1⟩ : ∃ t r, ts ++ [e] = t :: r := by
    cases ts with
    | nil => exact ⟨_, _, rfl⟩
    | cons a b => exact ⟨_, _, rfl⟩
  rw [h1] at ht
  have hst := st_first hT ht
  rw [← h1] at hst
  obtain ⟨q, h2, h3⟩ := prog_get hT l ts ⟨[], []⟩ N hr hok hl _ e hst he
  unfold parseF readF
  rw [h2]
  dsimp only
  rw [if_neg (by rw [h3]; simp)]
end
end Go.Proofs.YteacmanbiamhoaaGreatDoor
namespace Go.Proofs.YteacmanbiamhoaaGreatDoor
set_option linter.unusedVariables false

/-- These tokens stand ahead in a rest of a text, which begins in that line. -/
def Lx : List Nat → Nat → List Tw → Prop
  | _, _, [] => True
  | l, ln, t :: r => ∃ u, tok (l.drop (pas false l)) = some u ∧ t = ⟨u.k, u.s, u.n, ln + (l.take (pas false l)).count 10⟩ ∧ Lx (l.drop (pas false l + u.e)) (ln + (l.take (pas false l + u.e)).count 10) r
theorem Lx.toks {T : List Nat} : ∀ {ts : List Tw} {e : Nat}, e ≤ T.length → Lx (T.drop e) (1 + (T.take e).count 10) ts → Toks T e ts
  | [], e, he, h => trivial
  | t :: r, e, he, h => by
    obtain ⟨u, h1, h2, h3⟩ := h
    have e1 : atW T e = e + pas false (T.drop e) := rfl
    have hl := pas_le false (T.drop e)
    rw [List.length_drop] at hl
    have e2 : ∀ k, (T.take (e + k)).count 10 = (T.take e).count 10 + ((T.drop e).take k).count 10 := fun k => by rw [List.take_add, List.count_append]
    rw [List.drop_drop] at h1 h3
    refine ⟨he, u, h1, ?_, ?_⟩
    · rw [h2]
      unfold lnW
      rw [e1, e2]
      simp only [Nat.add_assoc]
    · have hp := (tok_pos h1).1
      rw [List.length_drop] at hp
      rw [e1, Nat.add_assoc]
      refine Lx.toks (by omega) ?_
      rw [e2]
      simpa only [Nat.add_assoc] using h3
theorem pas_blanks : ∀ (A R : List Nat), A.all blk = true → pas false (A ++ R) = A.length + pas false R
  | [], R, _ => by simp
  | x :: r, R, h => by
    rw [List.all_cons, Bool.and_eq_true] at h
    have hb : pasB false x = false := by
      have := h.1
      unfold blk at this
      unfold pasB
      simp at this ⊢
      intro _
      omega
    rw [List.cons_append, pas, hb, h.1, if_pos (by rfl), pas_blanks r R h.2]
    simp
    omega
/-- The tokens of a piece that ends with a blank, and the line behind it. -/
def lexA : Nat → List Nat → Nat → Option (List Tw × Nat)
  | 0, _, _ => none
  | m + 1, l, ln =>
    if l.all blk then some ([], ln + l.count 10)
    else match tok (l.drop (pas false l)) with
      | none => none
      | some u =>
        if pas false l + u.e < l.length ∧ pas false l < l.length then
          match lexA m (l.drop (pas false l + u.e)) (ln + (l.take (pas false l + u.e)).count 10) with
          | none => none
          | some (r, z) => some (⟨u.k, u.s, u.n, ln + (l.take (pas false l)).count 10⟩ :: r, z)
        else none
/-- A piece ahead of the rest. -/
theorem lexA_app : ∀ (m : Nat) (l : List Nat) (ln : Nat) (ts : List Tw) (z : Nat), lexA m l ln = some (ts, z) → ∀ (R : List Nat) (rs : List Tw), Lx R z rs → Lx (l ++ R) ln (ts ++ rs)
  | 0, l, ln, ts, z, h => by cases h
  | m + 1, l, ln, ts, z, h => fun R rs hR => by
    rw [lexA] at h
    by_cases hb : l.all blk = true
    · rw [if_pos hb] at h
      cases h
      cases rs with
      | nil => trivial
      | cons t r =>
        obtain ⟨u, h1, h2, h3⟩ := hR
        have e1 := pas_blanks l R hb
        refine ⟨u, ?_, ?_, ?_⟩
        · rw [e1, List.drop_append, (show l.drop _ = [] from List.drop_eq_nil_of_le (by omega)), List.nil_append, show l.length + pas false R - l.length = pas false R by omega]
          exact h1
        · rw [h2, e1, List.take_append, List.take_of_length_le (l := l) (by omega), List.count_append, show l.length + pas false R - l.length = pas false R by omega]
          simp only [Nat.add_assoc]
        · rw [e1, Nat.add_assoc, List.drop_append, (show l.drop _ = [] from List.drop_eq_nil_of_le (by omega)), List.nil_append, show l.length + (pas false R + u.e) - l.length = pas false R + u.e by omega, List.take_append, List.take_of_length_le (l := l) (by omega), List.count_append, show l.length + (pas false R + u.e) - l.length = pas false R + u.e by omega]
          simpa only [Nat.add_assoc] using h3
    · rw [if_neg hb] at h
      split at h
      · cases h
      · rename_i u hu
        split at h
        · rename_i hlt
          split at h
          · cases h
          · rename_i r z' hr
            cases h
            have e1 : pas false (l ++ R) = pas false l := pas_app false l R hlt.2
            have e2 : tok ((l ++ R).drop (pas false l)) = some u := by
              rw [List.drop_append_of_le_length (by omega)]
              exact tok_app hu (by rw [List.length_drop]; omega)
            refine ⟨u, ?_, ?_, ?_⟩
            · rw [e1]; exact e2
            · rw [e1, List.take_append_of_le_length (by omega)]
            · rw [e1, List.drop_append_of_le_length (by omega), List.take_append_of_le_length (by omega)]
              exact lexA_app m _ _ r z hr R rs hR
        · cases h
/-- The tokens of a rest, all. -/
def lexF : Nat → List Nat → Nat → Option (List Tw)
  | 0, _, _ => none
  | m + 1, l, ln =>
    match tok (l.drop (pas false l)) with
    | none => none
    | some u =>
      if u.k = 6 then some [⟨u.k, u.s, u.n, ln + (l.take (pas false l)).count 10⟩]
      else match lexF m (l.drop (pas false l + u.e)) (ln + (l.take (pas false l + u.e)).count 10) with
        | none => none
        | some r => some (⟨u.k, u.s, u.n, ln + (l.take (pas false l)).count 10⟩ :: r)
theorem lexF_lx : ∀ (m : Nat) (l : List Nat) (ln : Nat) (ts : List Tw), lexF m l ln = some ts → Lx l ln ts
  | 0, l, ln, ts, h => by cases h
  | m + 1, l, ln, ts, h => by
    rw [lexF] at h
    split at h
    · cases h
    · rename_i u hu
      split at h
      · cases h
        exact ⟨u, hu, rfl, trivial⟩
      · split at h
        · cases h
        · rename_i r hr
          cases h
          exact ⟨u, hu, rfl, lexF_lx m _ _ r hr⟩
end Go.Proofs.YteacmanbiamhoaaGreatDoor
namespace Go.Proofs.YteacmanbiamhoaaGreatDoor
set_option linter.unusedVariables false

/-- A parser's state: a fault, or a token that stands in the text. -/
structure Iv (T : List Nat) (p : Pst) : Prop where
  ek : p.er ≠ 0 → p.k = 0
  pos : p.k ≠ 0 → p.k ≠ 6 → p.a < p.e ∧ p.e ≤ T.length
/-- How much is left of the text. -/
def ms (T : List Nat) (p : Pst) : Nat := if p.k = 0 ∨ p.k = 6 then 0 else T.length - p.a
/-- No more is left behind it, and a fault stays. -/
structure Ge (T : List Nat) (p q : Pst) : Prop where
  iv : Iv T q
  le : ms T q ≤ ms T p
  er : p.er ≠ 0 → q.er = p.er ∧ q.fl = p.fl
theorem Ge.trans {T : List Nat} {p q r : Pst} (h : Ge T p q) (h' : Ge T q r) : Ge T p r := ⟨h'.iv, Nat.le_trans h'.le h.le, fun e => by
  have a := h.er e
  have b := h'.er (by rw [a.1]; exact e)
  exact ⟨b.1.trans a.1, b.2.trans a.2⟩⟩
section
variable {T : List Nat} {p : Pst}
theorem Iv.ge (h : Iv T p) : Ge T p p := ⟨h, Nat.le_refl _, fun _ => ⟨rfl, rfl⟩⟩
theorem Iv.step0 : Iv T (p.step T) := by
  unfold Pst.step
  split
  · exact ⟨fun _ => rfl, fun h => absurd rfl h⟩
  · split
    · exact ⟨fun _ => rfl, fun h => absurd rfl h⟩
    · rename_i h1 h2
      split
      · exact ⟨fun _ => rfl, fun h => absurd rfl h⟩
      · rename_i t ht
        refine ⟨fun h => absurd rfl h, fun _ h6 => ?_⟩
        have hp := tok_pos ht
        have h3 := atW_le (T := T) (a := p.e) (by omega)
        have h4 : T.drop (atW T p.e) ≠ [] := fun e => h6 (hp.2.1.2 e)
        have h5 := hp.2.2.1 h4
        have h7 := hp.1
        rw [List.length_drop] at h7
        dsimp only
        omega
theorem Iv.step (h : Iv T p) (hk : p.k ≠ 0) (h6 : p.k ≠ 6) : ms T (p.step T) < ms T p := by
  have h0 := h.pos hk h6
  have e : ms T p = T.length - p.a := by unfold ms; rw [if_neg (by omega)]
  rw [e]
  unfold ms
  split
  · omega
  · rename_i hq
    unfold Pst.step at hq ⊢
    split at hq
    · simp at hq
    · split at hq
      · simp at hq
      · split at hq
        · simp at hq
        · rename_i h1 h2 _ t ht
          have h3 := atW_le (T := T) (a := p.e) (by omega)
          rw [if_neg h1, if_neg h2]
          dsimp only
          omega
theorem Iv.er0 (h : Iv T p) (hk : p.k ≠ 0) : p.er = 0 := Classical.byContradiction fun e => hk (h.ek e)
theorem Iv.stepG (h : Iv T p) (hk : p.k ≠ 0) (h6 : p.k ≠ 6) : Ge T p (p.step T) := ⟨Iv.step0, Nat.le_of_lt (h.step hk h6), fun e => absurd (h.er0 hk) e⟩
theorem Iv.fail (h : Iv T p) {e : Nat} (he : e ≠ 0) : Ge T p (p.fail e) ∧ (p.fail e).er ≠ 0 ∧ ms T (p.fail e) = 0 := by
  unfold Pst.fail
  split
  · rename_i h0
    exact ⟨⟨⟨fun _ => rfl, fun h => absurd rfl h⟩, by simp [ms], fun e => absurd h0 e⟩, he, by simp [ms]⟩
  · rename_i h1
    exact ⟨h.ge, h1, by simp [ms, h.ek h1]⟩
theorem Iv.one (h : Iv T p) {k : Nat} (hk : k ≠ 0) (h6 : k ≠ 6) (s : List (List Nat)) : Ge T p (p.one T k s).2 ∧ ((p.one T k s).1 ≠ [] → ms T (p.one T k s).2 < ms T p) := by
  unfold Pst.one
  split
  · rename_i hh
    have a : p.k ≠ 0 := by rw [hh.1]; exact hk
    have b : p.k ≠ 6 := by rw [hh.1]; exact h6
    exact ⟨h.stepG a b, fun _ => h.step a b⟩
  · exact ⟨h.ge, fun e => absurd rfl e⟩
/-- It goes on, or there is a fault. -/
def Gt (T : List Nat) (p q : Pst) : Prop := Ge T p q ∧ (q.er = 0 → ms T q < ms T p)
theorem Gt.pre {q r : Pst} (h : Ge T p q) (h' : Gt T q r) : Gt T p r := ⟨h.trans h'.1, fun e => Nat.lt_of_lt_of_le (h'.2 e) h.le⟩
theorem Iv.must (h : Iv T p) (s : List Nat) : Gt T p (p.must T s).2 ∧ ((p.must T s).1 = true → ms T (p.must T s).2 < ms T p) := by
  obtain ⟨h1, h2⟩ := h.one (k := 5) (by decide) (by decide) [s]
  unfold Pst.must
  split
  · obtain ⟨a, b, c⟩ := h1.iv.fail (e := 101) (by decide)
    exact ⟨⟨h1.trans a, fun e => absurd e b⟩, fun e => by cases e⟩
  · rename_i hn
    exact ⟨⟨h1, fun _ => h2 hn⟩, fun _ => h2 hn⟩
theorem Iv.name (h : Iv T p) : Gt T p (p.name T).2 := by
  unfold Pst.name
  split
  · rename_i h3
    exact ⟨h.stepG (by omega) (by omega), fun _ => h.step (by omega) (by omega)⟩
  · obtain ⟨a, b, c⟩ := h.fail (e := 101) (by decide)
    exact ⟨a, fun e => absurd e b⟩
theorem Iv.setg (h : Iv T p) (g : Nat) : Ge T p { p with g := g } := ⟨⟨h.ek, h.pos⟩, Nat.le_refl _, fun _ => ⟨rfl, rfl⟩⟩
theorem Iv.begin (h : Iv T p) : Ge T p p.begin := by
  unfold Pst.begin
  split
  · have a := (h.fail (e := 102) (by decide)).1
    exact a.trans (a.iv.setg _)
  · exact h.setg _
theorem Iv.fin (h : Iv T p) : Ge T p p.fin := h.setg _
/-- It answers. -/
def Ans {α : Type} (T : List Nat) (f : Rr α) (p : Pst) : Prop := ∃ x q, f p = some (x, q) ∧ Ge T p q
def Tt {α : Type} (T : List Nat) (f : Rr α) (b : Nat) : Prop := ∀ p, Iv T p → ms T p < b → Ans T f p
theorem moreF_t {α : Type} {one : Rr α} {b : Nat} (ho : Tt T one b) : ∀ (m : Nat) (l : List α) (p : Pst), Iv T p → ms T p ≤ b → ms T p < m → Ans T (moreF T one m l) p
  | 0, l, p, h, hb, hm => absurd hm (by omega)
  | m + 1, l, p, h, hb, hm => by
    obtain ⟨h1, h2⟩ := h.one (k := 5) (by decide) (by decide) [[44]]
    by_cases hc : (p.one T 5 [[44]]).1 = []
    · exact ⟨l, _, by rw [moreF, if_pos hc], h1.trans (h1.iv.must _).1.1⟩
    · have h3 := h2 hc
      obtain ⟨x, q, hx, hq⟩ := ho _ h1.iv (by omega)
      have hle := hq.le
      obtain ⟨y, r, hy, hr⟩ := moreF_t ho m (l ++ [x]) q hq.iv (by omega) (by omega)
      exact ⟨y, r, by rw [moreF, if_neg hc, hx]; exact hy, h1.trans (hq.trans hr)⟩
theorem listF_t {α : Type} {one : Rr α} {b : Nat} (ho : Tt T one b) (m : Nat) (p : Pst) (h : Iv T p) (hb : ms T p ≤ b) (hm : ms T p < m) : Ans T (listF T one m) p := by
  obtain ⟨⟨h1, -⟩, h2⟩ := h.must [40]
  unfold Ans listF
  by_cases hc : (p.must T [40]).1 = false
  · exact ⟨[], _, by rw [if_pos hc], h1⟩
  · have h3 := h2 (by simpa using hc)
    obtain ⟨h4, h5⟩ := h1.iv.one (k := 5) (by decide) (by decide) [[41]]
    by_cases hd : ((p.must T [40]).2.one T 5 [[41]]).1 ≠ []
    · exact ⟨[], _, by rw [if_neg hc, if_pos hd], h1.trans h4⟩
    · have h6 := h4.le
      obtain ⟨x, q, hx, hq⟩ := ho _ h4.iv (by omega)
      have hle := hq.le
      obtain ⟨y, r, hy, hr⟩ := moreF_t ho m [x] q hq.iv (by omega) (by omega)
      exact ⟨y, r, by rw [if_neg hc, if_neg hd, hx]; exact hy, h1.trans (h4.trans (hq.trans hr))⟩
section
variable {or : Rr Ex} {b : Nat} (ho : Tt T or b)
include ho
theorem withF_t (m kind : Nat) (p : Pst) (h : Iv T p) (hb : ms T p ≤ b) (hm : ms T p < m) : Ans T (withF T or m kind) p := by
  have h1 := h.name.1
  have h2 := h1.le
  obtain ⟨l, q, hl, hq⟩ := listF_t ho m _ h1.iv (by omega) (by omega)
  unfold Ans withF
  rw [hl]
  exact ⟨_, _, rfl, h1.trans hq⟩
theorem keyedF_t (m : Nat) (p : Pst) (h : Iv T p) (hb : ms T p ≤ b) (hm : ms T p < m) : Ans T (keyedF T or m) p := by
  obtain ⟨h1, h2⟩ := h.one (k := 4) (by decide) (by decide) keysE
  have h3 := h1.le
  unfold Ans keyedF
  by_cases c1 : (p.one T 4 keysE).1 = [116, 114, 117, 101]
  · rw [if_pos c1]; exact ⟨_, _, rfl, h1⟩
  · rw [if_neg c1]
    by_cases c2 : (p.one T 4 keysE).1 = [102, 97, 108, 115, 101]
    · rw [if_pos c2]; exact ⟨_, _, rfl, h1⟩
    · rw [if_neg c2]
      by_cases c3 : (p.one T 4 keysE).1 = [115, 101, 108, 102]
      · rw [if_pos c3]; exact ⟨_, _, rfl, h1⟩
      · rw [if_neg c3]
        by_cases c4 : (p.one T 4 keysE).1 = [108, 101, 110]
        · rw [if_pos c4]
          have h4 := h2 (by rw [c4]; simp)
          have h5 := (h1.iv.must [40]).1.1
          have h6 := h5.le
          obtain ⟨x, q, hx, hq⟩ := ho _ h5.iv (by omega)
          rw [hx]
          exact ⟨_, _, rfl, h1.trans (h5.trans (hq.trans (hq.iv.must _).1.1))⟩
        · rw [if_neg c4]
          by_cases c5 : (p.one T 4 keysE).1 = [99, 97, 108, 108]
          · rw [if_pos c5]
            obtain ⟨x, q, hx, hq⟩ := withF_t ho m 10 _ h1.iv (by omega) (by omega)
            exact ⟨x, q, hx, h1.trans hq⟩
          · rw [if_neg c5]
            by_cases c6 : (p.one T 4 keysE).1 = [115, 112, 97, 119, 110]
            · rw [if_pos c6]
              obtain ⟨x, q, hx, hq⟩ := withF_t ho m 11 _ h1.iv (by omega) (by omega)
              exact ⟨x, q, hx, h1.trans hq⟩
            · rw [if_neg c6]
              exact ⟨_, _, rfl, h1.trans (h1.iv.fail (by decide)).1⟩
theorem primaryF_t (m : Nat) (p : Pst) (h : Iv T p) (hb : ms T p ≤ b) (hm : ms T p < m) : Ans T (primaryF T or m) p := by
  unfold Ans primaryF
  by_cases c1 : p.k = 1
  · rw [if_pos c1]; exact ⟨_, _, rfl, h.stepG (by omega) (by omega)⟩
  · rw [if_neg c1]
    by_cases c2 : p.k = 2
    · rw [if_pos c2]; exact ⟨_, _, rfl, h.stepG (by omega) (by omega)⟩
    · rw [if_neg c2]
      by_cases c3 : p.k = 3
      · rw [if_pos c3]; exact ⟨_, _, rfl, h.stepG (by omega) (by omega)⟩
      · rw [if_neg c3]
        by_cases c4 : p.k = 4
        · rw [if_pos c4]; exact keyedF_t ho m p h hb hm
        · rw [if_neg c4]
          obtain ⟨l, q, hl, hq⟩ := listF_t ho m p h hb hm
          rw [hl]
          exact ⟨_, _, rfl, hq⟩
theorem placesF_t : ∀ (m : Nat) (x : Ex) (p : Pst), Iv T p → ms T p ≤ b → ms T p < m → Ans T (placesF T or m x) p
  | 0, x, p, h, hb, hm => absurd hm (by omega)
  | m + 1, x, p, h, hb, hm => by
    obtain ⟨h1, h2⟩ := h.one (k := 5) (by decide) (by decide) [[91]]
    by_cases hc : (p.one T 5 [[91]]).1 = []
    · exact ⟨x, _, by rw [placesF, if_pos hc], h1⟩
    · have h3 := h2 hc
      obtain ⟨y, q, hy, hq⟩ := ho _ h1.iv (by omega)
      have h4 := (hq.iv.must [93]).1.1
      have h5 := hq.le
      have h6 := h4.le
      obtain ⟨z, r, hz, hr⟩ := placesF_t m (.mk 8 [] 0 [x, y]) _ h4.iv (by omega) (by omega)
      exact ⟨z, r, by rw [placesF, if_neg hc, hy]; exact hz, h1.trans (hq.trans (h4.trans hr))⟩
theorem postF_t (m : Nat) (p : Pst) (h : Iv T p) (hb : ms T p ≤ b) (hm : ms T p < m) : Ans T (postF T or m) p := by
  obtain ⟨x, q, hx, hq⟩ := primaryF_t ho m p h hb hm
  have h1 := hq.le
  obtain ⟨y, r, hy, hr⟩ := placesF_t ho m x q hq.iv (by omega) (by omega)
  unfold Ans postF
  rw [hx]
  exact ⟨y, r, hy, hq.trans hr⟩
theorem unaryF_t (m : Nat) : ∀ (j : Nat) (p : Pst), Iv T p → ms T p ≤ b → ms T p < m → ms T p < j → Ans T (unaryF T or m j) p
  | 0, p, h, hb, hm, hj => absurd hj (by omega)
  | j + 1, p, h, hb, hm, hj => by
    have h0 := h.begin
    obtain ⟨h1, h2⟩ := h0.iv.one (k := 5) (by decide) (by decide) [[45], [33]]
    have h3 := h0.le
    have h4 := h1.le
    by_cases hc : (p.begin.one T 5 [[45], [33]]).1 ≠ []
    · have h5 := h2 hc
      obtain ⟨x, q, hx, hq⟩ := unaryF_t m j _ h1.iv (by omega) (by omega) (by omega)
      exact ⟨_, _, by rw [unaryF, if_pos hc, hx], h0.trans (h1.trans (hq.trans hq.iv.fin))⟩
    · obtain ⟨x, q, hx, hq⟩ := postF_t ho m _ h1.iv (by omega) (by omega)
      exact ⟨_, _, by rw [unaryF, if_neg hc, hx], h0.trans (h1.trans (hq.trans hq.iv.fin))⟩
end
theorem twoF_t {f : Rr Ex} {b : Nat} (hf : Tt T f b) (sg : List (List Nat)) : ∀ (m : Nat) (x : Ex) (p : Pst), Iv T p → ms T p < b → Ans T (twoF T f sg m x) p
  | 0, x, p, h, hb => ⟨x, p, by rw [twoF], h.ge⟩
  | m + 1, x, p, h, hb => by
    obtain ⟨h1, h2⟩ := h.one (k := 5) (by decide) (by decide) sg
    have h3 := h1.le
    by_cases hc : (p.one T 5 sg).1 = []
    · exact ⟨x, _, by rw [twoF, if_pos hc], h1⟩
    · obtain ⟨y, q, hy, hq⟩ := hf _ h1.iv (by omega)
      have h4 := hq.le
      obtain ⟨z, r, hz, hr⟩ := twoF_t hf sg m (.mk 7 (p.one T 5 sg).1 0 [x, y]) q hq.iv (by omega)
      exact ⟨z, r, by rw [twoF, if_neg hc, hy]; exact hz, h1.trans (hq.trans hr)⟩
theorem twosF_t {f : Rr Ex} {b : Nat} (hf : Tt T f b) (most : Nat) (sg : List (List Nat)) : Tt T (twosF T f most sg) b := by
  intro p h hb
  obtain ⟨x, q, hx, hq⟩ := hf p h hb
  have h1 := hq.le
  obtain ⟨y, r, hy, hr⟩ := twoF_t hf sg most x q hq.iv (by omega)
  unfold Ans twosF
  rw [hx]
  exact ⟨y, r, hy, hq.trans hr⟩
theorem orF_t : ∀ n, Tt T (orF T n) (n - 1)
  | 0 => fun p h hb => absurd hb (by omega)
  | n + 1 => by
    have h1 : Tt T (unaryF T (orF T n) n n) n := fun p h hb => unaryF_t (orF_t n) n n p h (by omega) hb hb
    have h2 := twosF_t (twosF_t (twosF_t (twosF_t (twosF_t h1 32768 sMul) 32768 sAdd) 1 sCmp) 32768 sAnd) 32768 sOr
    intro p h hb
    obtain ⟨x, q, hx, hq⟩ := h2 p h (by omega)
    exact ⟨x, q, by rw [orF]; exact hx, hq⟩
theorem stmtsF_t {f : Rr Sm} {b : Nat} (hf : ∀ p, Iv T p → p.er = 0 → ms T p < b → ∃ x q, f p = some (x, q) ∧ Gt T p q) : ∀ (m : Nat) (l : List Sm) (p : Pst), Iv T p → ms T p < b → 0 < m → (p.er = 0 → ms T p + 1 < m) → Ans T (stmtsF T f m l) p
  | 0, l, p, h, hb, hm, hm2 => absurd hm (by omega)
  | m + 1, l, p, h, hb, hm, hm2 => by
    by_cases he : p.er ≠ 0
    · exact ⟨l, p, by rw [stmtsF, if_pos he], h.ge⟩
    · have he0 : p.er = 0 := by omega
      have h0 := hm2 he0
      obtain ⟨h1, h2⟩ := h.one (k := 5) (by decide) (by decide) [[125]]
      have h3 := h1.le
      by_cases hc : (p.one T 5 [[125]]).1 ≠ []
      · exact ⟨l, _, by rw [stmtsF, if_neg he, if_pos hc], h1⟩
      · have heq : (p.one T 5 [[125]]).2 = p := by
          unfold Pst.one at hc ⊢
          split
          · rename_i hh
            rw [if_pos hh] at hc
            have := hh.2
            simp at this
            rw [this] at hc
            exact absurd (by simp) hc
          · rfl
        obtain ⟨x, q, hx, hq, hq2⟩ := hf p h he0 hb
        have h4 := hq.le
        obtain ⟨y, r, hy, hr⟩ := stmtsF_t hf m (l ++ [x]) q hq.iv (by omega) (by omega) (fun e => by have := hq2 e; omega)
        exact ⟨y, r, by rw [stmtsF, if_neg he, if_neg hc, heq, hx]; exact hy, hq.trans hr⟩
theorem bodyF_t {f : Rr Sm} {b : Nat} (hf : ∀ p, Iv T p → p.er = 0 → ms T p < b → ∃ x q, f p = some (x, q) ∧ Gt T p q) (m : Nat) (p : Pst) (h : Iv T p) (hb : ms T p < b) (hm : ms T p + 1 < m) : Ans T (bodyF T f m) p := by
  have h1 := (h.must [123]).1.1
  have h2 := h1.le
  obtain ⟨x, q, hx, hq⟩ := stmtsF_t hf m [] _ h1.iv (by omega) (by omega) (fun _ => by omega)
  exact ⟨x, q, hx, h1.trans hq⟩
theorem kindF_nil {s : List Nat} (h : kindF s ≠ 9) : s ≠ [] := by
  rintro rfl
  exact h (by decide)
theorem stmtK_t {or : Rr Ex} {b : Nat} (ho : Tt T or b) {body : Rr (List Sm)} {c : Nat} (hb : ∀ p, Iv T p → ms T p < c → Ans T body p) (m kind ln : Nat) (p : Pst) (h : Iv T p) (h1 : ms T p < b) (h2 : kind ≠ 9 → ms T p < c) (h3 : ms T p < m) :
    ∃ x q, stmtK T or body m kind ln p = some (x, q) ∧ Ge T p q ∧ (kind = 9 → Gt T p q) := by
  unfold stmtK
  by_cases c1 : kind = 1 ∨ kind = 2
  · rw [if_pos c1]
    have a := h.name.1
    have a1 := a.le
    have a2 := (a.iv.must [61]).1.1
    have a3 := a2.le
    obtain ⟨x, q, hx, hq⟩ := ho _ a2.iv (by omega)
    rw [hx]
    exact ⟨_, _, rfl, a.trans (a2.trans (hq.trans (hq.iv.must _).1.1)), fun e => by omega⟩
  · rw [if_neg c1]
    by_cases c2 : kind = 3 ∨ kind = 4
    · rw [if_pos c2]
      unfold branchF
      have hc := h2 (by omega)
      have a := (h.must [40]).1.1
      have a1 := a.le
      obtain ⟨x, q, hx, hq⟩ := ho _ a.iv (by omega)
      have a2 := hq.le
      have a3 := (hq.iv.must [41]).1.1
      have a4 := a3.le
      obtain ⟨y, r, hy, hr⟩ := hb _ a3.iv (by omega)
      have a5 := hr.le
      have g := a.trans (hq.trans (a3.trans hr))
      rw [hx]
      dsimp only
      rw [hy]
      dsimp only
      by_cases c3 : kind = 3
      · rw [if_pos c3]
        obtain ⟨d1, d2⟩ := hr.iv.one (k := 4) (by decide) (by decide) [[101, 108, 115, 101]]
        have d3 := d1.le
        by_cases c4 : (r.one T 4 [[101, 108, 115, 101]]).1 ≠ []
        · rw [if_pos c4]
          obtain ⟨z, u, hz, hu⟩ := hb _ d1.iv (by omega)
          rw [hz]
          exact ⟨_, _, rfl, g.trans (d1.trans hu), fun e => by omega⟩
        · rw [if_neg c4]
          exact ⟨_, _, rfl, g.trans d1, fun e => by omega⟩
      · rw [if_neg c3]
        exact ⟨_, _, rfl, g, fun e => by omega⟩
    · rw [if_neg c2]
      by_cases c3 : kind = 5 ∨ kind = 9
      · rw [if_pos c3]
        obtain ⟨x, q, hx, hq⟩ := ho _ h (by omega)
        rw [hx]
        exact ⟨_, _, rfl, hq.trans (hq.iv.must _).1.1, fun e => Gt.pre hq (hq.iv.must _).1⟩
      · rw [if_neg c3]
        by_cases c4 : kind = 6
        · rw [if_pos c4]
          obtain ⟨x, q, hx, hq⟩ := postF_t ho m p h (by omega) h3
          have a1 := hq.le
          have a2 := hq.iv.name.1
          have a3 := a2.le
          obtain ⟨l, r, hl, hr⟩ := listF_t ho m _ a2.iv (by omega) (by omega)
          rw [hx]
          dsimp only
          rw [hl]
          exact ⟨_, _, rfl, hq.trans (a2.trans (hr.trans (hr.iv.must _).1.1)), fun e => by omega⟩
        · rw [if_neg c4]
          by_cases c5 : kind = 7
          · rw [if_pos c5]
            have a2 := h.name.1
            have a3 := a2.le
            obtain ⟨l, r, hl, hr⟩ := listF_t ho m _ a2.iv (by omega) (by omega)
            rw [hl]
            exact ⟨_, _, rfl, a2.trans (hr.trans (hr.iv.must _).1.1), fun e => by omega⟩
          · rw [if_neg c5]
            exact ⟨_, _, rfl, (h.must _).1.1, fun e => Gt.pre h.ge (h.must _).1⟩
theorem stmtF_t {or : Rr Ex} {b : Nat} (ho : Tt T or b) (m : Nat) : ∀ (n : Nat) (p : Pst), Iv T p → p.er = 0 → ms T p < b → ms T p + 1 < m → ms T p < n → ∃ x q, stmtF T or m n p = some (x, q) ∧ Gt T p q
  | 0, p, h, he, hb, hm, hn => absurd hn (by omega)
  | n + 1, p, h, he, hb, hm, hn => by
    have h0 := h.begin
    obtain ⟨h1, h2⟩ := h0.iv.one (k := 4) (by decide) (by decide) keysS
    have h3 := h0.le
    have h4 := h1.le
    have hbd : ∀ q, Iv T q → ms T q < min (min b (m - 1)) n → Ans T (bodyF T (stmtF T or m n) m) q := fun q hq hc =>
      bodyF_t (b := min (min b (m - 1)) n) (fun r hr hre hrc => stmtF_t ho m n r hr hre (by omega) (by omega) (by omega)) m q hq hc (by omega)
    by_cases hk : kindF (p.begin.one T 4 keysS).1 = 9
    · obtain ⟨x, q, hx, hq, hq9⟩ := stmtK_t ho (c := 0) (body := bodyF T (stmtF T or m n) m) (fun _ _ e => absurd e (by omega)) m (kindF (p.begin.one T 4 keysS).1) p.ln _ h1.iv (by omega) (fun e => absurd hk e) (by omega)
      refine ⟨x, q.fin, by rw [stmtF, hx], ?_⟩
      obtain ⟨g1, g2⟩ := hq9 hk
      refine ⟨h0.trans (h1.trans (g1.trans g1.iv.fin)), fun e => ?_⟩
      have := g2 e
      have e2 : ms T q.fin = ms T q := rfl
      omega
    · have h5 := h2 (kindF_nil hk)
      obtain ⟨x, q, hx, hq, -⟩ := stmtK_t ho hbd m (kindF (p.begin.one T 4 keysS).1) p.ln _ h1.iv (by omega) (fun _ => by omega) (by omega)
      refine ⟨x, q.fin, by rw [stmtF, hx], h0.trans (h1.trans (hq.trans hq.iv.fin)), fun e => ?_⟩
      have := hq.le
      have e2 : ms T q.fin = ms T q := rfl
      omega
theorem nameP_t (b : Nat) : Tt T (nameP T) b := fun p h hb => ⟨(p.name T).1, (p.name T).2, rfl, h.name.1⟩
theorem namedF_t (n ln : Nat) (p : Pst) (h : Iv T p) (hn : ms T p + 2 < n) : Ans T (namedF T n ln) p := by
  have a := h.name.1
  have a1 := a.le
  obtain ⟨l, q, hl, hq⟩ := listF_t (nameP_t (T := T) n) n _ a.iv (by omega) (by omega)
  have a2 := hq.le
  obtain ⟨b, r, hb, hr⟩ := bodyF_t (b := n - 1) (fun p h he hc => stmtF_t (orF_t n) n n p h he hc (by omega) (by omega)) n q hq.iv (by omega) (by omega)
  unfold Ans namedF
  rw [hl]
  dsimp only
  rw [hb]
  exact ⟨_, _, rfl, a.trans (hq.trans hr)⟩
theorem one_same {k : Nat} {s : List (List Nat)} (hs : [] ∉ s) (hc : ¬ (p.one T k s).1 ≠ []) : (p.one T k s).2 = p := by
  unfold Pst.one at hc ⊢
  split
  · rename_i hh
    rw [if_pos hh] at hc
    have : p.s = [] := Classical.byContradiction hc
    rw [this] at hh
    exact absurd hh.2 hs
  · rfl
theorem onsF_t (n : Nat) : ∀ (m : Nat) (l : List Bd) (p : Pst), Iv T p → ms T p + 2 < n → 0 < m → (p.er = 0 → ms T p + 1 < m) → Ans T (onsF T n m l) p
  | 0, l, p, h, hn, hm, hm2 => absurd hm (by omega)
  | m + 1, l, p, h, hn, hm, hm2 => by
    by_cases he : p.er ≠ 0
    · exact ⟨l, p, by rw [onsF, if_pos he], h.ge⟩
    · have h0 := hm2 (by omega)
      obtain ⟨h1, h2⟩ := h.one (k := 5) (by decide) (by decide) [[125]]
      by_cases hc : (p.one T 5 [[125]]).1 ≠ []
      · exact ⟨l, _, by rw [onsF, if_neg he, if_pos hc], h1⟩
      · have heq : (p.one T 5 [[125]]).2 = p := one_same (by simp) hc
        obtain ⟨d1, d2⟩ := h.one (k := 4) (by decide) (by decide) [[111, 110]]
        have d3 := d1.le
        obtain ⟨p2, hp2, g2, h5⟩ : ∃ p2, (if (p.one T 4 [[111, 110]]).1 = [] then (p.one T 4 [[111, 110]]).2.fail 101 else (p.one T 4 [[111, 110]]).2) = p2 ∧ Ge T p p2 ∧ (p2.er ≠ 0 ∨ ms T p2 < ms T p) := by
          by_cases hd : (p.one T 4 [[111, 110]]).1 = []
          · rw [if_pos hd]
            obtain ⟨a, b, c⟩ := d1.iv.fail (e := 101) (by decide)
            exact ⟨_, rfl, d1.trans a, .inl b⟩
          · rw [if_neg hd]
            exact ⟨_, rfl, d1, .inr (d2 hd)⟩
        have d4 := g2.le
        obtain ⟨x, q, hx, hq⟩ := namedF_t n p.ln p2 g2.iv (by omega)
        have d5 := hq.le
        obtain ⟨y, r, hy, hr⟩ := onsF_t n m (l ++ [x]) q hq.iv (by omega) (by omega) (fun e => by
          rcases h5 with h5 | h5
          · exact absurd e (by rw [(hq.er h5).1]; exact h5)
          · omega)
        exact ⟨y, r, by rw [onsF, if_neg he, if_neg hc, heq, hp2, hx]; exact hy, g2.trans (hq.trans hr)⟩
theorem roleF_t (n ln : Nat) (p : Pst) (h : Iv T p) (hn : ms T p + 2 < n) : Ans T (roleF T n ln) p := by
  have a := h.name.1
  have a1 := a.le
  obtain ⟨l, q, hl, hq⟩ := listF_t (nameP_t (T := T) n) n _ a.iv (by omega) (by omega)
  have a2 := hq.le
  have a3 := (hq.iv.must [123]).1.1
  have a4 := a3.le
  obtain ⟨b, r, hb, hr⟩ := onsF_t n n [] _ a3.iv (by omega) (by omega) (fun _ => by omega)
  unfold Ans roleF
  rw [hl]
  dsimp only
  rw [hb]
  exact ⟨_, _, rfl, a.trans (hq.trans (a3.trans hr))⟩
theorem progF_t (n : Nat) : ∀ (m : Nat) (g : Pg) (p : Pst), Iv T p → ms T p + 2 < n → 0 < m → (p.er = 0 → ms T p + 1 < m) → Ans T (progF T n m g) p
  | 0, g, p, h, hn, hm, hm2 => absurd hm (by omega)
  | m + 1, g, p, h, hn, hm, hm2 => by
    by_cases he : p.er ≠ 0 ∨ p.k = 6
    · exact ⟨g, p, by rw [progF, if_pos he], h.ge⟩
    · have h0 := hm2 (by omega)
      obtain ⟨d1, d2⟩ := h.one (k := 4) (by decide) (by decide) [kFn, kAc]
      have d3 := d1.le
      by_cases c1 : (p.one T 4 [kFn, kAc]).1 = kFn
      · have d4 := d2 (by rw [c1]; decide)
        obtain ⟨x, q, hx, hq⟩ := namedF_t n p.ln _ d1.iv (by omega)
        have d5 := hq.le
        obtain ⟨y, r, hy, hr⟩ := progF_t n m { g with fns := g.fns ++ [x] } q hq.iv (by omega) (by omega) (fun e => by omega)
        exact ⟨y, r, by rw [progF, if_neg he, if_pos c1, hx]; exact hy, d1.trans (hq.trans hr)⟩
      · by_cases c2 : (p.one T 4 [kFn, kAc]).1 = kAc
        · have d4 := d2 (by rw [c2]; decide)
          obtain ⟨x, q, hx, hq⟩ := roleF_t n p.ln _ d1.iv (by omega)
          have d5 := hq.le
          obtain ⟨y, r, hy, hr⟩ := progF_t n m { g with roles := g.roles ++ [x] } q hq.iv (by omega) (by omega) (fun e => by omega)
          exact ⟨y, r, by rw [progF, if_neg he, if_neg c1, if_pos c2, hx]; exact hy, d1.trans (hq.trans hr)⟩
        · obtain ⟨a, b, c⟩ := d1.iv.fail (e := 101) (by decide)
          obtain ⟨y, r, hy, hr⟩ := progF_t n m g _ a.iv (by omega) (by omega) (fun e => absurd e b)
          exact ⟨y, r, by rw [progF, if_neg he, if_neg c1, if_neg c2]; exact hy, d1.trans (a.trans hr)⟩
end
theorem ms_le (T : List Nat) (p : Pst) : ms T p ≤ T.length := by
  unfold ms
  split <;> omega
/-- Every text is parsed, or refused. -/
theorem parse_total (T : List Nat) (n : Nat) (hn : T.length + 3 ≤ n) : ∃ g er fl, parseF T n = some (g, er, fl) := by
  have h1 := ms_le T (pst0.step T)
  obtain ⟨g, q, hg, -⟩ := progF_t (T := T) n n ⟨[], []⟩ (pst0.step T) Iv.step0 (by omega) (by omega) (fun _ => by omega)
  unfold parseF readF
  rw [hg]
  dsimp only
  split
  · exact ⟨_, _, _, rfl⟩
  · split
    · exact ⟨_, _, _, rfl⟩
    · exact ⟨_, _, _, rfl⟩
/-- What is parsed is right; else there is nothing of it. -/
theorem parse_form {T : List Nat} {n : Nat} {g : Pg} {er fl : Nat} (h : parseF T n = some (g, er, fl)) : (er = 0 → rightP g = true) ∧ (er ≠ 0 → g = ⟨[], []⟩) := by
  unfold parseF at h
  split at h
  · cases h
  · split at h
    · rename_i h1
      cases h
      exact ⟨fun e => absurd e h1, fun _ => rfl⟩
    · split at h
      · rename_i h2
        cases h
        exact ⟨fun _ => h2, fun e => absurd rfl e⟩
      · cases h
        exact ⟨fun e => absurd e (by decide), fun _ => rfl⟩
end Go.Proofs.YteacmanbiamhoaaGreatDoor
namespace Go.Proofs.YteacmanbiamhoaaGreatDoor
set_option linter.unusedVariables false

def repN (l : List Nat) : Nat → List Nat
  | 0 => []
  | n + 1 => l ++ repN l n
theorem repN_len (l : List Nat) : ∀ c, (repN l c).length = l.length * c
  | 0 => rfl
  | c + 1 => by rw [repN, List.length_append, repN_len l c, Nat.mul_add, Nat.mul_one, Nat.add_comm]
def fnB : List Nat := [102, 117, 110, 99, 32, 102, 40, 41, 32, 123, 10]
def retB : List Nat := [114, 101, 116, 117, 114, 110, 32, 49, 59, 10]
def letB : List Nat := [108, 101, 116, 32, 125]
def fnTw (ln : Nat) : List Tw := [⟨4, [102, 117, 110, 99], 0, ln⟩, ⟨3, [102], 0, ln⟩, ⟨5, [40], 0, ln⟩, ⟨5, [41], 0, ln⟩, ⟨5, [123], 0, ln⟩]
def retTw (ln : Nat) : List Tw := [⟨4, [114, 101, 116, 117, 114, 110], 0, ln⟩, ⟨1, [], 1, ln⟩, ⟨5, [59], 0, ln⟩]
theorem fn_lex (ln : Nat) : lexA 20 fnB ln = some (fnTw ln, ln + 1) := by rfl
theorem ret_lex (ln : Nat) : lexA 20 retB ln = some (retTw ln, ln + 1) := by rfl
def retsTw : Nat → Nat → List Tw
  | _, 0 => []
  | ln, m + 1 => retTw ln ++ retsTw (ln + 1) m
def retS (ln : Nat) : Sm := .mk 5 [] [.mk 1 [] 1 []] [] [] (ln : Int)
def retsS : Nat → Nat → List Sm
  | _, 0 => []
  | ln, m + 1 => retS ln :: retsS (ln + 1) m
theorem lx_rets : ∀ (m ln : Nat) (R : List Nat) (rs : List Tw), Lx R (ln + m) rs → Lx (repN retB m ++ R) ln (retsTw ln m ++ rs)
  | 0, ln, R, rs, h => h
  | m + 1, ln, R, rs, h => by
    rw [repN, retsTw, List.append_assoc, List.append_assoc]
    refine lexA_app 20 retB ln _ _ (ret_lex ln) _ _ (lx_rets m (ln + 1) R rs ?_)
    rw [Nat.add_assoc, Nat.add_comm 1 m]
    exact h
theorem lx_nls : ∀ (n ln : Nat) (R : List Nat) (rs : List Tw), Lx R (ln + n) rs → Lx (repN [10] n ++ R) ln rs
  | 0, ln, R, rs, h => h
  | n + 1, ln, R, rs, h => by
    rw [repN, List.append_assoc]
    have := lexA_app 1 [10] ln [] (ln + 1) rfl (repN [10] n ++ R) rs (lx_nls n (ln + 1) R rs (by
      rw [Nat.add_assoc, Nat.add_comm 1 n]
      exact h))
    simpa using this
def tlT (n m : Nat) : List Nat := repN [10] n ++ (fnB ++ (repN retB m ++ [125]))
def tlU (n m : Nat) : List Nat := repN [10] n ++ (fnB ++ (repN retB m ++ letB))
theorem tl_toks (n m : Nat) : Toks (tlT n m) 0 (fnTw (n + 1) ++ retsTw (n + 2) m ++ [⟨5, [125], 0, n + 2 + m⟩] ++ [⟨6, [], 0, n + 2 + m⟩]) := by
  have h1 : Lx [125] (n + 2 + m) [⟨5, [125], 0, n + 2 + m⟩, ⟨6, [], 0, n + 2 + m⟩] := lexF_lx 5 [125] (n + 2 + m) _ rfl
  have h2 := lx_rets m (n + 2) _ _ h1
  have h3 := lexA_app 20 fnB (n + 1) _ _ (fn_lex (n + 1)) _ _ h2
  have h4 := lx_nls n 1 _ _ (by rw [Nat.add_comm 1 n]; exact h3)
  refine Lx.toks (Nat.zero_le _) ?_
  have : Lx (tlT n m) 1 (fnTw (n + 1) ++ (retsTw (n + 2) m ++ [⟨5, [125], 0, n + 2 + m⟩, ⟨6, [], 0, n + 2 + m⟩])) := h4
  simpa using this
theorem tlU_toks (n m : Nat) : Toks (tlU n m) 0 (fnTw (n + 1) ++ (retsTw (n + 2) m ++ [⟨4, [108, 101, 116], 0, n + 2 + m⟩, ⟨5, [125], 0, n + 2 + m⟩, ⟨6, [], 0, n + 2 + m⟩])) := by
  have h1 : Lx letB (n + 2 + m) [⟨4, [108, 101, 116], 0, n + 2 + m⟩, ⟨5, [125], 0, n + 2 + m⟩, ⟨6, [], 0, n + 2 + m⟩] := lexF_lx 5 letB (n + 2 + m) _ rfl
  have h2 := lx_rets m (n + 2) _ _ h1
  have h3 := lexA_app 20 fnB (n + 1) _ _ (fn_lex (n + 1)) _ _ h2
  have h4 := lx_nls n 1 _ _ (by rw [Nat.add_comm 1 n]; exact h3)
  refine Lx.toks (Nat.zero_le _) ?_
  have : Lx (tlU n m) 1 (fnTw (n + 1) ++ (retsTw (n + 2) m ++ [⟨4, [108, 101, 116], 0, n + 2 + m⟩, ⟨5, [125], 0, n + 2 + m⟩, ⟨6, [], 0, n + 2 + m⟩])) := h4
  simpa using this
theorem rets_rs : ∀ (m ln : Nat), RSs (retsS ln m) (retsTw ln m)
  | 0, ln => by rw [retsS, retsTw, RSs]
  | m + 1, ln => by
    rw [retsS, retsTw, RSs]
    refine ⟨retTw ln, retsTw (ln + 1) m, rfl, ?_, rets_rs m (ln + 1)⟩
    unfold retS retTw
    rw [RS]
    refine ⟨⟨_, _, rfl, rfl⟩, .inr (.inr (.inr (.inr (.inl ⟨rfl, rfl, rfl, rfl, _, [⟨1, [], 1, ln⟩], ⟨5, [59], 0, ln⟩, .mk 1 [] 1 [], rfl, ⟨rfl, rfl⟩, rfl, ?_, ⟨rfl, rfl⟩⟩))))⟩
    rw [RX]
    exact .inl ⟨rfl, rfl, rfl, _, rfl, rfl, rfl⟩
theorem rets_len : ∀ (m ln : Nat), (retsS ln m).length = m
  | 0, ln => rfl
  | m + 1, ln => by rw [retsS, List.length_cons, rets_len m]
theorem rets_sz : ∀ (m ln : Nat), szSs (retsS ln m) = 2 * m ∧ dpSs (retsS ln m) ≤ 4
  | 0, ln => ⟨by rw [retsS, szSs], by rw [retsS, dpSs]; omega⟩
  | m + 1, ln => by
    obtain ⟨h1, h2⟩ := rets_sz m (ln + 1)
    have e1 : szS (retS ln) = 2 := rfl
    have e2 : dpS (retS ln) = 4 := rfl
    rw [retsS, szSs, dpSs, h1, e1, e2]
    omega
theorem rets_R : ∀ (m ln c : Nat), 2 * m ≤ c → smsR 1 (retsS ln m) c = some (c - 2 * m)
  | 0, ln, c, h => by rw [retsS, smsR]; rfl
  | m + 1, ln, c, h => by
    obtain ⟨c, rfl⟩ : ∃ d, c = d + 2 := ⟨c - 2, by omega⟩
    have e1 : smR 1 (retS ln) (c + 2) = some c := by
      unfold retS
      rw [smR, if_neg (by omega), if_neg (by decide)]
      have e2 : exsR (1 + 1) [.mk 1 [] 1 []] (c + 2 - 1) = some c := by
        rw [exsR, exR, if_neg (by omega), if_neg (by decide), exsR]
        dsimp only
        rw [exsR]
        congr 1
      rw [e2]
      dsimp only
      rw [smsR]
      dsimp only
      rw [smsR]
    rw [retsS, smsR, e1]
    dsimp only
    rw [rets_R m (ln + 1) c (by omega)]
    congr 1
    omega
/-- The program that TreeLines' text is. -/
def tlG (n m : Nat) : Pg := ⟨[⟨[102], [], retsS (n + 2) m, ((n + 1 : Nat) : Int)⟩], []⟩
theorem tl_right {n m : Nat} (hm : m ≤ 1000) : rightP (tlG n m) = true := by
  have e : headR [102] [] = true := by decide +kernel
  unfold rightP tlG
  dsimp only
  rw [if_neg (by simp), bodiesR]
  unfold bodyR
  dsimp only
  rw [e, if_pos rfl, rets_R m _ 2000 (by omega)]
  dsimp only
  rw [bodiesR]
  rfl
theorem tl_len (n m : Nat) : (tlT n m).length = n + 11 + 10 * m + 1 ∧ (tlU n m).length = n + 11 + 10 * m + 5 := by
  unfold tlT tlU
  simp only [List.length_append, repN_len]
  have h1 : fnB.length = 11 := rfl
  have h2 : retB.length = 10 := rfl
  have h3 : letB.length = 5 := rfl
  rw [h1, h2, h3]
  simp only [List.length_cons, List.length_nil]
  omega
theorem tl_parse {n m : Nat} (hn : n ≤ 1000) (hm : m ≤ 1000) {N : Nat} (hN : 2001 ≤ N) : parseF (tlT n m) N = some (tlG n m, 0, 0) := by
  have hl := (tl_len n m).1
  have h := parse_reads (T := tlT n m) (N := N) (by omega) [.fn ⟨[102], [], retsS (n + 2) m, ((n + 1 : Nat) : Int)⟩] (fnTw (n + 1) ++ retsTw (n + 2) m ++ [⟨5, [125], 0, n + 2 + m⟩]) ⟨6, [], 0, n + 2 + m⟩ (tl_toks n m) rfl ?_ ?_ (by simp; omega)
  · have e : itG ⟨[], []⟩ [.fn ⟨[102], [], retsS (n + 2) m, ((n + 1 : Nat) : Int)⟩] = tlG n m := rfl
    rw [e, tl_right hm, if_pos rfl] at h
    exact h
  · refine ⟨⟨4, [102, 117, 110, 99], 0, n + 1⟩, ⟨3, [102], 0, n + 1⟩ :: ([⟨5, [40], 0, n + 1⟩, ⟨5, [41], 0, n + 1⟩] ++ (⟨5, [123], 0, n + 1⟩ :: (retsTw (n + 2) m ++ [⟨5, [125], 0, n + 2 + m⟩]))), [], by simp [fnTw], ⟨rfl, rfl⟩, rfl, ?_, rfl⟩
    refine ⟨_, _, _, rfl, ⟨rfl, rfl⟩, ⟨_, [], _, rfl, ⟨rfl, rfl⟩, ⟨rfl, rfl⟩, rfl⟩, ⟨_, _, _, rfl, ⟨rfl, rfl⟩, ⟨rfl, rfl⟩, rets_rs m (n + 2)⟩⟩
  · intro x hx
    rw [List.mem_singleton.1 hx]
    obtain ⟨h1, h2⟩ := rets_sz m (n + 2)
    exact ⟨by dsimp only; omega, by dsimp only; omega, by simp⟩
section
variable {T : List Nat}
/-- Statements that are read, and what comes behind them. -/
theorem stmts_pre (hT : T.length ≤ 32768) {f : Rr Sm} : ∀ (l : List Sm) (ts : List Tw) (acc : List Sm) (m : Nat), RSs l ts → (∀ x ∈ l, GetsS T f x) → ∀ (p : Pst) (g : Nat) (t : Tw) (r : List Tw), St T p (ts ++ t :: r) g → ¬ (t.k = 4 ∧ t.s ∈ [kElse]) → g + dpSs l ≤ 250 → ∃ q, stmtsF T f (m + l.length) acc p = stmtsF T f m (acc ++ l) q ∧ St T q (t :: r) g
  | [], ts, acc, m, hw, _, p, g, t, r, hst, ht, hg => by
    rw [RSs] at hw
    subst hw
    exact ⟨p, by simp, hst⟩
  | x :: l, ts, acc, m, hw, hx, p, g, t, r, hst, ht, hg => by
    rw [RSs] at hw
    obtain ⟨a, b, rfl, h1, h2⟩ := hw
    rw [dpSs] at hg
    obtain ⟨t0, r0, rfl, h3, h4⟩ := RS_hd h1
    have hst' : St T p (t0 :: r0 ++ (b ++ t :: r)) g := by simpa using hst
    obtain ⟨z, y, hzy, hz⟩ : ∃ z y, b ++ t :: r = z :: y ∧ ¬ (z.k = 4 ∧ z.s ∈ [kElse]) := by
      cases l with
      | nil =>
        rw [RSs] at h2
        subst h2
        exact ⟨t, r, rfl, ht⟩
      | cons x' l' =>
        rw [RSs] at h2
        obtain ⟨a', b', rfl, h5, -⟩ := h2
        obtain ⟨t1, r1, rfl, -, h6⟩ := RS_hd h5
        exact ⟨t1, _, rfl, h6⟩
    have hst2 := hst'
    rw [hzy] at hst'
    obtain ⟨q, h5, h6⟩ := hx x (by simp) _ h1 p g z y hst' (by omega) hz
    rw [← hzy] at h6
    obtain ⟨q2, h7, h8⟩ := stmts_pre hT l b (acc ++ [x]) m h2 (fun y hy => hx y (by simp [hy])) q g t r h6 ht (by omega)
    refine ⟨q2, ?_, h8⟩
    have hst3 : St T p (t0 :: (r0 ++ (b ++ t :: r))) g := hst2
    rw [List.length_cons, ← Nat.add_assoc, stmtsF, if_neg (by rw [hst3.er]; simp), hst3.one_miss h3, if_neg (by simp)]
    dsimp only
    rw [h5]
    dsimp only
    rw [h7]
    simp
/-- A let without a name is a fault where the name is missed. -/
theorem let_fault (hT : T.length ≤ 32768) (N j m : Nat) (hN : 3 ≤ N) (p : Pst) (u v : Tw) (r : List Tw) (hst : St T p (u :: v :: r) 0) (hu : u.k = 4 ∧ u.s = [108, 101, 116]) (hv : v.k = 5) :
    ∃ x q, stmtF T (orF T N) m (j + 1) p = some (x, q) ∧ q.er = 101 ∧ q.fl = v.ln := by
  have h1 := hst.begin (by omega)
  have h2 := h1.one_hit (kind := 4) (says := keysS) hu.1 (by rw [hu.2]; decide)
  have h3 := h1.step hT
  have iv : Iv T (p.begin.step T) := Iv.step0
  have hk : (p.begin.step T).k = 5 := h3.k.trans hv
  have hn : ((p.begin.step T).name T).2 = (p.begin.step T).fail 101 := by
    unfold Pst.name
    rw [if_neg (by omega)]
  have he : ((p.begin.step T).fail 101).er = 101 ∧ ((p.begin.step T).fail 101).fl = v.ln := by
    unfold Pst.fail
    rw [if_pos h3.er]
    exact ⟨rfl, h3.ln⟩
  have hf := (iv.fail (e := 101) (by decide))
  have a2 := (hf.1.iv.must [61]).1.1
  have a3 := a2.le
  obtain ⟨y, q, hy, hq⟩ := orF_t N _ a2.iv (by rw [hf.2.2] at a3; omega)
  have a4 := (hq.iv.must [59]).1.1
  have g := a2.trans (hq.trans a4)
  have ge := g.er (by rw [he.1]; decide)
  refine ⟨.mk 1 ((p.begin.step T).name T).1 [y] [] [] (p.ln : Int), (q.must T [59]).2.fin, ?_, ge.1.trans he.1, ge.2.trans he.2⟩
  rw [stmtF, h2]
  have hkd : kindF u.s = 1 := by rw [hu.2]; decide
  dsimp only
  rw [hkd]
  unfold stmtK
  rw [if_pos (.inl rfl), hn, hy]
end
theorem tlU_parse {n m : Nat} (hn : n ≤ 1000) (hm : m ≤ 1000) {N : Nat} (hN : 2010 ≤ N) : ∃ g, parseF (tlU n m) N = some (g, 101, n + 2 + m) := by
  have hl := (tl_len n m).2
  have hT : (tlU n m).length ≤ 32768 := by omega
  have htk := tlU_toks n m
  obtain ⟨T, hTT⟩ : ∃ T, tlU n m = T := ⟨_, rfl⟩
  rw [hTT] at hT htk ⊢
  obtain ⟨tl, htl⟩ : ∃ tl, retsTw (n + 2) m ++ [⟨4, [108, 101, 116], 0, n + 2 + m⟩, ⟨5, [125], 0, n + 2 + m⟩, ⟨6, [], 0, n + 2 + m⟩] = tl := ⟨_, rfl⟩
  rw [htl] at htk
  have htk2 : Toks T 0 (⟨4, [102, 117, 110, 99], 0, n + 1⟩ :: ⟨3, [102], 0, n + 1⟩ :: ⟨5, [40], 0, n + 1⟩ :: ⟨5, [41], 0, n + 1⟩ :: ⟨5, [123], 0, n + 1⟩ :: tl) := htk
  have s0 := st_first hT htk2
  obtain ⟨P0, hP0⟩ : ∃ P, pst0.step T = P := ⟨_, rfl⟩
  rw [hP0] at s0
  have s1 := s0.step hT
  have s2 := s1.step hT
  have s3 := s2.step hT
  have s4 := s3.step hT
  obtain ⟨z, y, hzy⟩ : ∃ z y, tl = z :: y := by
    rw [← htl]
    cases h : retsTw (n + 2) m with
    | nil => exact ⟨_, _, rfl⟩
    | cons a b => exact ⟨_, _, rfl⟩
  have s5 : St T (((((P0.step T).step T).step T).step T).step T) (z :: y) 0 := by
    rw [hzy] at s4
    exact s4.step hT
  rw [← hzy, ← htl] at s5
  obtain ⟨z1, z2⟩ := rets_sz m (n + 2)
  obtain ⟨k, hk⟩ : ∃ k, N = (k + 2) + m := ⟨N - m - 2, by omega⟩
  have hlen := rets_len m (n + 2)
  have hgets : ∀ x ∈ retsS (n + 2) m, GetsS T (stmtF T (orF T N) N N) x := fun x hx => stmt_get hT (reads hT N) N x (by
    have := szS_mem hx
    have := (htS_le _ x (Nat.le_refl _)).1
    omega) (by have := szS_mem hx; omega)
  obtain ⟨q, h1, h2⟩ := stmts_pre hT (f := stmtF T (orF T N) N N) (retsS (n + 2) m) (retsTw (n + 2) m) [] (k + 2) (rets_rs m (n + 2)) hgets _ 0 ⟨4, [108, 101, 116], 0, n + 2 + m⟩ _ s5 (by simp [kElse]) (by omega)
  obtain ⟨x, r, h3, h4, h5⟩ := let_fault hT N (N - 1) N (by omega) q _ _ _ h2 ⟨rfl, rfl⟩ rfl
  rw [show N - 1 + 1 = N by omega] at h3
  have h6 : stmtsF T (stmtF T (orF T N) N N) N [] (((((P0.step T).step T).step T).step T).step T) = some ([] ++ retsS (n + 2) m ++ [x], r) := by
    have e : (k + 2) + (retsS (n + 2) m).length = N := by rw [hlen]; exact hk.symm
    rw [e] at h1
    rw [h1, stmtsF, if_neg (by rw [h2.er]; simp), h2.one_miss (by simp), if_neg (by simp)]
    dsimp only
    rw [h3]
    dsimp only
    rw [stmtsF, if_pos (by rw [h4]; decide)]
  have h7 : namedF T N (n + 1) (P0.step T) = some (⟨[102], [], [] ++ retsS (n + 2) m ++ [x], ((n + 1 : Nat) : Int)⟩, r) := by
    unfold namedF
    rw [s1.name rfl]
    dsimp only
    unfold listF
    rw [s2.must (sign := [40]) rfl rfl (by simp)]
    dsimp only
    rw [if_neg (by simp), s3.one_hit (kind := 5) (says := [[41]]) rfl (by simp), if_pos (by simp)]
    dsimp only
    unfold bodyF
    rw [s4.must (sign := [123]) rfl rfl (by simp)]
    dsimp only
    rw [h6]
  obtain ⟨N', hN'⟩ : ∃ N', N = N' + 2 := ⟨N - 2, by omega⟩
  have h8 : progF T N N ⟨[], []⟩ P0 = some (⟨[⟨[102], [], [] ++ retsS (n + 2) m ++ [x], ((n + 1 : Nat) : Int)⟩], []⟩, r) := by
    have : ∀ M, M = N' + 2 → progF T N M ⟨[], []⟩ P0 = some (⟨[⟨[102], [], [] ++ retsS (n + 2) m ++ [x], ((n + 1 : Nat) : Int)⟩], []⟩, r) := by
      rintro M rfl
      rw [progF, if_neg (by rw [s0.er, s0.k]; simp), s0.one_hit (kind := 4) (says := [kFn, kAc]) rfl (by simp [kFn]), if_pos (by simp [kFn]), s0.ln]
      dsimp only
      rw [h7]
      dsimp only
      rw [progF, if_pos (.inl (by rw [h4]; decide))]
      rfl
    exact this N hN'
  refine ⟨⟨[], []⟩, ?_⟩
  unfold parseF readF
  rw [hP0, h8]
  dsimp only
  rw [if_pos (by rw [h4]; decide), h4, h5]
end Go.Proofs.YteacmanbiamhoaaGreatDoor
