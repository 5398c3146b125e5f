/- Texts Pa, Pb, Pc, Pd, Pe, Pf, Pg, Ph, Pi, Vp, Vq, Vw, Vr of this seat in one: see each part. -/
import Derived.KernelRfl
import Derived.Test.YtpakjjefbholdaaGreatDoorTa
import Derived.Test.YtpakjjefbholdaaGreatDoorKaf
import Derived.Test.YtpakjjefbholdaaGreatDoorKgm
import Derived.Test.YtpakjjefbholdaaGreatDoorShelfB
import Derived.Test.YtpakjjefbholdaaGreatDoorTe
namespace Go.Proofs.YtpakjjefbholdaaGreatDoor
set_option linter.unusedVariables false

/-- A token and its line. -/
structure Tw where
  k : Nat
  s : List Nat
  n : Nat
  ln : Nat
deriving DecidableEq
/-- From place e on a text has these tokens, one behind the other. -/
def Toks (T : List Nat) : Nat → List Tw → Prop
  | _, [] => True
  | e, t :: r => e ≤ T.length ∧ ∃ u, tok (T.drop (atW T e)) = some u ∧ t = ⟨u.k, u.s, u.n, lnW T e⟩ ∧ Toks T (atW T e + u.e) r
/-- A parser stands at the first one of these tokens; so many are going on. -/
def St (T : List Nat) (p : Pst) : List Tw → Nat → Prop
  | [], _ => False
  | t :: r, g => p.k = t.k ∧ p.s = t.s ∧ p.n = t.n ∧ p.ln = t.ln ∧ p.er = 0 ∧ p.fl = 0 ∧ p.g = g ∧ Toks T p.e r
section
variable {T : List Nat} {p : Pst} {t u : Tw} {r : List Tw} {g : Nat}
theorem St.step (hT : T.length ≤ 32768) (h : St T p (t :: u :: r) g) : St T (p.step T) (u :: r) g := by
  obtain ⟨h1, h2, h3, h4, h5, h6, h7, h8, tk, h9, h10, h11⟩ := h
  unfold Pst.step
  rw [if_neg (by omega), if_neg (by omega), h9]
  subst h10
  exact ⟨rfl, rfl, rfl, rfl, rfl, rfl, h7, h11⟩
theorem St.one_hit (h : St T p (t :: r) g) {kind : Nat} {says : List (List Nat)} (hk : t.k = kind) (hs : t.s ∈ says) : p.one T kind says = (t.s, p.step T) := by
  obtain ⟨h1, h2, h3⟩ := h
  unfold Pst.one
  rw [h1, h2, if_pos ⟨hk, hs⟩]
theorem St.one_miss (h : St T p (t :: r) g) {kind : Nat} {says : List (List Nat)} (hm : ¬ (t.k = kind ∧ t.s ∈ says)) : p.one T kind says = ([], p) := by
  obtain ⟨h1, h2, h3⟩ := h
  unfold Pst.one
  rw [h1, h2, if_neg hm]
theorem St.must (h : St T p (t :: r) g) {sign : List Nat} (hk : t.k = 5) (hs : t.s = sign) (hn : sign ≠ []) : p.must T sign = (true, p.step T) := by
  unfold Pst.must
  rw [h.one_hit hk (by simp [hs]), if_neg (by rw [hs]; exact hn)]
theorem St.name (h : St T p (t :: r) g) (hk : t.k = 3) : p.name T = (t.s, p.step T) := by
  obtain ⟨h1, h2, h3⟩ := h
  unfold Pst.name
  rw [if_pos (h1.trans hk), h2]
theorem St.begin {ts : List Tw} (h : St T p ts g) (hg : g < 250) : St T p.begin ts (g + 1) := by
  cases ts with
  | nil => exact h.elim
  | cons t r =>
    obtain ⟨h1, h2, h3, h4, h5, h6, h7, h8⟩ := h
    unfold Pst.begin
    rw [if_neg (by omega)]
    exact ⟨h1, h2, h3, h4, h5, h6, by dsimp only; omega, h8⟩
theorem St.fin {ts : List Tw} (h : St T p ts (g + 1)) : St T p.fin ts g := by
  cases ts with
  | nil => exact h.elim
  | cons t r =>
    obtain ⟨h1, h2, h3, h4, h5, h6, h7, h8⟩ := h
    exact ⟨h1, h2, h3, h4, h5, h6, by unfold Pst.fin; dsimp only; omega, h8⟩
theorem St.er (h : St T p (t :: r) g) : p.er = 0 := h.2.2.2.2.1
theorem St.ln (h : St T p (t :: r) g) : p.ln = t.ln := h.2.2.2.1
theorem St.k (h : St T p (t :: r) g) : p.k = t.k := h.1
theorem St.s (h : St T p (t :: r) g) : p.s = t.s := h.2.1
theorem St.n (h : St T p (t :: r) g) : p.n = t.n := h.2.2.1
end

/-! What is written of a tree. -/
def isS (t : Tw) (s : List Nat) : Prop := t.k = 5 ∧ t.s = s
def isK (t : Tw) (s : List Nat) : Prop := t.k = 4 ∧ t.s = s
def isN (t : Tw) (s : List Nat) : Prop := t.k = 3 ∧ t.s = s
def opK : Ex → Bool
  | .mk k _ _ _ => k == 7
def sUn : List (List Nat) := [[45], [33]]
def sTwo : List (List Nat) := sMul ++ sAdd ++ sCmp ++ sAnd ++ sOr
/-- In parentheses. -/
def Par (f : List Tw → Prop) (ts : List Tw) : Prop := ∃ o m c, ts = o :: (m ++ [c]) ∧ isS o [40] ∧ isS c [41] ∧ f m
mutual
/-- An expression is written as these tokens. -/
def RX : Ex → List Tw → Prop
  | .mk k s n l, ts =>
    (k = 1 ∧ s = [] ∧ l = [] ∧ ∃ t, ts = [t] ∧ t.k = 1 ∧ n = (t.n : Int)) ∨
    (k = 2 ∧ s = [] ∧ l = [] ∧ ∃ t, ts = [t] ∧ ((n = 1 ∧ isK t [116, 114, 117, 101]) ∨ (n = 0 ∧ isK t [102, 97, 108, 115, 101]))) ∨
    (k = 3 ∧ n = 0 ∧ l = [] ∧ ∃ t, ts = [t] ∧ t.k = 2 ∧ t.s = s) ∨
    (k = 4 ∧ n = 0 ∧ l = [] ∧ ∃ t, ts = [t] ∧ isN t s) ∨
    (k = 5 ∧ s = [] ∧ n = 0 ∧ l = [] ∧ ∃ t, ts = [t] ∧ isK t [115, 101, 108, 102]) ∨
    (k = 6 ∧ s = [] ∧ n = 0 ∧ l.length ≠ 1 ∧ Par (RXs l) ts) ∨
    (k = 7 ∧ n = 0 ∧ s ∈ sUn ∧ ∃ o a, ts = o :: a ∧ isS o s ∧ RPs l [a]) ∨
    (k = 7 ∧ n = 0 ∧ s ∈ sTwo ∧ ∃ a o b, ts = a ++ o :: b ∧ isS o s ∧ RPs l [a, b]) ∨
    (k = 8 ∧ s = [] ∧ n = 0 ∧ ∃ a o b c, ts = a ++ o :: (b ++ [c]) ∧ isS o [91] ∧ isS c [93] ∧ RPX l a b) ∨
    (k = 9 ∧ s = [] ∧ n = 0 ∧ l.length = 1 ∧ ∃ t a, ts = t :: a ∧ isK t [108, 101, 110] ∧ Par (RXs l) a) ∨
    (k = 10 ∧ n = 0 ∧ ∃ t u a, ts = t :: u :: a ∧ isK t [99, 97, 108, 108] ∧ isN u s ∧ Par (RXs l) a) ∨
    (k = 11 ∧ n = 0 ∧ ∃ t u a, ts = t :: u :: a ∧ isK t [115, 112, 97, 119, 110] ∧ isN u s ∧ Par (RXs l) a)
/-- Expressions with commas between. -/
def RXs : List Ex → List Tw → Prop
  | [], ts => ts = []
  | x :: r, ts => ∃ a b, ts = a ++ b ∧ RX x a ∧ RXr r b
/-- .. each behind a comma. -/
def RXr : List Ex → List Tw → Prop
  | [], ts => ts = []
  | x :: r, ts => ∃ c a b, ts = c :: (a ++ b) ∧ isS c [44] ∧ RX x a ∧ RXr r b
/-- Parts of an operation: another one stands in parentheses. -/
def RPs : List Ex → List (List Tw) → Prop
  | [], tss => tss = []
  | x :: r, tss => ∃ a b, tss = a :: b ∧ ((opK x = false ∧ RX x a) ∨ (opK x = true ∧ Par (RX x) a)) ∧ RPs r b
/-- A part, and any expression. -/
def RPX : List Ex → List Tw → List Tw → Prop
  | [], _, _ => False
  | x :: r, a, b => ((opK x = false ∧ RX x a) ∨ (opK x = true ∧ Par (RX x) a)) ∧ RXs r b ∧ r.length = 1
end
/-- A part. -/
def RP (x : Ex) (a : List Tw) : Prop := (opK x = false ∧ RX x a) ∨ (opK x = true ∧ Par (RX x) a)
theorem RPs_one {l : List Ex} {a : List Tw} (h : RPs l [a]) : ∃ x, l = [x] ∧ RP x a := by
  cases l with
  | nil => rw [RPs] at h; cases h
  | cons x r =>
    rw [RPs] at h
    obtain ⟨a', b, e, h1, h2⟩ := h
    cases e
    cases r with
    | nil => exact ⟨x, rfl, h1⟩
    | cons y q => rw [RPs] at h2; obtain ⟨a, b, e, -⟩ := h2; cases e
theorem RPs_two {l : List Ex} {a b : List Tw} (h : RPs l [a, b]) : ∃ x y, l = [x, y] ∧ RP x a ∧ RP y b := by
  cases l with
  | nil => rw [RPs] at h; cases h
  | cons x r =>
    rw [RPs] at h
    obtain ⟨a', b', e, h1, h2⟩ := h
    cases e
    obtain ⟨y, rfl, h3⟩ := RPs_one h2
    exact ⟨x, y, rfl, h1, h3⟩
theorem RPX_two {l : List Ex} {a b : List Tw} (h : RPX l a b) : ∃ x y, l = [x, y] ∧ RP x a ∧ RX y b := by
  cases l with
  | nil => rw [RPX] at h; exact h.elim
  | cons x r =>
    rw [RPX] at h
    obtain ⟨h1, h2, h3⟩ := h
    obtain ⟨y, rfl⟩ := List.length_eq_one_iff.1 h3
    rw [RXs] at h2
    obtain ⟨c, d, rfl, h4, h5⟩ := h2
    rw [RXr] at h5
    subst h5
    exact ⟨x, y, rfl, h1, by rw [List.append_nil]; exact h4⟩
mutual
/-- How many parts. -/
def szE : Ex → Nat
  | .mk _ _ _ l => 1 + szEs l
def szEs : List Ex → Nat
  | [] => 0
  | x :: r => szE x + szEs r
end
mutual
/-- How deep. -/
def dpE : Ex → Nat
  | .mk _ _ _ l => 1 + dpEs l
def dpEs : List Ex → Nat
  | [] => 0
  | x :: r => max (dpE x) (dpEs r)
end
theorem szE_pos (x : Ex) : 1 ≤ szE x := by
  obtain ⟨k, s, n, l⟩ := x
  rw [szE]
  omega
theorem szEs_len (l : List Ex) : l.length ≤ szEs l := by
  induction l with
  | nil => simp
  | cons x r ih =>
    rw [szEs, List.length_cons]
    have := szE_pos x
    omega
end Go.Proofs.YtpakjjefbholdaaGreatDoor
namespace Go.Proofs.YtpakjjefbholdaaGreatDoor
set_option linter.unusedVariables false

/-- Signs that go on with an expression. -/
def sGo : List (List Nat) := sTwo ++ [[91]]
def Stop (t : Tw) (l : List (List Nat)) : Prop := ¬ (t.k = 5 ∧ t.s ∈ l)
theorem Stop.sub {t : Tw} {l m : List (List Nat)} (h : Stop t m) (hs : ∀ x ∈ l, x ∈ m) : Stop t l := fun ⟨a, b⟩ => h ⟨a, hs _ b⟩
/-- A reader reads x off these tokens, with so many going on at most. -/
def Gets {α : Type} (T : List Nat) (f : Rr α) (x : α) (ts : List Tw) (l : List (List Nat)) (c : Nat) : Prop :=
  ∀ (p : Pst) (g : Nat) (t : Tw) (r : List Tw), St T p (ts ++ t :: r) g → g + c ≤ 250 → Stop t l → ∃ q, f p = some (x, q) ∧ St T q (t :: r) g
section
variable {T : List Nat}
theorem two_pass {f : Rr Ex} {x : Ex} {ts : List Tw} {l sg : List (List Nat)} {c most : Nat} (h : Gets T f x ts l c) (hs : ∀ y ∈ sg, y ∈ l) : Gets T (twosF T f (most + 1) sg) x ts l c := by
  intro p g t r hst hg hstop
  obtain ⟨q, h1, h2⟩ := h p g t r hst hg hstop
  refine ⟨q, ?_, h2⟩
  unfold twosF
  rw [h1]
  dsimp only
  rw [twoF, h2.one_miss (hstop.sub hs), if_pos rfl]
theorem ne_of_mem {s : List Nat} {l : List (List Nat)} (h : s ∈ l) (hl : l.all (fun y => decide (y ≠ [])) = true) : s ≠ [] := of_decide_eq_true (List.all_eq_true.1 hl s h)
theorem two_bin (hT : T.length ≤ 32768) {f : Rr Ex} {x y : Ex} {a b : List Tw} {o : Tw} {s : List Nat} {l l' sg : List (List Nat)} {c most : Nat} (hx : Gets T f x a l' c) (hy : Gets T f y b l c) (ho : isS o s) (hs : s ∈ sg) (hsg : sg.all (fun y => decide (y ≠ [])) = true) (hl' : s ∉ l') (hl : ∀ y ∈ sg, y ∈ l) (hb : b ≠ []) :
    Gets T (twosF T f (most + 1) sg) (.mk 7 s 0 [x, y]) (a ++ o :: b) l c := by
  intro p g t r hst hg hstop
  rw [List.append_assoc, List.cons_append] at hst
  obtain ⟨q, h1, h2⟩ := hx p g o _ hst hg (fun h => hl' (ho.2 ▸ h.2))
  obtain ⟨b0, b1, rfl⟩ : ∃ b0 b1, b = b0 :: b1 := by
    cases b with
    | nil => exact absurd rfl hb
    | cons b0 b1 => exact ⟨b0, b1, rfl⟩
  have h3 := h2.step hT
  obtain ⟨q2, h4, h5⟩ := hy _ g t r h3 hg hstop
  refine ⟨q2, ?_, h5⟩
  unfold twosF
  rw [h1]
  dsimp only
  rw [twoF, h2.one_hit ho.1 (by rw [ho.2]; exact hs), if_neg (by rw [ho.2]; exact ne_of_mem hs hsg)]
  dsimp only
  rw [h4]
  dsimp only
  rw [ho.2]
  cases most with
  | zero => rw [twoF]
  | succ m => rw [twoF, h5.one_miss (hstop.sub hl), if_pos rfl]
/-- No expression is written with nothing. -/
theorem RX_ne {x : Ex} {ts : List Tw} (h : RX x ts) : ts ≠ [] := by
  obtain ⟨k, s, n, l⟩ := x
  rw [RX] at h
  rintro rfl
  rcases h with ⟨-, -, -, t, h, -⟩ | ⟨-, -, -, t, h, -⟩ | ⟨-, -, -, t, h, -⟩ | ⟨-, -, -, t, h, -⟩ | ⟨-, -, -, -, t, h, -⟩ | ⟨-, -, -, -, o, m, c, h, -⟩ | ⟨-, -, -, o, a, h, -⟩ | ⟨-, -, -, a, o, b, h, -⟩ | ⟨-, -, -, a, o, b, c, h, -⟩ | ⟨-, -, -, -, t, a, h, -⟩ | ⟨-, -, t, u, a, h, -⟩ | ⟨-, -, t, u, a, h, -⟩ <;> simp at h
theorem RP_ne {x : Ex} {ts : List Tw} (h : RP x ts) : ts ≠ [] := by
  rcases h with ⟨-, h⟩ | ⟨-, o, m, c, rfl, -⟩
  · exact RX_ne h
  · simp
/-! Lists. -/
theorem more_gets (hT : T.length ≤ 32768) {α : Type} {one : Rr α} {c : Nat} (W : α → List Tw → Prop) (WR : List α → List Tw → Prop) (hnil : ∀ ts, WR [] ts → ts = []) (hcons : ∀ x r ts, WR (x :: r) ts → ∃ o a b, ts = o :: (a ++ b) ∧ isS o [44] ∧ W x a ∧ a ≠ [] ∧ WR r b) :
    ∀ (l : List α) (ts : List Tw) (acc : List α) (m : Nat), WR l ts → (∀ x ∈ l, ∀ a, W x a → Gets T one x a sGo c) → l.length < m →
      ∀ (p : Pst) (g : Nat) (e t : Tw) (r : List Tw), St T p (ts ++ e :: t :: r) g → isS e [41] → g + c ≤ 250 → ∃ q, moreF T one m acc p = some (acc ++ l, q) ∧ St T q (t :: r) g
  | [], ts, acc, m, hw, _, hm, p, g, e, t, r, hst, he, hg => by
    rw [hnil ts hw, List.nil_append] at hst
    obtain ⟨m', rfl⟩ : ∃ m', m = m' + 1 := ⟨m - 1, by simp at hm; omega⟩
    refine ⟨p.step T, ?_, hst.step hT⟩
    rw [moreF, hst.one_miss (fun h => by rw [he.2] at h; exact absurd h.2 (by decide)), if_pos rfl]
    dsimp only
    rw [hst.must he.1 he.2 (by decide), List.append_nil]
  | x :: l, ts, acc, m, hw, hx, hm, p, g, e, t, r, hst, he, hg => by
    obtain ⟨o, a, b, rfl, ho, h1, h2, h3⟩ := hcons x l ts hw
    obtain ⟨m', rfl⟩ : ∃ m', m = m' + 1 := ⟨m - 1, by simp at hm; omega⟩
    have hst' : St T p (o :: (a ++ (b ++ e :: t :: r))) g := by simpa using hst
    obtain ⟨a0, a1, rfl⟩ : ∃ a0 a1, a = a0 :: a1 := by
      cases a with
      | nil => exact absurd rfl h2
      | cons a0 a1 => exact ⟨a0, a1, rfl⟩
    have hs1 := hst'.step hT
    -- what stands behind x
    obtain ⟨z, y, hzy, hz⟩ : ∃ z y, b ++ e :: t :: r = z :: y ∧ Stop z sGo := by
      cases l with
      | nil =>
        rw [hnil b h3]
        exact ⟨e, t :: r, rfl, fun h => by rw [he.2] at h; exact absurd h.2 (by decide)⟩
      | cons x' l' =>
        obtain ⟨o', a', b', rfl, ho', -⟩ := hcons x' l' b h3
        exact ⟨o', _, rfl, fun h => by rw [ho'.2] at h; exact absurd h.2 (by decide)⟩
    rw [hzy] at hs1
    obtain ⟨q, h4, h5⟩ := hx x (by simp) _ h1 _ g z y hs1 hg hz
    rw [← hzy] at h5
    obtain ⟨q2, h6, h7⟩ := more_gets hT W WR hnil hcons l b (acc ++ [x]) m' h3 (fun y hy => hx y (by simp [hy])) (by simp at hm; omega) q g e t r h5 he hg
    refine ⟨q2, ?_, h7⟩
    rw [moreF, hst'.one_hit ho.1 (by simp [ho.2]), if_neg (show ¬ o.s = [] by rw [ho.2]; decide)]
    dsimp only
    rw [h4]
    dsimp only
    rw [h6]
    simp
end
end Go.Proofs.YtpakjjefbholdaaGreatDoor
namespace Go.Proofs.YtpakjjefbholdaaGreatDoor
set_option linter.unusedVariables false

/-- With commas between. -/
def CR {α : Type} (W : α → List Tw → Prop) : List α → List Tw → Prop
  | [], ts => ts = []
  | x :: r, ts => ∃ c a b, ts = c :: (a ++ b) ∧ isS c [44] ∧ W x a ∧ CR W r b
def CS {α : Type} (W : α → List Tw → Prop) : List α → List Tw → Prop
  | [], ts => ts = []
  | x :: r, ts => ∃ a b, ts = a ++ b ∧ W x a ∧ CR W r b
theorem RXr_eq : ∀ (l : List Ex) (ts : List Tw), RXr l ts → CR RX l ts
  | [], ts, h => by rw [RXr] at h; exact h
  | x :: r, ts, h => by
    rw [RXr] at h
    obtain ⟨c, a, b, h1, h2, h3, h4⟩ := h
    exact ⟨c, a, b, h1, h2, h3, RXr_eq r b h4⟩
theorem RXs_eq (l : List Ex) (ts : List Tw) (h : RXs l ts) : CS RX l ts := by
  cases l with
  | nil => rw [RXs] at h; exact h
  | cons x r =>
    rw [RXs] at h
    obtain ⟨a, b, h1, h2, h3⟩ := h
    exact ⟨a, b, h1, h2, RXr_eq r b h3⟩
/-- What is written does not begin with a sign that ends a list. -/
def Hd (a : List Tw) : Prop := ∃ t r, a = t :: r ∧ ¬ (t.k = 5 ∧ t.s = [41])
theorem Hd.app {a : List Tw} (h : Hd a) (b : List Tw) : Hd (a ++ b) := by
  obtain ⟨t, r, rfl, h⟩ := h
  exact ⟨t, r ++ b, rfl, h⟩
theorem Par.hd {f : List Tw → Prop} {a : List Tw} (h : Par f a) : Hd a := by
  obtain ⟨o, m, c, rfl, h1, -⟩ := h
  exact ⟨o, _, rfl, fun h => by rw [h1.2] at h; exact absurd h.2 (by decide)⟩
theorem RX_hd : ∀ (N : Nat) (x : Ex) (a : List Tw), szE x ≤ N → RX x a → Hd a
  | 0, x, a, h, _ => by have := szE_pos x; omega
  | N + 1, .mk k s n l, a, hz, h => by
    rw [RX] at h
    rw [szE] at hz
    have hp : ∀ x ∈ l, ∀ a, RP x a → Hd a := fun x hx a h => by
      rcases h with ⟨-, h⟩ | ⟨-, h⟩
      · refine RX_hd N x a ?_ h
        have : ∀ (l : List Ex), x ∈ l → szE x ≤ szEs l := by
          intro l
          induction l with
          | nil => intro h; cases h
          | cons y r ih =>
            intro h
            rw [szEs]
            rcases List.mem_cons.1 h with rfl | h
            · omega
            · have := ih h; omega
        have := this l hx
        omega
      · exact h.hd
    rcases h with ⟨-, -, -, t, rfl, h1, -⟩ | ⟨-, -, -, t, rfl, h1⟩ | ⟨-, -, -, t, rfl, h1, -⟩ | ⟨-, -, -, t, rfl, h1⟩ | ⟨-, -, -, -, t, rfl, h1⟩ | ⟨-, -, -, -, h1⟩ | ⟨-, -, hs, o, a, rfl, h1, -⟩ | ⟨-, -, -, a, o, b, rfl, h1, h2⟩ | ⟨-, -, -, a, o, b, c, rfl, -, -, h2⟩ | ⟨-, -, -, -, t, a, rfl, h1, -⟩ | ⟨-, -, t, u, a, rfl, h1, -⟩ | ⟨-, -, t, u, a, rfl, h1, -⟩
    · exact ⟨t, [], rfl, fun h => by rw [h1] at h; cases h.1⟩
    · rcases h1 with ⟨-, h1⟩ | ⟨-, h1⟩ <;> exact ⟨t, [], rfl, fun h => by rw [h1.1] at h; cases h.1⟩
    · exact ⟨t, [], rfl, fun h => by rw [h1] at h; cases h.1⟩
    · exact ⟨t, [], rfl, fun h => by rw [h1.1] at h; cases h.1⟩
    · exact ⟨t, [], rfl, fun h => by rw [h1.1] at h; cases h.1⟩
    · exact h1.hd
    · refine ⟨o, a, rfl, fun h => ?_⟩
      rw [h1.2] at h
      rw [h.2] at hs
      exact absurd hs (by decide)
    · obtain ⟨x, y, rfl, h3, -⟩ := RPs_two h2
      exact (hp x (by simp) a h3).app _
    · obtain ⟨x, y, rfl, h3, -⟩ := RPX_two h2
      exact (hp x (by simp) a h3).app _
    · exact ⟨t, _, rfl, fun h => by rw [h1.1] at h; cases h.1⟩
    · exact ⟨t, _, rfl, fun h => by rw [h1.1] at h; cases h.1⟩
    · exact ⟨t, _, rfl, fun h => by rw [h1.1] at h; cases h.1⟩
section
variable {T : List Nat}
theorem Hd.ne {a : List Tw} (h : Hd a) : a ≠ [] := by
  obtain ⟨t, r, rfl, -⟩ := h
  simp
/-- A list in parentheses is read. -/
theorem list_gets (hT : T.length ≤ 32768) {α : Type} {one : Rr α} {c m : Nat} (W : α → List Tw → Prop) (hh : ∀ x a, W x a → Hd a) (l : List α) (ts : List Tw) (hw : Par (CS W l) ts) (hx : ∀ x ∈ l, ∀ a, W x a → Gets T one x a sGo c) (hm : l.length ≤ m)
    (p : Pst) (g : Nat) (t : Tw) (r : List Tw) (hst : St T p (ts ++ t :: r) g) (hg : g + c ≤ 250) : ∃ q, listF T one m p = some (l, q) ∧ St T q (t :: r) g := by
  obtain ⟨o, mid, e, rfl, ho, he, hw⟩ := hw
  have hst' : St T p (o :: (mid ++ e :: t :: r)) g := by simpa using hst
  unfold listF
  rw [hst'.must ho.1 ho.2 (by decide), if_neg (by simp)]
  dsimp only
  cases l with
  | nil =>
    have : mid = [] := hw
    subst this
    have h1 := hst'.step hT
    refine ⟨(p.step T).step T, ?_, h1.step hT⟩
    rw [h1.one_hit he.1 (by simp [he.2]), if_pos (show e.s ≠ [] by rw [he.2]; decide)]
  | cons x l =>
    obtain ⟨a, b, rfl, h1, h2⟩ := hw
    obtain ⟨a0, a1, rfl, h3⟩ := hh x a h1
    have h5' : St T p (o :: a0 :: (a1 ++ (b ++ e :: t :: r))) g := by simpa using hst'
    have h4 : St T (p.step T) (a0 :: a1 ++ (b ++ e :: t :: r)) g := h5'.step hT
    have h5 : St T (p.step T) (a0 :: (a1 ++ (b ++ e :: t :: r))) g := h4
    rw [h5.one_miss (fun h => h3 ⟨h.1, by simpa using h.2⟩), if_neg (by simp)]
    dsimp only
    obtain ⟨z, y, hzy, hz⟩ : ∃ z y, b ++ e :: t :: r = z :: y ∧ Stop z sGo := by
      cases l with
      | nil =>
        have : b = [] := h2
        subst this
        exact ⟨e, t :: r, rfl, fun h => by rw [he.2] at h; exact absurd h.2 (by decide)⟩
      | cons x' l' =>
        obtain ⟨o', a', b', rfl, ho', -⟩ := h2
        exact ⟨o', _, rfl, fun h => by rw [ho'.2] at h; exact absurd h.2 (by decide)⟩
    rw [hzy] at h4
    obtain ⟨q, h6, h7⟩ := hx x (by simp) _ h1 _ g z y h4 hg hz
    rw [← hzy] at h7
    rw [h6]
    dsimp only
    obtain ⟨q2, h8, h9⟩ := more_gets hT W (CR W) (fun _ h => h) (fun x r ts h => by obtain ⟨c, a, b, e1, e2, e3, e4⟩ := h; exact ⟨c, a, b, e1, e2, e3, (hh x a e3).ne, e4⟩) l b [x] m h2 (fun y hy => hx y (by simp [hy])) (by simp at hm; omega) q g e t r h7 he hg
    exact ⟨q2, h8, h9⟩
end
end Go.Proofs.YtpakjjefbholdaaGreatDoor
namespace Go.Proofs.YtpakjjefbholdaaGreatDoor
set_option linter.unusedVariables false

theorem szE_mem {x : Ex} : ∀ {l : List Ex}, x ∈ l → szE x ≤ szEs l
  | [], h => by cases h
  | y :: r, h => by
    rw [szEs]
    rcases List.mem_cons.1 h with rfl | h
    · omega
    · have := szE_mem h; omega
theorem dpE_mem {x : Ex} : ∀ {l : List Ex}, x ∈ l → dpE x ≤ dpEs l
  | [], h => by cases h
  | y :: r, h => by
    rw [dpEs]
    rcases List.mem_cons.1 h with rfl | h
    · omega
    · have := dpE_mem h; omega
theorem dpE_pos (x : Ex) : 1 ≤ dpE x := by
  obtain ⟨k, s, n, l⟩ := x
  rw [dpE]
  omega
/-- All smaller expressions are read by that reader. -/
def Less (T : List Nat) (or : Rr Ex) (N : Nat) : Prop := ∀ y, szE y < N → ∀ ts, RX y ts → Gets T or y ts sGo (3 * dpE y)
section
variable {T : List Nat} {or : Rr Ex} {N : Nat}
theorem Gets.mono {α : Type} {f : Rr α} {x : α} {ts : List Tw} {l : List (List Nat)} {c c' : Nat} (h : Gets T f x ts l c) (hc : c ≤ c') : Gets T f x ts l c' := fun p g t r a b d => h p g t r a (by omega) d
/-- A list of smaller expressions. -/
theorem lists_get (hT : T.length ≤ 32768) (IH : Less T or N) (l : List Ex) (hl : szEs l < N) {m : Nat} (hm : N ≤ m) (ts : List Tw) (h : Par (RXs l) ts) (p : Pst) (g : Nat) (t : Tw) (r : List Tw) (hst : St T p (ts ++ t :: r) g) (hg : g + 3 * dpEs l ≤ 250) : ∃ q, listF T or m p = some (l, q) ∧ St T q (t :: r) g := by
  obtain ⟨o, mid, e, h1, h2, h3, h4⟩ := h
  have hlen := szEs_len l
  refine list_gets hT (c := 3 * dpEs l) (fun x a => RX x a ∧ szE x < N ∧ dpE x ≤ dpEs l) (fun x a h => RX_hd _ x a (Nat.le_refl _) h.1) l ts ⟨o, mid, e, h1, h2, h3, ?_⟩ (fun x hx a h => (IH x h.2.1 a h.1).mono (by have := h.2.2; omega)) (by omega) p g t r hst hg
  have key : ∀ (l' : List Ex) (ts : List Tw), (∀ x ∈ l', x ∈ l) → CR RX l' ts → CR (fun x a => RX x a ∧ szE x < N ∧ dpE x ≤ dpEs l) l' ts := by
    intro l'
    induction l' with
    | nil => intro ts _ h; exact h
    | cons x r ih =>
      intro ts hm h
      obtain ⟨c, a, b, e1, e2, e3, e4⟩ := h
      have hx := hm x (by simp)
      exact ⟨c, a, b, e1, e2, ⟨e3, by have := szE_mem hx; omega, dpE_mem hx⟩, ih b (fun y hy => hm y (by simp [hy])) e4⟩
  have h5 := RXs_eq l mid h4
  cases l with
  | nil => exact h5
  | cons x r =>
    obtain ⟨a, b, e1, e2, e3⟩ := h5
    have hx : x ∈ x :: r := by simp
    exact ⟨a, b, e1, ⟨e2, by have := szE_mem hx; omega, dpE_mem hx⟩, key r b (fun y hy => by simp [hy]) e3⟩
/-- A primary expression. -/
theorem primary_get (hT : T.length ≤ 32768) (IH : Less T or N) (k : Nat) (s : List Nat) (n : Int) (l : List Ex) (hz : szEs l < N) (h7 : k ≠ 7) (h8 : k ≠ 8) (ts : List Tw) (h : RX (.mk k s n l) ts) (p : Pst) (g : Nat) (t : Tw) (r : List Tw) (hst : St T p (ts ++ t :: r) g) (hg : g + 3 * dpEs l ≤ 250) :
    ∃ q, primaryF T or N p = some (.mk k s n l, q) ∧ St T q (t :: r) g := by
  rw [RX] at h
  unfold primaryF
  rcases h with ⟨rfl, rfl, rfl, u, rfl, h1, rfl⟩ | ⟨rfl, rfl, rfl, u, rfl, h1⟩ | ⟨rfl, rfl, rfl, u, rfl, h1, rfl⟩ | ⟨rfl, rfl, rfl, u, rfl, h1, rfl⟩ | ⟨rfl, rfl, rfl, rfl, u, rfl, h1⟩ | ⟨rfl, rfl, rfl, hne, h1⟩ | ⟨rfl, -⟩ | ⟨rfl, -⟩ | ⟨rfl, -⟩ | ⟨rfl, rfl, rfl, hl1, u, a, rfl, h1, h2⟩ | ⟨rfl, rfl, u, v, a, rfl, h1, h3, h2⟩ | ⟨rfl, rfl, u, v, a, rfl, h1, h3, h2⟩
  · refine ⟨p.step T, ?_, St.step hT hst⟩
    rw [if_pos (hst.k.trans h1), hst.n]
  · have hs : St T (p.step T) (t :: r) g := St.step hT hst
    have hk : p.k = 4 := hst.k.trans (by rcases h1 with ⟨-, h1⟩ | ⟨-, h1⟩ <;> exact h1.1)
    rw [if_neg (by omega), if_neg (by omega), if_neg (by omega), if_pos hk]
    unfold keyedF
    rcases h1 with ⟨rfl, h1⟩ | ⟨rfl, h1⟩
    · rw [St.one_hit hst h1.1 (by rw [h1.2]; decide)]
      dsimp only
      rw [if_pos h1.2]
      exact ⟨_, rfl, hs⟩
    · rw [St.one_hit hst h1.1 (by rw [h1.2]; decide)]
      dsimp only
      rw [h1.2, if_neg (by decide), if_pos rfl]
      exact ⟨_, rfl, hs⟩
  · refine ⟨p.step T, ?_, St.step hT hst⟩
    have hk : p.k = 2 := hst.k.trans h1
    rw [if_neg (by omega), if_pos hk, hst.s]
  · refine ⟨p.step T, ?_, St.step hT hst⟩
    have hk : p.k = 3 := hst.k.trans h1
    rw [if_neg (by omega), if_neg (by omega), if_pos hk, hst.s]
  · have hs : St T (p.step T) (t :: r) g := St.step hT hst
    have hk : p.k = 4 := hst.k.trans h1.1
    rw [if_neg (by omega), if_neg (by omega), if_neg (by omega), if_pos hk]
    unfold keyedF
    rw [St.one_hit hst h1.1 (by rw [h1.2]; decide)]
    dsimp only
    rw [h1.2, if_neg (by decide), if_neg (by decide), if_pos rfl]
    exact ⟨_, rfl, hs⟩
  · obtain ⟨q, h2, h3⟩ := lists_get hT IH l hz (Nat.le_refl _) ts h1 p g t r hst hg
    obtain ⟨o, mid, e, rfl, ho, -⟩ := h1
    have hk : p.k = 5 := (St.k hst).trans ho.1
    rw [if_neg (by omega), if_neg (by omega), if_neg (by omega), if_neg (by omega), h2]
    refine ⟨q, ?_, h3⟩
    dsimp only
    unfold tupF
    split
    · simp at hne
    · rfl
  · exact absurd rfl h7
  · exact absurd rfl h7
  · exact absurd rfl h8
  · have hk : p.k = 4 := (St.k hst).trans h1.1
    rw [if_neg (by omega), if_neg (by omega), if_neg (by omega), if_pos hk]
    unfold keyedF
    obtain ⟨o, mid, e, rfl, ho, he, h5⟩ := h2
    obtain ⟨x, rfl⟩ := List.length_eq_one_iff.1 hl1
    rw [RXs] at h5
    obtain ⟨a, b, rfl, h6, h7'⟩ := h5
    rw [RXr] at h7'
    subst h7'
    have hst1 : St T p (u :: o :: (a ++ e :: t :: r)) g := by simpa using hst
    have hst2 := hst1.step hT
    obtain ⟨a0, a1, rfl, -⟩ := RX_hd _ x a (Nat.le_refl _) h6
    have hst3 : St T ((p.step T).step T) (a0 :: a1 ++ e :: t :: r) g := hst2.step hT
    obtain ⟨q, h8', h9⟩ := IH x (by simp [szEs] at hz; omega) _ h6 _ g e (t :: r) hst3 (by simp [dpEs] at hg; omega) (fun h => by rw [he.2] at h; exact absurd h.2 (by decide))
    rw [St.one_hit hst1 h1.1 (by rw [h1.2]; decide)]
    dsimp only
    rw [h1.2, if_neg (by decide), if_neg (by decide), if_neg (by decide), if_pos rfl, hst2.must ho.1 ho.2 (by decide)]
    dsimp only
    rw [h8']
    dsimp only
    rw [h9.must he.1 he.2 (by decide)]
    exact ⟨_, rfl, h9.step hT⟩
  all_goals
    have hk : p.k = 4 := (St.k hst).trans h1.1
    rw [if_neg (by omega), if_neg (by omega), if_neg (by omega), if_pos hk]
    unfold keyedF withF
    have hst1 : St T p (u :: v :: (a ++ t :: r)) g := by simpa using hst
    have hst2 := hst1.step hT
    obtain ⟨a0, a1, rfl, -⟩ := h2.hd
    have hst3 : St T ((p.step T).step T) (a0 :: a1 ++ t :: r) g := hst2.step hT
    obtain ⟨q, h8', h9⟩ := lists_get hT IH l hz (Nat.le_refl _) _ h2 _ g t r hst3 hg
    rw [St.one_hit hst1 h1.1 (by rw [h1.2]; decide)]
    dsimp only
    rw [h1.2]
    simp only [show ([99, 97, 108, 108] : List Nat) = [116, 114, 117, 101] ↔ False by decide, show ([99, 97, 108, 108] : List Nat) = [102, 97, 108, 115, 101] ↔ False by decide, show ([99, 97, 108, 108] : List Nat) = [115, 101, 108, 102] ↔ False by decide, show ([99, 97, 108, 108] : List Nat) = [108, 101, 110] ↔ False by decide, show ([115, 112, 97, 119, 110] : List Nat) = [116, 114, 117, 101] ↔ False by decide, show ([115, 112, 97, 119, 110] : List Nat) = [102, 97, 108, 115, 101] ↔ False by decide, show ([115, 112, 97, 119, 110] : List Nat) = [115, 101, 108, 102] ↔ False by decide, show ([115, 112, 97, 119, 110] : List Nat) = [108, 101, 110] ↔ False by decide, show ([115, 112, 97, 119, 110] : List Nat) = [99, 97, 108, 108] ↔ False by decide, if_false, if_true]
    rw [hst2.name h3.1]
    dsimp only
    rw [h8']
    dsimp only
    rw [h3.2]
    exact ⟨_, rfl, h9⟩
end
end Go.Proofs.YtpakjjefbholdaaGreatDoor
namespace Go.Proofs.YtpakjjefbholdaaGreatDoor
set_option linter.unusedVariables false

/-- What is no operation does not begin with a sign of one. -/
theorem RX_hd2 : ∀ (N : Nat) (x : Ex) (a : List Tw), szE x ≤ N → opK x = false → RX x a → ∃ t r, a = t :: r ∧ ¬ (t.k = 5 ∧ t.s ∈ sUn)
  | 0, x, a, h, _, _ => by have := szE_pos x; omega
  | N + 1, .mk k s n l, a, hz, ho, h => by
    rw [RX] at h
    rw [szE] at hz
    have h7 : k ≠ 7 := fun e => by subst e; cases ho
    rcases h with ⟨-, -, -, t, rfl, h1, -⟩ | ⟨-, -, -, t, rfl, h1⟩ | ⟨-, -, -, t, rfl, h1, -⟩ | ⟨-, -, -, t, rfl, h1⟩ | ⟨-, -, -, -, t, rfl, h1⟩ | ⟨-, -, -, -, h1⟩ | ⟨e, -⟩ | ⟨e, -⟩ | ⟨-, -, -, a, o, b, c, rfl, -, -, h2⟩ | ⟨-, -, -, -, t, a, rfl, h1, -⟩ | ⟨-, -, t, u, a, rfl, h1, -⟩ | ⟨-, -, t, u, a, rfl, h1, -⟩
    · exact ⟨t, [], rfl, fun h => by rw [h1] at h; cases h.1⟩
    · rcases h1 with ⟨-, h1⟩ | ⟨-, h1⟩ <;> exact ⟨t, [], rfl, fun h => by rw [h1.1] at h; cases h.1⟩
    · exact ⟨t, [], rfl, fun h => by rw [h1] at h; cases h.1⟩
    · exact ⟨t, [], rfl, fun h => by rw [h1.1] at h; cases h.1⟩
    · exact ⟨t, [], rfl, fun h => by rw [h1.1] at h; cases h.1⟩
    · obtain ⟨o, m, c, rfl, h3, -⟩ := h1
      exact ⟨o, _, rfl, fun h => by rw [h3.2] at h; exact absurd h.2 (by decide)⟩
    · exact absurd e h7
    · exact absurd e h7
    · obtain ⟨x, y, rfl, h3, -⟩ := RPX_two h2
      rcases h3 with ⟨h4, h5⟩ | ⟨-, o', m, c', rfl, h5, -⟩
      · obtain ⟨t, r, rfl, h6⟩ := RX_hd2 N x a (by simp [szEs] at hz; omega) h4 h5
        exact ⟨t, _, rfl, h6⟩
      · exact ⟨o', _, rfl, fun h => by rw [h5.2] at h; exact absurd h.2 (by decide)⟩
    · exact ⟨t, _, rfl, fun h => by rw [h1.1] at h; cases h.1⟩
    · exact ⟨t, _, rfl, fun h => by rw [h1.1] at h; cases h.1⟩
    · exact ⟨t, _, rfl, fun h => by rw [h1.1] at h; cases h.1⟩
section
variable {T : List Nat} {or : Rr Ex} {N : Nat}
/-- A part that is small enough. -/
def Pt (N : Nat) (x : Ex) (ts : List Tw) : Prop := (opK x = false ∧ RX x ts ∧ szE x ≤ N) ∨ (opK x = true ∧ Par (RX x) ts ∧ szE x < N)
theorem Pt.of {x : Ex} {ts : List Tw} (h : RP x ts) (hz : szE x < N) : Pt N x ts := by
  rcases h with ⟨a, b⟩ | ⟨a, b⟩
  · exact .inl ⟨a, b, by omega⟩
  · exact .inr ⟨a, b, hz⟩
theorem Pt.hd {x : Ex} {ts : List Tw} (h : Pt N x ts) : ∃ t r, ts = t :: r ∧ ¬ (t.k = 5 ∧ t.s ∈ sUn) := by
  rcases h with ⟨a, b, -⟩ | ⟨-, ⟨o, m, c, rfl, h, -⟩, -⟩
  · exact RX_hd2 _ x ts (Nat.le_refl _) a b
  · exact ⟨o, _, rfl, fun e => by rw [h.2] at e; exact absurd e.2 (by decide)⟩
theorem post_get (hT : T.length ≤ 32768) (IH : Less T or N) : ∀ (M : Nat) (x : Ex), szE x ≤ M → ∀ ts, Pt N x ts → ∀ p g t r, St T p (ts ++ t :: r) g → (opK x = false → g + 3 * dpE x ≤ 253) → (opK x = true → g + 3 * dpE x ≤ 250) →
    ∃ q m, postF T or N p = placesF T or (m + 1) x q ∧ N ≤ m + szE x ∧ St T q (t :: r) g
  | 0, x, h => by have := szE_pos x; omega
  | M + 1, x, hM => fun ts h p g t r hst hg1 hg2 => by
    rcases h with ⟨ho, h, hz⟩ | ⟨ho, h, hz⟩
    · obtain ⟨k, s, n, l⟩ := x
      have hg := hg1 ho
      rw [szE] at hz hM
      rw [dpE] at hg
      by_cases h8 : k = 8
      · subst h8
        rw [RX] at h
        simp only [show ((8 : Nat) = 1) = False by simp, show ((8 : Nat) = 2) = False by simp, show ((8 : Nat) = 3) = False by simp, show ((8 : Nat) = 4) = False by simp, show ((8 : Nat) = 5) = False by simp, show ((8 : Nat) = 6) = False by simp, show ((8 : Nat) = 7) = False by simp, show ((8 : Nat) = 9) = False by simp, show ((8 : Nat) = 10) = False by simp, show ((8 : Nat) = 11) = False by simp, false_and, false_or, or_false, true_and] at h
        obtain ⟨rfl, rfl, a, o, b, c, rfl, h1, h2, h3⟩ := h
        obtain ⟨x, y, rfl, h4, h5⟩ := RPX_two h3
        simp only [szEs, dpEs] at hz hM hg
        have hpx := szE_pos x
        have hpy := szE_pos y
        have hst1 : St T p (a ++ o :: (b ++ c :: t :: r)) g := by simpa using hst
        obtain ⟨q1, m1, e1, e2, e3⟩ := post_get hT IH M x (by omega) a (Pt.of h4 (by omega)) p g o _ hst1 (fun _ => by omega) (fun _ => by omega)
        obtain ⟨b0, b1, rfl, -⟩ := RX_hd _ y b (Nat.le_refl _) h5
        have hst2 : St T (q1.step T) (b0 :: b1 ++ c :: t :: r) g := e3.step hT
        obtain ⟨q2, e4, e5⟩ := IH y (by omega) _ h5 _ g c (t :: r) hst2 (by omega) (fun h => by rw [h2.2] at h; exact absurd h.2 (by decide))
        obtain ⟨m2, rfl⟩ : ∃ m2, m1 = m2 + 1 := ⟨m1 - 1, by omega⟩
        refine ⟨q2.step T, m2, ?_, by simp only [szE, szEs]; omega, e5.step hT⟩
        rw [e1, placesF, e3.one_hit h1.1 (by simp [h1.2]), if_neg (show ¬ o.s = [] by rw [h1.2]; decide)]
        dsimp only
        rw [e4]
        dsimp only
        rw [e5.must h2.1 h2.2 (by decide)]
      · obtain ⟨q, h1, h2⟩ := primary_get hT IH k s n l (by omega) (fun e => by subst e; cases ho) h8 ts h p g t r hst (by omega)
        obtain ⟨N', rfl⟩ : ∃ N', N = N' + 1 := ⟨N - 1, by omega⟩
        refine ⟨q, N', ?_, by rw [szE]; omega, h2⟩
        unfold postF
        rw [h1]
    · have hg := hg2 ho
      obtain ⟨N', rfl⟩ : ∃ N', N = N' + 1 := ⟨N - 1, by omega⟩
      have h' : Par (RXs [x]) ts := by
        obtain ⟨o, m, c, h1, h2, h3, h4⟩ := h
        refine ⟨o, m, c, h1, h2, h3, ?_⟩
        rw [RXs]
        exact ⟨m, [], by simp, h4, by rw [RXr]⟩
      obtain ⟨q, h1, h2⟩ := lists_get hT IH [x] (by simp [szEs]; omega) (Nat.le_refl _) ts h' p g t r hst (by simp [dpEs]; omega)
      obtain ⟨o, mid, e, rfl, h3, -⟩ := h
      have hk : p.k = 5 := (St.k hst).trans h3.1
      refine ⟨q, N', ?_, by have := szE_pos x; omega, h2⟩
      unfold postF primaryF
      rw [if_neg (by omega), if_neg (by omega), if_neg (by omega), if_neg (by omega), h1]
      rfl
/-- A part is read by the rule of one. -/
theorem part_get (hT : T.length ≤ 32768) (IH : Less T or N) {x : Ex} {ts : List Tw} (h : Pt N x ts) (j : Nat) {l : List (List Nat)} (hl : [91] ∈ l) {c : Nat} (hc1 : opK x = false → 3 * dpE x ≤ c + 2) (hc2 : opK x = true → 3 * dpE x + 1 ≤ c) (hc : 1 ≤ c) : Gets T (unaryF T or N (j + 1)) x ts l c := by
  intro p g t r hst hg hstop
  obtain ⟨t0, r0, rfl, h0⟩ := h.hd
  have hb := hst.begin (by omega)
  obtain ⟨q, m, h1, h2, h3⟩ := post_get hT IH _ x (Nat.le_refl _) _ h _ _ t r hb (fun e => by have := hc1 e; omega) (fun e => by have := hc2 e; omega)
  refine ⟨q.fin, ?_, h3.fin⟩
  have hb' : St T p.begin (t0 :: (r0 ++ t :: r)) (g + 1) := hb
  rw [unaryF, hb'.one_miss (show ¬ (t0.k = 5 ∧ t0.s ∈ [[45], [33]]) from h0), if_neg (by simp)]
  dsimp only
  rw [h1, placesF, h3.one_miss (fun e => hstop ⟨e.1, by rw [List.mem_singleton.1 e.2]; exact hl⟩), if_pos rfl]
/-- A sign of one and a part are read by the rule of one. -/
theorem one_get (hT : T.length ≤ 32768) (IH : Less T or N) {y : Ex} {s : List Nat} {o : Tw} {a : List Tw} (ho : isS o s) (hs : s ∈ sUn) (h : Pt N y a) (j : Nat) {l : List (List Nat)} (hl : [91] ∈ l) : Gets T (unaryF T or N (j + 2)) (.mk 7 s 0 [y]) (o :: a) l (3 * dpE y + 2) := by
  intro p g t r hst hg hstop
  have hb := hst.begin (by omega)
  obtain ⟨t0, r0, rfl, h0⟩ := h.hd
  have hb' : St T p.begin (o :: t0 :: (r0 ++ t :: r)) (g + 1) := hb
  have h1 : St T (p.begin.step T) (t0 :: r0 ++ t :: r) (g + 1) := hb'.step hT
  obtain ⟨q, h2, h3⟩ := part_get hT IH h j hl (c := 3 * dpE y + 1) (fun _ => by omega) (fun _ => by omega) (by omega) _ _ t r h1 (by omega) hstop
  refine ⟨q.fin, ?_, h3.fin⟩
  rw [unaryF, hb'.one_hit ho.1 (by rw [ho.2]; exact hs), if_pos (show o.s ≠ [] by rw [ho.2]; exact ne_of_mem hs (by decide))]
  dsimp only
  rw [h2, ho.2]
theorem Gets.sub {α : Type} {f : Rr α} {x : α} {ts : List Tw} {l l' : List (List Nat)} {c : Nat} (h : Gets T f x ts l c) (hs : ∀ y ∈ l, y ∈ l') : Gets T f x ts l' c := fun p g t r a b d => h p g t r a b (d.sub hs)
end
/-- All that is written of an expression is read as it. -/
theorem reads {T : List Nat} (hT : T.length ≤ 32768) : ∀ N, Less T (orF T N) N
  | 0 => fun x h => by omega
  | N + 1 => fun x hx ts h => by
    have IH := reads hT N
    have hor : orF T (N + 1) = twosF T (twosF T (twosF T (twosF T (twosF T (unaryF T (orF T N) N N) 32768 sMul) 32768 sAdd) 1 sCmp) 32768 sAnd) 32768 sOr := by
      funext p
      rw [orF]
    rw [hor]
    have hp := szE_pos x
    have hdp := dpE_pos x
    obtain ⟨N', rfl⟩ : ∃ N', N = N' + 1 := ⟨N - 1, by omega⟩
    -- what is read by the rule of one
    have up : ∀ {ts : List Tw}, Gets T (unaryF T (orF T (N' + 1)) (N' + 1) (N' + 1)) x ts sGo (3 * dpE x) → Gets T (twosF T (twosF T (twosF T (twosF T (twosF T (unaryF T (orF T (N' + 1)) (N' + 1) (N' + 1)) 32768 sMul) 32768 sAdd) 1 sCmp) 32768 sAnd) 32768 sOr) x ts sGo (3 * dpE x) := fun h =>
      two_pass (two_pass (two_pass (two_pass (two_pass h (by decide)) (by decide)) (by decide)) (by decide)) (by decide)
    cases ho : opK x with
    | false => exact up (part_get hT IH (.inl ⟨ho, h, by omega⟩) N' (by decide) (fun _ => by omega) (fun e => by rw [ho] at e; cases e) (by omega))
    | true =>
      obtain ⟨k, s, n, l⟩ := x
      have h7 : k = 7 := by simpa [opK] using ho
      subst h7
      rw [RX] at h
      simp only [show ((7 : Nat) = 1) = False by simp, show ((7 : Nat) = 2) = False by simp, show ((7 : Nat) = 3) = False by simp, show ((7 : Nat) = 4) = False by simp, show ((7 : Nat) = 5) = False by simp, show ((7 : Nat) = 6) = False by simp, show ((7 : Nat) = 8) = False by simp, show ((7 : Nat) = 9) = False by simp, show ((7 : Nat) = 10) = False by simp, show ((7 : Nat) = 11) = False by simp, false_and, false_or, or_false, true_and] at h
      rcases h with ⟨rfl, hs, o, a, rfl, h1, h2⟩ | ⟨rfl, hs, a, o, b, rfl, h1, h2⟩
      · obtain ⟨y, rfl, h3⟩ := RPs_one h2
        have hy := szE_pos y
        simp only [szE, szEs] at hx
        obtain ⟨N'', rfl⟩ : ∃ N'', N' = N'' + 1 := ⟨N' - 1, by omega⟩
        exact up ((one_get hT IH h1 hs (Pt.of h3 (by omega)) N'' (by decide)).mono (by simp only [dpE, dpEs]; omega))
      · obtain ⟨y, z, rfl, h3, h4⟩ := RPs_two h2
        have hy := szE_pos y
        have hz := szE_pos z
        simp only [szE, szEs] at hx
        have hb : b ≠ [] := by
          intro e
          subst e
          rcases h4 with ⟨-, h⟩ | ⟨-, h⟩
          · exact RX_ne h rfl
          · obtain ⟨o, m, c, h, -⟩ := h; cases h
        have hd : dpE (.mk 7 s 0 [y, z]) = 1 + max (dpE y) (max (dpE z) 0) := by simp only [dpE, dpEs]
        have gy : ∀ (l : List (List Nat)), [91] ∈ l → Gets T (unaryF T (orF T (N' + 1)) (N' + 1) (N' + 1)) y a l (3 * dpE (.mk 7 s 0 [y, z])) := fun l hl => part_get hT IH (Pt.of h3 (by omega)) N' hl (fun _ => by omega) (fun _ => by omega) (by omega)
        have gz : ∀ (l : List (List Nat)), [91] ∈ l → Gets T (unaryF T (orF T (N' + 1)) (N' + 1) (N' + 1)) z b l (3 * dpE (.mk 7 s 0 [y, z])) := fun l hl => part_get hT IH (Pt.of h4 (by omega)) N' hl (fun _ => by omega) (fun _ => by omega) (by omega)
        generalize dpE (.mk 7 s 0 [y, z]) = D at *
        have hs' : s ∈ sMul ∨ s ∈ sAdd ∨ s ∈ sCmp ∨ s ∈ sAnd ∨ s ∈ sOr := by
          simpa [sTwo, or_assoc] using hs
        have out : ∀ (m l : List (List Nat)), m.all (fun y => decide (y ∉ l)) = true → s ∈ m → s ∉ l := fun m l h hm => of_decide_eq_true (List.all_eq_true.1 h s hm)
        rcases hs' with hs' | hs' | hs' | hs' | hs'
        · exact two_pass (two_pass (two_pass (two_pass (two_bin hT (gy [[91]] (by decide)) (gz sGo (by decide)) h1 hs' (by decide) (out sMul _ (by decide) hs') (by decide) hb) (by decide)) (by decide)) (by decide)) (by decide)
        · exact two_pass (two_pass (two_pass (two_bin hT (two_pass (gy ([[91]] ++ sMul) (by decide)) (by decide)) (two_pass (gz sGo (by decide)) (by decide)) h1 hs' (by decide) (out sAdd _ (by decide) hs') (by decide) hb) (by decide)) (by decide)) (by decide)
        · exact two_pass (two_pass (two_bin hT (two_pass (two_pass (gy ([[91]] ++ sMul ++ sAdd) (by decide)) (by decide)) (by decide)) (two_pass (two_pass (gz sGo (by decide)) (by decide)) (by decide)) h1 hs' (by decide) (out sCmp _ (by decide) hs') (by decide) hb) (by decide)) (by decide)
        · exact two_pass (two_bin hT (two_pass (two_pass (two_pass (gy ([[91]] ++ sMul ++ sAdd ++ sCmp) (by decide)) (by decide)) (by decide)) (by decide)) (two_pass (two_pass (two_pass (gz sGo (by decide)) (by decide)) (by decide)) (by decide)) h1 hs' (by decide) (out sAnd _ (by decide) hs') (by decide) hb) (by decide)
        · exact two_bin hT (two_pass (two_pass (two_pass (two_pass (gy ([[91]] ++ sMul ++ sAdd ++ sCmp ++ sAnd) (by decide)) (by decide)) (by decide)) (by decide)) (by decide)) (two_pass (two_pass (two_pass (two_pass (gz sGo (by decide)) (by decide)) (by decide)) (by decide)) (by decide)) h1 hs' (by decide) (out sOr _ (by decide) hs') (by decide) hb
end Go.Proofs.YtpakjjefbholdaaGreatDoor
namespace Go.Proofs.YtpakjjefbholdaaGreatDoor
set_option linter.unusedVariables false

def kLet : List Nat := [108, 101, 116]
def kSet : List Nat := [115, 101, 116]
def kIf : List Nat := [105, 102]
def kWhile : List Nat := [119, 104, 105, 108, 101]
def kReturn : List Nat := [114, 101, 116, 117, 114, 110]
def kSend : List Nat := [115, 101, 110, 100]
def kBecome : List Nat := [98, 101, 99, 111, 109, 101]
def kStop : List Nat := [115, 116, 111, 112]
def kElse : List Nat := [101, 108, 115, 101]
/-- In braces. -/
def Brc (f : List Tw → Prop) (ts : List Tw) : Prop := ∃ o m c, ts = o :: (m ++ [c]) ∧ isS o [123] ∧ isS c [125] ∧ f m
mutual
/-- A statement is written as these tokens. -/
def RS : Sm → List Tw → Prop
  | .mk k s x b e ln, ts =>
    (∃ t r, ts = t :: r ∧ ln = (t.ln : Int)) ∧
    ((k = 1 ∧ b = [] ∧ e = [] ∧ ∃ t u v a w y, ts = t :: u :: v :: (a ++ [w]) ∧ isK t kLet ∧ isN u s ∧ isS v [61] ∧ x = [y] ∧ RX y a ∧ isS w [59]) ∨
     (k = 2 ∧ b = [] ∧ e = [] ∧ ∃ t u v a w y, ts = t :: u :: v :: (a ++ [w]) ∧ isK t kSet ∧ isN u s ∧ isS v [61] ∧ x = [y] ∧ RX y a ∧ isS w [59]) ∨
     (k = 3 ∧ s = [] ∧ ∃ t o a c B R y, ts = t :: o :: (a ++ c :: (B ++ R)) ∧ isK t kIf ∧ isS o [40] ∧ x = [y] ∧ RX y a ∧ isS c [41] ∧ Brc (RSs b) B ∧ ((e = [] ∧ R = []) ∨ ∃ u E, R = u :: E ∧ isK u kElse ∧ Brc (RSs e) E)) ∨
     (k = 4 ∧ s = [] ∧ e = [] ∧ ∃ t o a c B y, ts = t :: o :: (a ++ c :: B) ∧ isK t kWhile ∧ isS o [40] ∧ x = [y] ∧ RX y a ∧ isS c [41] ∧ Brc (RSs b) B) ∨
     (k = 5 ∧ s = [] ∧ b = [] ∧ e = [] ∧ ∃ t a w y, ts = t :: (a ++ [w]) ∧ isK t kReturn ∧ x = [y] ∧ RX y a ∧ isS w [59]) ∨
     (k = 6 ∧ b = [] ∧ e = [] ∧ ∃ t a u L w y l, ts = t :: (a ++ u :: (L ++ [w])) ∧ isK t kSend ∧ x = y :: l ∧ RP y a ∧ isN u s ∧ Par (RXs l) L ∧ isS w [59]) ∨
     (k = 7 ∧ b = [] ∧ e = [] ∧ ∃ t u L w, ts = t :: u :: (L ++ [w]) ∧ isK t kBecome ∧ isN u s ∧ Par (RXs x) L ∧ isS w [59]) ∨
     (k = 8 ∧ s = [] ∧ x = [] ∧ b = [] ∧ e = [] ∧ ∃ t w, ts = [t, w] ∧ isK t kStop ∧ isS w [59]) ∨
     (k = 9 ∧ s = [] ∧ b = [] ∧ e = [] ∧ ∃ a w y, ts = a ++ [w] ∧ x = [y] ∧ RX y a ∧ isS w [59]))
/-- Statements, one behind the other. -/
def RSs : List Sm → List Tw → Prop
  | [], ts => ts = []
  | x :: r, ts => ∃ a b, ts = a ++ b ∧ RS x a ∧ RSs r b
end
mutual
def szS : Sm → Nat
  | .mk _ _ x b e _ => 1 + szEs x + szSs b + szSs e
def szSs : List Sm → Nat
  | [] => 0
  | x :: r => szS x + szSs r
end
mutual
/-- How many are going on in it. -/
def dpS : Sm → Nat
  | .mk _ _ x b e _ => 1 + max (3 * dpEs x) (max (dpSs b) (dpSs e))
def dpSs : List Sm → Nat
  | [] => 0
  | x :: r => max (dpS x) (dpSs r)
end
mutual
/-- How deep bodies stand in it. -/
def htS : Sm → Nat
  | .mk _ _ _ b e _ => 1 + max (htSs b) (htSs e)
def htSs : List Sm → Nat
  | [] => 0
  | x :: r => max (htS x) (htSs r)
end
theorem szS_mem {x : Sm} : ∀ {l : List Sm}, x ∈ l → szS x ≤ szSs l
  | [], h => by cases h
  | y :: r, h => by
    rw [szSs]
    rcases List.mem_cons.1 h with rfl | h
    · omega
    · have := szS_mem h; omega
theorem dpS_mem {x : Sm} : ∀ {l : List Sm}, x ∈ l → dpS x ≤ dpSs l
  | [], h => by cases h
  | y :: r, h => by
    rw [dpSs]
    rcases List.mem_cons.1 h with rfl | h
    · omega
    · have := dpS_mem h; omega
theorem htS_mem {x : Sm} : ∀ {l : List Sm}, x ∈ l → htS x ≤ htSs l
  | [], h => by cases h
  | y :: r, h => by
    rw [htSs]
    rcases List.mem_cons.1 h with rfl | h
    · omega
    · have := htS_mem h; omega
theorem szSs_len (l : List Sm) : l.length ≤ szSs l := by
  induction l with
  | nil => simp
  | cons x r ih =>
    obtain ⟨k, s, x, b, e, ln⟩ := x
    rw [szSs, szS, List.length_cons]
    omega
/-- What no statement begins with. -/
def Bg (t : Tw) : Prop := ¬ (t.k = 5 ∧ t.s ∈ [[125]]) ∧ ¬ (t.k = 4 ∧ t.s ∈ [kElse])
theorem RX_hd3 : ∀ (N : Nat) (x : Ex) (a : List Tw), szE x ≤ N → RX x a → ∃ t r, a = t :: r ∧ ¬ (t.k = 5 ∧ t.s ∈ [[125]]) ∧ ¬ (t.k = 4 ∧ t.s ∈ kElse :: keysS)
  | 0, x, a, h, _ => by have := szE_pos x; omega
  | N + 1, .mk k s n l, a, hz, h => by
    rw [RX] at h
    rw [szE] at hz
    have hp : ∀ x ∈ l, ∀ a, RP x a → ∃ t r, a = t :: r ∧ ¬ (t.k = 5 ∧ t.s ∈ [[125]]) ∧ ¬ (t.k = 4 ∧ t.s ∈ kElse :: keysS) := fun x hx a h => by
      have := szE_mem hx
      rcases h with ⟨-, h⟩ | ⟨-, o, m, c, rfl, h1, -⟩
      · exact RX_hd3 N x a (by omega) h
      · exact ⟨o, _, rfl, fun h => by rw [h1.2] at h; exact absurd h.2 (by decide), (fun h => by rw [h1.1] at h; cases h.1)⟩
    rcases h with ⟨-, -, -, t, rfl, h1, -⟩ | ⟨-, -, -, t, rfl, h1⟩ | ⟨-, -, -, t, rfl, h1, -⟩ | ⟨-, -, -, t, rfl, h1⟩ | ⟨-, -, -, -, t, rfl, h1⟩ | ⟨-, -, -, -, o, m, c, rfl, h1, -⟩ | ⟨-, -, hs, o, a, rfl, h1, -⟩ | ⟨-, -, -, a, o, b, rfl, h1, h2⟩ | ⟨-, -, -, a, o, b, c, rfl, -, -, h2⟩ | ⟨-, -, -, -, t, a, rfl, h1, -⟩ | ⟨-, -, t, u, a, rfl, h1, -⟩ | ⟨-, -, t, u, a, rfl, h1, -⟩
    · exact ⟨t, [], rfl, (fun h => by rw [h1] at h; cases h.1), (fun h => by rw [h1] at h; cases h.1)⟩
    · rcases h1 with ⟨-, h1⟩ | ⟨-, h1⟩ <;> exact ⟨t, [], rfl, (fun h => by rw [h1.1] at h; cases h.1), fun h => by rw [h1.2] at h; exact absurd h.2 (by decide)⟩
    · exact ⟨t, [], rfl, (fun h => by rw [h1] at h; cases h.1), (fun h => by rw [h1] at h; cases h.1)⟩
    · exact ⟨t, [], rfl, (fun h => by rw [h1.1] at h; cases h.1), (fun h => by rw [h1.1] at h; cases h.1)⟩
    · exact ⟨t, [], rfl, (fun h => by rw [h1.1] at h; cases h.1), fun h => by rw [h1.2] at h; exact absurd h.2 (by decide)⟩
    · exact ⟨o, _, rfl, fun h => by rw [h1.2] at h; exact absurd h.2 (by decide), (fun h => by rw [h1.1] at h; cases h.1)⟩
    · refine ⟨o, a, rfl, fun h => ?_, (fun h => by rw [h1.1] at h; cases h.1)⟩
      rw [h1.2] at h
      rw [List.mem_singleton.1 h.2] at hs
      exact absurd hs (by decide)
    · obtain ⟨x, y, rfl, h3, -⟩ := RPs_two h2
      obtain ⟨t, r, rfl, h4⟩ := hp x (by simp) a h3
      exact ⟨t, _, rfl, h4⟩
    · obtain ⟨x, y, rfl, h3, -⟩ := RPX_two h2
      obtain ⟨t, r, rfl, h4⟩ := hp x (by simp) a h3
      exact ⟨t, _, rfl, h4⟩
    · exact ⟨t, _, rfl, (fun h => by rw [h1.1] at h; cases h.1), fun h => by rw [h1.2] at h; exact absurd h.2 (by decide)⟩
    · exact ⟨t, _, rfl, (fun h => by rw [h1.1] at h; cases h.1), fun h => by rw [h1.2] at h; exact absurd h.2 (by decide)⟩
    · exact ⟨t, _, rfl, (fun h => by rw [h1.1] at h; cases h.1), fun h => by rw [h1.2] at h; exact absurd h.2 (by decide)⟩
theorem RS_hd {x : Sm} {a : List Tw} (h : RS x a) : ∃ t r, a = t :: r ∧ Bg t := by
  obtain ⟨k, s, x, b, e, ln⟩ := x
  rw [RS] at h
  have key : ∀ {t : Tw} {q : List Nat}, isK t q → q ≠ kElse → Bg t := fun h h' => ⟨(fun e => by rw [h.1] at e; cases e.1), fun e => by rw [h.2] at e; exact h' (List.mem_singleton.1 e.2)⟩
  rcases h.2 with ⟨-, -, -, t, u, v, a, w, y, rfl, h1, -⟩ | ⟨-, -, -, t, u, v, a, w, y, rfl, h1, -⟩ | ⟨-, -, t, o, a, c, B, R, y, rfl, h1, -⟩ | ⟨-, -, -, t, o, a, c, B, y, rfl, h1, -⟩ | ⟨-, -, -, -, t, a, w, y, rfl, h1, -⟩ | ⟨-, -, -, t, a, u, L, w, y, l, rfl, h1, -⟩ | ⟨-, -, -, t, u, L, w, rfl, h1, -⟩ | ⟨-, -, -, -, -, t, w, rfl, h1, -⟩ | ⟨-, -, -, -, a, w, y, rfl, -, h1, -⟩
  · exact ⟨t, _, rfl, key h1 (by decide)⟩
  · exact ⟨t, _, rfl, key h1 (by decide)⟩
  · exact ⟨t, _, rfl, key h1 (by decide)⟩
  · exact ⟨t, _, rfl, key h1 (by decide)⟩
  · exact ⟨t, _, rfl, key h1 (by decide)⟩
  · exact ⟨t, _, rfl, key h1 (by decide)⟩
  · exact ⟨t, _, rfl, key h1 (by decide)⟩
  · exact ⟨t, _, rfl, key h1 (by decide)⟩
  · obtain ⟨t, r, rfl, h2, h3⟩ := RX_hd3 _ y a (Nat.le_refl _) h1
    exact ⟨t, _, rfl, h2, fun h => h3 ⟨h.1, List.mem_cons.2 (.inl (List.mem_singleton.1 h.2))⟩⟩
/-- A statement is read by that reader. -/
def GetsS (T : List Nat) (f : Rr Sm) (x : Sm) : Prop := ∀ ts, RS x ts → ∀ p g t r, St T p (ts ++ t :: r) g → g + dpS x ≤ 250 → ¬ (t.k = 4 ∧ t.s ∈ [kElse]) → ∃ q, f p = some (x, q) ∧ St T q (t :: r) g
section
variable {T : List Nat}
theorem stmts_get (hT : T.length ≤ 32768) {f : Rr Sm} : ∀ (l : List Sm) (ts : List Tw) (acc : List Sm) (m : Nat), RSs l ts → (∀ x ∈ l, GetsS T f x) → l.length < m → ∀ (p : Pst) (g : Nat) (e t : Tw) (r : List Tw), St T p (ts ++ e :: t :: r) g → isS e [125] → g + dpSs l ≤ 250 → ∃ q, stmtsF T f m acc p = some (acc ++ l, q) ∧ St T q (t :: r) g
  | [], ts, acc, m, hw, _, hm, p, g, e, t, r, hst, he, hg => by
    rw [RSs] at hw
    subst hw
    obtain ⟨m', rfl⟩ : ∃ m', m = m' + 1 := ⟨m - 1, by simp at hm; omega⟩
    have hst' : St T p (e :: t :: r) g := hst
    refine ⟨p.step T, ?_, hst'.step hT⟩
    rw [stmtsF, if_neg (by rw [hst'.er]; simp), hst'.one_hit he.1 (by simp [he.2]), if_pos (show e.s ≠ [] by rw [he.2]; decide), List.append_nil]
  | x :: l, ts, acc, m, hw, hx, hm, p, g, e, t, r, hst, he, hg => by
    rw [RSs] at hw
    obtain ⟨a, b, rfl, h1, h2⟩ := hw
    obtain ⟨m', rfl⟩ : ∃ m', m = m' + 1 := ⟨m - 1, by simp at hm; omega⟩
    rw [dpSs] at hg
    obtain ⟨t0, r0, rfl, h3, h4⟩ := RS_hd h1
    have hst' : St T p (t0 :: r0 ++ (b ++ e :: t :: r)) g := by simpa using hst
    obtain ⟨z, y, hzy, hz⟩ : ∃ z y, b ++ e :: t :: r = z :: y ∧ ¬ (z.k = 4 ∧ z.s ∈ [kElse]) := by
      cases l with
      | nil =>
        rw [RSs] at h2
        subst h2
        exact ⟨e, t :: r, rfl, (fun h => by rw [he.1] at h; cases h.1)⟩
      | cons x' l' =>
        rw [RSs] at h2
        obtain ⟨a', b', rfl, h5, -⟩ := h2
        obtain ⟨t1, r1, rfl, -, h6⟩ := RS_hd h5
        exact ⟨t1, _, rfl, h6⟩
    have hst2 := hst'
    rw [hzy] at hst'
    obtain ⟨q, h5, h6⟩ := hx x (by simp) _ h1 p g z y hst' (by omega) hz
    rw [← hzy] at h6
    obtain ⟨q2, h7, h8⟩ := stmts_get hT l b (acc ++ [x]) m' h2 (fun y hy => hx y (by simp [hy])) (by simp at hm; omega) q g e t r h6 he (by omega)
    refine ⟨q2, ?_, h8⟩
    have hst3 : St T p (t0 :: (r0 ++ (b ++ e :: t :: r))) g := hst2
    rw [stmtsF, if_neg (by rw [hst3.er]; simp), hst3.one_miss h3, if_neg (by simp)]
    dsimp only
    rw [h5]
    dsimp only
    rw [h7]
    simp
theorem body_get (hT : T.length ≤ 32768) {f : Rr Sm} (l : List Sm) (ts : List Tw) (m : Nat) (hw : Brc (RSs l) ts) (hx : ∀ x ∈ l, GetsS T f x) (hm : l.length < m) (p : Pst) (g : Nat) (t : Tw) (r : List Tw) (hst : St T p (ts ++ t :: r) g) (hg : g + dpSs l ≤ 250) : ∃ q, bodyF T f m p = some (l, q) ∧ St T q (t :: r) g := by
  obtain ⟨o, mid, e, rfl, ho, he, hw⟩ := hw
  have hst1 : St T p (o :: (mid ++ e :: t :: r)) g := by simpa using hst
  have hst2 : St T (p.step T) (mid ++ e :: t :: r) g := by
    cases mid with
    | nil => exact hst1.step hT
    | cons a b => exact hst1.step hT
  obtain ⟨q, h1, h2⟩ := stmts_get hT l mid [] m hw hx hm _ g e t r hst2 he hg
  refine ⟨q, ?_, h2⟩
  unfold bodyF
  rw [hst1.must ho.1 ho.2 (by decide)]
  exact h1
end
end Go.Proofs.YtpakjjefbholdaaGreatDoor
namespace Go.Proofs.YtpakjjefbholdaaGreatDoor
set_option linter.unusedVariables false

theorem kindF_of {t : Tw} {q : List Nat} (h : isK t q) : kindF t.s = kindF q := by rw [h.2]
section
variable {T : List Nat} {or : Rr Ex} {N : Nat}
theorem go_signs {w : Tw} {s : List Nat} (h : isS w s) (hs : s ∉ sGo) : Stop w sGo := fun e => by rw [h.2] at e; exact hs e.2
/-- What stands behind a statement's key is read. -/
theorem stmtK_get (hT : T.length ≤ 32768) (IH : Less T or N) (body : Rr (List Sm)) (x : Sm) (ln : Nat) (ts : List Tw) (h : RS x ts)
    (hb : ∀ l B, szSs l < szS x → htSs l < htS x → dpSs l < dpS x → Brc (RSs l) B → ∀ p g t r, St T p (B ++ t :: r) g → g + dpSs l ≤ 250 → ∃ q, body p = some (l, q) ∧ St T q (t :: r) g)
    (hz : szS x < N) (p : Pst) (g : Nat) (t : Tw) (r : List Tw) (hst : St T p (ts ++ t :: r) g) (hg : g + dpS x ≤ 251) (ht : ¬ (t.k = 4 ∧ t.s ∈ [kElse])) (hln : p.ln = ln) :
    ∃ q, stmtK T or body N (kindF (p.one T 4 keysS).1) ln (p.one T 4 keysS).2 = some (x, q) ∧ St T q (t :: r) g := by
  obtain ⟨k, s, x, b, e, l0⟩ := x
  rw [RS] at h
  obtain ⟨⟨t0, r0, e0, hl0⟩, h⟩ := h
  have hl0' : l0 = (ln : Int) := by
    subst e0
    rw [hl0, ← hln, St.ln hst]
  clear hl0
  subst hl0'
  simp only [szS] at hz hb
  simp only [dpS] at hg hb
  simp only [htS] at hb
  unfold stmtK
  rcases h with ⟨rfl, rfl, rfl, u, v, w, a, z, y, rfl, h1, h2, h3, rfl, h4, h5⟩ | ⟨rfl, rfl, rfl, u, v, w, a, z, y, rfl, h1, h2, h3, rfl, h4, h5⟩ | ⟨rfl, rfl, u, o, a, c, B, R, y, rfl, h1, h2, rfl, h4, h5, h6, h7⟩ | ⟨rfl, rfl, rfl, u, o, a, c, B, y, rfl, h1, h2, rfl, h4, h5, h6⟩ | ⟨rfl, rfl, rfl, rfl, u, a, z, y, rfl, h1, rfl, h4, h5⟩ | ⟨rfl, rfl, rfl, u, a, v, L, z, y, l, rfl, h1, rfl, h4, h3, h2, h5⟩ | ⟨rfl, rfl, rfl, u, v, L, z, rfl, h1, h3, h2, h5⟩ | ⟨rfl, rfl, rfl, rfl, rfl, u, z, rfl, h1, h5⟩ | ⟨rfl, rfl, rfl, rfl, a, z, y, rfl, rfl, h4, h5⟩
  · have hst1 : St T p (u :: v :: w :: (a ++ z :: t :: r)) g := by simpa using hst
    have hst2 := hst1.step hT
    have hst3 := hst2.step hT
    obtain ⟨a0, a1, rfl, -⟩ := RX_hd _ y a (Nat.le_refl _) h4
    have hst4 : St T (((p.step T).step T).step T) (a0 :: a1 ++ z :: t :: r) g := hst3.step hT
    simp only [szEs, dpEs] at hz hg
    obtain ⟨q, h6, h7⟩ := IH y (by omega) _ h4 _ g z (t :: r) hst4 (by omega) (go_signs h5 (by decide))
    rw [hst1.one_hit h1.1 (by rw [h1.2]; decide), kindF_of h1, show kindF kLet = 1 from rfl, if_pos (by decide)]
    dsimp only
    rw [hst2.name h2.1]
    dsimp only
    rw [hst3.must h3.1 h3.2 (by decide)]
    dsimp only
    rw [h6]
    dsimp only
    rw [h7.must h5.1 h5.2 (by decide), h2.2]
    exact ⟨_, rfl, h7.step hT⟩
  · have hst1 : St T p (u :: v :: w :: (a ++ z :: t :: r)) g := by simpa using hst
    have hst2 := hst1.step hT
    have hst3 := hst2.step hT
    obtain ⟨a0, a1, rfl, -⟩ := RX_hd _ y a (Nat.le_refl _) h4
    have hst4 : St T (((p.step T).step T).step T) (a0 :: a1 ++ z :: t :: r) g := hst3.step hT
    simp only [szEs, dpEs] at hz hg
    obtain ⟨q, h6, h7⟩ := IH y (by omega) _ h4 _ g z (t :: r) hst4 (by omega) (go_signs h5 (by decide))
    rw [hst1.one_hit h1.1 (by rw [h1.2]; decide), kindF_of h1, show kindF kSet = 2 from rfl, if_pos (by decide)]
    dsimp only
    rw [hst2.name h2.1]
    dsimp only
    rw [hst3.must h3.1 h3.2 (by decide)]
    dsimp only
    rw [h6]
    dsimp only
    rw [h7.must h5.1 h5.2 (by decide), h2.2]
    exact ⟨_, rfl, h7.step hT⟩
  · have hst1 : St T p (u :: o :: (a ++ c :: (B ++ (R ++ t :: r)))) g := by simpa using hst
    have hst2 := hst1.step hT
    obtain ⟨a0, a1, rfl, -⟩ := RX_hd _ y a (Nat.le_refl _) h4
    have hst3 : St T ((p.step T).step T) (a0 :: a1 ++ c :: (B ++ (R ++ t :: r))) g := hst2.step hT
    simp only [szEs, dpEs] at hz hg
    obtain ⟨q, h8, h9⟩ := IH y (by omega) _ h4 _ g c _ hst3 (by omega) (go_signs h5 (by decide))
    obtain ⟨o', m', c', rfl, h10⟩ := h6
    have hst4 : St T (q.step T) (o' :: (m' ++ [c']) ++ (R ++ t :: r)) g := h9.step hT
    rw [hst1.one_hit h1.1 (by rw [h1.2]; decide), kindF_of h1, show kindF kIf = 3 from rfl, if_neg (by decide), if_pos (by decide)]
    dsimp only
    unfold branchF
    rw [hst2.must h2.1 h2.2 (by decide)]
    dsimp only
    rw [h8]
    dsimp only
    rw [h9.must h5.1 h5.2 (by decide)]
    dsimp only
    rcases h7 with ⟨rfl, rfl⟩ | ⟨u', E, rfl, h13, h14⟩
    · obtain ⟨q2, h11, h12⟩ := hb b _ (by omega) (by omega) (by omega) ⟨o', m', c', rfl, h10⟩ _ g t r hst4 (by omega)
      rw [h11]
      dsimp only
      rw [if_pos rfl, h12.one_miss (show ¬ (t.k = 4 ∧ t.s ∈ [[101, 108, 115, 101]]) from ht), if_neg (by simp)]
      exact ⟨_, rfl, h12⟩
    · have hst5 : St T (q.step T) (o' :: (m' ++ [c']) ++ u' :: (E ++ t :: r)) g := hst4
      obtain ⟨q2, h11, h12⟩ := hb b _ (by omega) (by omega) (by omega) ⟨o', m', c', rfl, h10⟩ _ g u' _ hst5 (by omega)
      obtain ⟨o2, m2, c2, rfl, h15⟩ := h14
      have h16 : St T (q2.step T) (o2 :: (m2 ++ [c2]) ++ t :: r) g := h12.step hT
      obtain ⟨q3, h17, h18⟩ := hb e _ (by omega) (by omega) (by omega) ⟨o2, m2, c2, rfl, h15⟩ _ g t r h16 (by omega)
      rw [h11]
      dsimp only
      rw [if_pos rfl, h12.one_hit h13.1 (show u'.s ∈ [[101, 108, 115, 101]] by rw [h13.2]; decide), if_pos (show u'.s ≠ [] by rw [h13.2]; decide)]
      dsimp only
      rw [h17]
      exact ⟨_, rfl, h18⟩
  · have hst1 : St T p (u :: o :: (a ++ c :: (B ++ t :: r))) g := by simpa using hst
    have hst2 := hst1.step hT
    obtain ⟨a0, a1, rfl, -⟩ := RX_hd _ y a (Nat.le_refl _) h4
    have hst3 : St T ((p.step T).step T) (a0 :: a1 ++ c :: (B ++ t :: r)) g := hst2.step hT
    simp only [szEs, dpEs] at hz hg
    obtain ⟨q, h8, h9⟩ := IH y (by omega) _ h4 _ g c _ hst3 (by omega) (go_signs h5 (by decide))
    obtain ⟨o', m', c', rfl, h10⟩ := h6
    have hst4 : St T (q.step T) (o' :: (m' ++ [c']) ++ t :: r) g := h9.step hT
    rw [hst1.one_hit h1.1 (by rw [h1.2]; decide), kindF_of h1, show kindF kWhile = 4 from rfl, if_neg (by decide), if_pos (by decide)]
    dsimp only
    unfold branchF
    rw [hst2.must h2.1 h2.2 (by decide)]
    dsimp only
    rw [h8]
    dsimp only
    rw [h9.must h5.1 h5.2 (by decide)]
    dsimp only
    obtain ⟨q2, h11, h12⟩ := hb b _ (by omega) (by omega) (by omega) ⟨o', m', c', rfl, h10⟩ _ g t r hst4 (by omega)
    rw [h11]
    dsimp only
    rw [if_neg (by decide)]
    exact ⟨_, rfl, h12⟩
  · have hst1 : St T p (u :: (a ++ z :: t :: r)) g := by simpa using hst
    obtain ⟨a0, a1, rfl, -⟩ := RX_hd _ y a (Nat.le_refl _) h4
    have hst4 : St T (p.step T) (a0 :: a1 ++ z :: t :: r) g := hst1.step hT
    simp only [szEs, dpEs] at hz hg
    obtain ⟨q, h6, h7⟩ := IH y (by omega) _ h4 _ g z (t :: r) hst4 (by omega) (go_signs h5 (by decide))
    rw [hst1.one_hit h1.1 (by rw [h1.2]; decide), kindF_of h1, show kindF kReturn = 5 from rfl, if_neg (by decide), if_neg (by decide), if_pos (by decide)]
    dsimp only
    rw [h6]
    dsimp only
    rw [h7.must h5.1 h5.2 (by decide)]
    exact ⟨_, rfl, h7.step hT⟩
  · have hst1 : St T p (u :: (a ++ v :: (L ++ z :: t :: r))) g := by simpa using hst
    simp only [szEs, dpEs] at hz hg
    obtain ⟨a0, a1, rfl, -⟩ := (Pt.of h4 (show szE y < N by omega)).hd
    have hst2 : St T (p.step T) (a0 :: a1 ++ v :: (L ++ z :: t :: r)) g := hst1.step hT
    obtain ⟨q, m, h6, h7, h8⟩ := post_get hT IH _ y (Nat.le_refl _) _ (Pt.of h4 (by omega)) _ g v _ hst2 (fun _ => by omega) (fun _ => by omega)
    obtain ⟨L0, L1, rfl, -⟩ := h2.hd
    have h9 : St T (q.step T) (L0 :: L1 ++ z :: t :: r) g := h8.step hT
    obtain ⟨q2, h10, h11⟩ := lists_get hT IH l (by omega) (Nat.le_refl _) _ h2 _ g z _ h9 (by omega)
    rw [hst1.one_hit h1.1 (by rw [h1.2]; decide), kindF_of h1, show kindF kSend = 6 from rfl, if_neg (by decide), if_neg (by decide), if_neg (by decide), if_pos (by decide)]
    dsimp only
    rw [h6, placesF, h8.one_miss (fun e => by rw [h3.1] at e; cases e.1), if_pos rfl]
    dsimp only
    rw [h8.name h3.1]
    dsimp only
    rw [h10]
    dsimp only
    rw [h11.must h5.1 h5.2 (by decide), h3.2]
    exact ⟨_, rfl, h11.step hT⟩
  · have hst1 : St T p (u :: v :: (L ++ z :: t :: r)) g := by simpa using hst
    have hst2 := hst1.step hT
    obtain ⟨L0, L1, rfl, -⟩ := h2.hd
    have h9 : St T ((p.step T).step T) (L0 :: L1 ++ z :: t :: r) g := hst2.step hT
    obtain ⟨q2, h10, h11⟩ := lists_get hT IH x (by omega) (Nat.le_refl _) _ h2 _ g z _ h9 (by omega)
    rw [hst1.one_hit h1.1 (by rw [h1.2]; decide), kindF_of h1, show kindF kBecome = 7 from rfl, if_neg (by decide), if_neg (by decide), if_neg (by decide), if_neg (by decide), if_pos rfl]
    dsimp only
    rw [hst2.name h3.1]
    dsimp only
    rw [h10]
    dsimp only
    rw [h11.must h5.1 h5.2 (by decide), h3.2]
    exact ⟨_, rfl, h11.step hT⟩
  · have hst1 : St T p (u :: z :: t :: r) g := hst
    have hst2 := hst1.step hT
    rw [hst1.one_hit h1.1 (by rw [h1.2]; decide), kindF_of h1, show kindF kStop = 8 from rfl, if_neg (by decide), if_neg (by decide), if_neg (by decide), if_neg (by decide), if_neg (by decide)]
    dsimp only
    rw [hst2.must h5.1 h5.2 (by decide)]
    exact ⟨_, rfl, hst2.step hT⟩
  · obtain ⟨a0, a1, rfl, h8, h9⟩ := RX_hd3 _ y a (Nat.le_refl _) h4
    have hst4 : St T p (a0 :: a1 ++ z :: t :: r) g := by simpa using hst
    have hst1 : St T p (a0 :: (a1 ++ z :: t :: r)) g := hst4
    simp only [szEs, dpEs] at hz hg
    obtain ⟨q, h6, h7⟩ := IH y (by omega) _ h4 _ g z (t :: r) hst4 (by omega) (go_signs h5 (by decide))
    rw [hst1.one_miss (fun e => h9 ⟨e.1, List.mem_cons.2 (.inr e.2)⟩), show kindF [] = 9 from rfl, if_neg (by decide), if_neg (by decide), if_pos (by decide)]
    dsimp only
    rw [h6]
    dsimp only
    rw [h7.must h5.1 h5.2 (by decide)]
    exact ⟨_, rfl, h7.step hT⟩
/-- All that is written of a statement is read as it. -/
theorem stmt_get (hT : T.length ≤ 32768) (IH : Less T or N) : ∀ (j : Nat) (x : Sm), htS x ≤ j → szS x < N → GetsS T (stmtF T or N j) x
  | 0, .mk k s x b e ln => fun h => by rw [htS] at h; omega
  | j + 1, x => fun hj hz ts h p g t r hst hg ht => by
    have hpos : 1 ≤ dpS x := by obtain ⟨k, s, x, b, e, ln⟩ := x; rw [dpS]; omega
    have hb := hst.begin (by omega)
    obtain ⟨t0, r0, rfl, -⟩ := RS_hd h
    have hln : p.begin.ln = p.ln := by
      have h1 : p.ln = t0.ln := St.ln hst
      have h2 : p.begin.ln = t0.ln := St.ln hb
      rw [h1, h2]
    obtain ⟨q, h1, h2⟩ := stmtK_get hT IH (bodyF T (stmtF T or N j) N) x p.ln _ h (fun l B hl1 hl2 hl3 hB p g t r hst hg => body_get hT l B N hB (fun y hy => stmt_get hT IH j y (by have := htS_mem hy; omega) (by have := szS_mem hy; omega)) (by have := szSs_len l; omega) p g t r hst hg) hz p.begin (g + 1) t r hb (by omega) ht hln
    refine ⟨q.fin, ?_, h2.fin⟩
    rw [stmtF, h1]
end
end Go.Proofs.YtpakjjefbholdaaGreatDoor
namespace Go.Proofs.YtpakjjefbholdaaGreatDoor
set_option linter.unusedVariables false

def nmW (s : List Nat) (a : List Tw) : Prop := ∃ t, a = [t] ∧ isN t s
/-- A function or a body behind its key. -/
def RBd (b : Bd) (ts : List Tw) : Prop := ∃ u L B, ts = u :: (L ++ B) ∧ isN u b.name ∧ Par (CS nmW b.ps) L ∧ Brc (RSs b.st) B
def kOn : List Nat := [111, 110]
/-- What an actor does at messages. -/
def ROs : List Bd → List Tw → Prop
  | [], ts => ts = []
  | b :: r, ts => ∃ k a c, ts = k :: (a ++ c) ∧ isK k kOn ∧ b.ln = (k.ln : Int) ∧ RBd b a ∧ ROs r c
def RRl (b : Rl) (ts : List Tw) : Prop := ∃ u L B, ts = u :: (L ++ B) ∧ isN u b.name ∧ Par (CS nmW b.ps) L ∧ Brc (ROs b.on) B
/-- A function or an actor. -/
inductive It
  | fn (b : Bd)
  | ac (b : Rl)
def RIt : List It → List Tw → Prop
  | [], ts => ts = []
  | .fn b :: r, ts => ∃ k a c, ts = k :: (a ++ c) ∧ isK k kFn ∧ b.ln = (k.ln : Int) ∧ RBd b a ∧ RIt r c
  | .ac b :: r, ts => ∃ k a c, ts = k :: (a ++ c) ∧ isK k kAc ∧ b.ln = (k.ln : Int) ∧ RRl b a ∧ RIt r c
def itG (g : Pg) : List It → Pg
  | [] => g
  | .fn b :: r => itG ⟨g.fns ++ [b], g.roles⟩ r
  | .ac b :: r => itG ⟨g.fns, g.roles ++ [b]⟩ r
/-- A body is small enough. -/
def OkB (N : Nat) (b : Bd) : Prop := szSs b.st < N ∧ dpSs b.st ≤ 250 ∧ b.ps.length ≤ N
def OkR (N : Nat) (b : Rl) : Prop := b.on.length < N ∧ b.ps.length ≤ N ∧ ∀ x ∈ b.on, OkB N x
def OkI (N : Nat) : It → Prop
  | .fn b => OkB N b
  | .ac b => OkR N b
theorem htS_le (N : Nat) : ∀ (x : Sm), szS x ≤ N → htS x ≤ szS x ∧ ∀ l : List Sm, szSs l ≤ N → htSs l ≤ szSs l := by
  induction N with
  | zero =>
    rintro ⟨k, s, x, b, e, ln⟩ h
    rw [szS] at h
    omega
  | succ N ih =>
    have key : ∀ l : List Sm, szSs l ≤ N → htSs l ≤ szSs l := by
      intro l
      induction l with
      | nil => intro _; simp [htSs]
      | cons x r ihl =>
        intro h
        rw [szSs] at h
        rw [htSs, szSs]
        have h1 := (ih x (by omega)).1
        have h2 := ihl (by omega)
        omega
    have key1 : ∀ x : Sm, szS x ≤ N + 1 → htS x ≤ szS x := by
      rintro ⟨k, s, x, b, e, ln⟩ h
      rw [szS] at h ⊢
      rw [htS]
      have h1 := key b (by omega)
      have h2 := key e (by omega)
      omega
    refine fun x h => ⟨key1 x h, fun l hl => ?_⟩
    induction l with
    | nil => simp [htSs]
    | cons x r ihl =>
      rw [szSs] at hl
      rw [htSs, szSs]
      have h1 := key1 x (by omega)
      have h2 := ihl (by omega)
      omega
section
variable {T : List Nat} {N : Nat}
theorem name_gets (hT : T.length ≤ 32768) (s : List Nat) (a : List Tw) (h : nmW s a) : Gets T (nameP T) s a sGo 0 := by
  obtain ⟨u, rfl, h⟩ := h
  intro p g t r hst hg hs
  refine ⟨p.step T, ?_, St.step hT hst⟩
  unfold nameP
  rw [St.name hst h.1, h.2]
theorem names_get (hT : T.length ≤ 32768) (l : List (List Nat)) (ts : List Tw) (h : Par (CS nmW l) ts) {m : Nat} (hm : l.length ≤ m) (p : Pst) (g : Nat) (t : Tw) (r : List Tw) (hst : St T p (ts ++ t :: r) g) (hg : g ≤ 250) : ∃ q, listF T (nameP T) m p = some (l, q) ∧ St T q (t :: r) g :=
  list_gets hT nmW (fun s a h => by obtain ⟨u, rfl, h⟩ := h; exact ⟨u, [], rfl, fun e => by rw [h.1] at e; cases e.1⟩) l ts h (fun s _ a h => name_gets hT s a h) hm p g t r hst hg
theorem named_get (hT : T.length ≤ 32768) (b : Bd) (ts : List Tw) (h : RBd b ts) (hb : OkB N b) (ln : Nat) (hln : b.ln = (ln : Int)) (p : Pst) (t : Tw) (r : List Tw) (hst : St T p (ts ++ t :: r) 0) : ∃ q, namedF T N ln p = some (b, q) ∧ St T q (t :: r) 0 := by
  obtain ⟨u, L, B, rfl, h1, h2, h3⟩ := h
  obtain ⟨hz, hd, hp⟩ := hb
  have hst1 : St T p (u :: (L ++ (B ++ t :: r))) 0 := by simpa using hst
  obtain ⟨L0, L1, rfl, -⟩ := h2.hd
  obtain ⟨o, m, c, rfl, h4⟩ := h3
  have hst2 : St T (p.step T) (L0 :: L1 ++ o :: (m ++ [c] ++ t :: r)) 0 := hst1.step hT
  obtain ⟨q, h5, h6⟩ := names_get hT b.ps _ h2 hp _ 0 o _ hst2 (by omega)
  obtain ⟨q2, h7, h8⟩ := body_get hT (f := stmtF T (orF T N) N N) b.st _ N ⟨o, m, c, rfl, h4⟩ (fun x hx => stmt_get hT (reads hT N) N x (by
    have := szS_mem hx
    have := (htS_le _ x (Nat.le_refl _)).1
    omega) (by have := szS_mem hx; omega)) (by have := szSs_len b.st; omega) q 0 t r h6 (by omega)
  refine ⟨q2, ?_, h8⟩
  unfold namedF
  rw [hst1.name h1.1]
  dsimp only
  rw [h5]
  dsimp only
  rw [h7]
  dsimp only
  rw [h1.2, ← hln]
theorem ons_get (hT : T.length ≤ 32768) : ∀ (l : List Bd) (ts : List Tw) (acc : List Bd) (m : Nat), ROs l ts → (∀ b ∈ l, OkB N b) → l.length < m → ∀ (p : Pst) (e t : Tw) (r : List Tw), St T p (ts ++ e :: t :: r) 0 → isS e [125] → ∃ q, onsF T N m acc p = some (acc ++ l, q) ∧ St T q (t :: r) 0
  | [], ts, acc, m, hw, _, hm, p, e, t, r, hst, he => by
    have hw : ts = [] := hw
    subst hw
    obtain ⟨m', rfl⟩ : ∃ m', m = m' + 1 := ⟨m - 1, by simp at hm; omega⟩
    have hst' : St T p (e :: t :: r) 0 := hst
    refine ⟨p.step T, ?_, hst'.step hT⟩
    rw [onsF, if_neg (by rw [hst'.er]; simp), hst'.one_hit he.1 (by simp [he.2]), if_pos (show e.s ≠ [] by rw [he.2]; decide), List.append_nil]
  | b :: l, ts, acc, m, hw, hok, hm, p, e, t, r, hst, he => by
    obtain ⟨k, a, c, rfl, h1, h2, h3, h4⟩ := hw
    obtain ⟨m', rfl⟩ : ∃ m', m = m' + 1 := ⟨m - 1, by simp at hm; omega⟩
    have hst1 : St T p (k :: (a ++ (c ++ e :: t :: r))) 0 := by simpa using hst
    obtain ⟨u, L, B, rfl, h5⟩ := h3
    have hst2 : St T (p.step T) (u :: (L ++ B) ++ (c ++ e :: t :: r)) 0 := hst1.step hT
    obtain ⟨z, y, hzy⟩ : ∃ z y, c ++ e :: t :: r = z :: y := by
      cases c with
      | nil => exact ⟨_, _, rfl⟩
      | cons c0 c1 => exact ⟨_, _, rfl⟩
    rw [hzy] at hst2
    obtain ⟨q, h6, h7⟩ := named_get hT b _ ⟨u, L, B, rfl, h5⟩ (hok b (by simp)) k.ln h2 _ z y hst2
    rw [← hzy] at h7
    obtain ⟨q2, h8, h9⟩ := ons_get hT l c (acc ++ [b]) m' h4 (fun x hx => hok x (by simp [hx])) (by simp at hm; omega) q e t r h7 he
    refine ⟨q2, ?_, h9⟩
    rw [onsF, if_neg (by rw [hst1.er]; simp), hst1.one_miss (fun e => by rw [h1.1] at e; cases e.1), if_neg (by simp)]
    dsimp only
    rw [hst1.one_hit h1.1 (by rw [h1.2]; decide), if_neg (show ¬ k.s = [] by rw [h1.2]; decide), hst1.ln]
    dsimp only
    rw [h6]
    dsimp only
    rw [h8]
    simp
theorem role_get (hT : T.length ≤ 32768) (b : Rl) (ts : List Tw) (h : RRl b ts) (hb : OkR N b) (ln : Nat) (hln : b.ln = (ln : Int)) (p : Pst) (t : Tw) (r : List Tw) (hst : St T p (ts ++ t :: r) 0) : ∃ q, roleF T N ln p = some (b, q) ∧ St T q (t :: r) 0 := by
  obtain ⟨u, L, B, rfl, h1, h2, o, m, c, rfl, h3, h4, h5⟩ := h
  obtain ⟨hz, hp, hd⟩ := hb
  have hst1 : St T p (u :: (L ++ o :: (m ++ c :: t :: r))) 0 := by simpa using hst
  obtain ⟨L0, L1, rfl, -⟩ := h2.hd
  have hst2 : St T (p.step T) (L0 :: L1 ++ o :: (m ++ c :: t :: r)) 0 := hst1.step hT
  obtain ⟨q, h6, h7⟩ := names_get hT b.ps _ h2 hp _ 0 o _ hst2 (by omega)
  have hst3 : St T (q.step T) (m ++ c :: t :: r) 0 := by
    cases m with
    | nil => exact h7.step hT
    | cons m0 m1 => exact h7.step hT
  obtain ⟨q2, h8, h9⟩ := ons_get hT b.on m [] N h5 hd hz _ c t r hst3 h4
  refine ⟨q2, ?_, h9⟩
  unfold roleF
  rw [hst1.name h1.1]
  dsimp only
  rw [h6]
  dsimp only
  rw [h7.must h3.1 h3.2 (by decide)]
  dsimp only
  rw [h8]
  dsimp only
  rw [h1.2, ← hln, List.nil_append]
theorem prog_get (hT : T.length ≤ 32768) : ∀ (l : List It) (ts : List Tw) (g : Pg) (m : Nat), RIt l ts → (∀ x ∈ l, OkI N x) → l.length < m → ∀ (p : Pst) (e : Tw), St T p (ts ++ [e]) 0 → e.k = 6 → ∃ q, progF T N m g p = some (itG g l, q) ∧ q.er = 0
  | [], ts, g, m, hw, _, hm, p, e, hst, he => by
    have hw : ts = [] := hw
    subst hw
    obtain ⟨m', rfl⟩ : ∃ m', m = m' + 1 := ⟨m - 1, by simp at hm; omega⟩
    have hst' : St T p (e :: []) 0 := hst
    refine ⟨p, ?_, hst'.er⟩
    rw [progF, if_pos (.inr (hst'.k.trans he))]
    rfl
  | .fn b :: l, ts, g, m, hw, hok, hm, p, e, hst, he => by
    obtain ⟨k, a, c, rfl, h1, h2, h3, h4⟩ := hw
    obtain ⟨m', rfl⟩ : ∃ m', m = m' + 1 := ⟨m - 1, by simp at hm; omega⟩
    have hst1 : St T p (k :: (a ++ (c ++ [e]))) 0 := by simpa using hst
    obtain ⟨u, L, B, rfl, h5⟩ := h3
    have hst2 : St T (p.step T) (u :: (L ++ B) ++ (c ++ [e])) 0 := hst1.step hT
    obtain ⟨z, y, hzy⟩ : ∃ z y, c ++ [e] = z :: y := by
      cases c with
      | nil => exact ⟨_, _, rfl⟩
      | cons c0 c1 => exact ⟨_, _, rfl⟩
    rw [hzy] at hst2
    obtain ⟨q, h6, h7⟩ := named_get hT b _ ⟨u, L, B, rfl, h5⟩ (hok (.fn b) (by simp)) k.ln h2 _ z y hst2
    rw [← hzy] at h7
    obtain ⟨q2, h8, h9⟩ := prog_get hT l c ⟨g.fns ++ [b], g.roles⟩ m' h4 (fun x hx => hok x (by simp [hx])) (by simp at hm; omega) q e h7 he
    refine ⟨q2, ?_, h9⟩
    rw [progF, if_neg (by rw [hst1.er, hst1.k, h1.1]; simp), hst1.one_hit h1.1 (by rw [h1.2]; decide), if_pos h1.2]
    dsimp only
    rw [hst1.ln, h6]
    dsimp only
    rw [h8]
    rfl
  | .ac b :: l, ts, g, m, hw, hok, hm, p, e, hst, he => by
    obtain ⟨k, a, c, rfl, h1, h2, h3, h4⟩ := hw
    obtain ⟨m', rfl⟩ : ∃ m', m = m' + 1 := ⟨m - 1, by simp at hm; omega⟩
    have hst1 : St T p (k :: (a ++ (c ++ [e]))) 0 := by simpa using hst
    obtain ⟨u, L, B, rfl, h5⟩ := h3
    have hst2 : St T (p.step T) (u :: (L ++ B) ++ (c ++ [e])) 0 := hst1.step hT
    obtain ⟨z, y, hzy⟩ : ∃ z y, c ++ [e] = z :: y := by
      cases c with
      | nil => exact ⟨_, _, rfl⟩
      | cons c0 c1 => exact ⟨_, _, rfl⟩
    rw [hzy] at hst2
    obtain ⟨q, h6, h7⟩ := role_get hT b _ ⟨u, L, B, rfl, h5⟩ (hok (.ac b) (by simp)) k.ln h2 _ z y hst2
    rw [← hzy] at h7
    obtain ⟨q2, h8, h9⟩ := prog_get hT l c ⟨g.fns, g.roles ++ [b]⟩ m' h4 (fun x hx => hok x (by simp [hx])) (by simp at hm; omega) q e h7 he
    refine ⟨q2, ?_, h9⟩
    rw [progF, if_neg (by rw [hst1.er, hst1.k, h1.1]; simp), hst1.one_hit h1.1 (by rw [h1.2]; decide), if_neg (show ¬ k.s = kFn by rw [h1.2]; decide), if_pos h1.2]
    dsimp only
    rw [hst1.ln, h6]
    dsimp only
    rw [h8]
    rfl
/-- The parser stands at the first token. -/
theorem st_first (hT : T.length ≤ 32768) {t : Tw} {r : List Tw} (h : Toks T 0 (t :: r)) : St T (pst0.step T) (t :: r) 0 := by
  obtain ⟨h1, u, h2, rfl, h3⟩ := h
  unfold Pst.step
  rw [if_neg (by omega), if_neg (show ¬ T.length < pst0.e by simp [pst0])]
  have h2' : tok (T.drop (atW T pst0.e)) = some u := h2
  rw [h2']
  exact ⟨rfl, rfl, rfl, rfl, rfl, rfl, rfl, h3⟩
/-- A text whose tokens are written of a program is read as it. -/
theorem parse_reads (hT : T.length ≤ 32768) (l : List It) (ts : List Tw) (e : Tw) (ht : Toks T 0 (ts ++ [e])) (he : e.k = 6) (hr : RIt l ts) (hok : ∀ x ∈ l, OkI N x) (hl : l.length < N) :
    parseF T N = if rightP (itG ⟨[], []⟩ l) then some (itG ⟨[], []⟩ l, 0, 0) else some (⟨[], []⟩, 102, 0) := by
  obtain ⟨t, r, h1⟩ : ∃ t r, ts ++ [e] = t :: r := by
    cases ts with
    | nil => exact ⟨_, _, rfl⟩
    | cons a b => exact ⟨_, _, rfl⟩
  rw [h1] at ht
  have hst := st_first hT ht
  rw [← h1] at hst
  obtain ⟨q, h2, h3⟩ := prog_get hT l ts ⟨[], []⟩ N hr hok hl _ e hst he
  unfold parseF readF
  rw [h2]
  dsimp only
  rw [if_neg (by rw [h3]; simp)]
end
end Go.Proofs.YtpakjjefbholdaaGreatDoor
namespace Go.Proofs.YtpakjjefbholdaaGreatDoor
set_option linter.unusedVariables false

/-- These tokens stand ahead in a rest of a text, which begins in that line. -/
def Lx : List Nat → Nat → List Tw → Prop
  | _, _, [] => True
  | l, ln, t :: r => ∃ u, tok (l.drop (pas false l)) = some u ∧ t = ⟨u.k, u.s, u.n, ln + (l.take (pas false l)).count 10⟩ ∧ Lx (l.drop (pas false l + u.e)) (ln + (l.take (pas false l + u.e)).count 10) r
theorem Lx.toks {T : List Nat} : ∀ {ts : List Tw} {e : Nat}, e ≤ T.length → Lx (T.drop e) (1 + (T.take e).count 10) ts → Toks T e ts
  | [], e, he, h => trivial
  | t :: r, e, he, h => by
    obtain ⟨u, h1, h2, h3⟩ := h
    have e1 : atW T e = e + pas false (T.drop e) := rfl
    have hl := pas_le false (T.drop e)
    rw [List.length_drop] at hl
    have e2 : ∀ k, (T.take (e + k)).count 10 = (T.take e).count 10 + ((T.drop e).take k).count 10 := fun k => by rw [List.take_add, List.count_append]
    rw [List.drop_drop] at h1 h3
    refine ⟨he, u, h1, ?_, ?_⟩
    · rw [h2]
      unfold lnW
      rw [e1, e2]
      simp only [Nat.add_assoc]
    · have hp := (tok_pos h1).1
      rw [List.length_drop] at hp
      rw [e1, Nat.add_assoc]
      refine Lx.toks (by omega) ?_
      rw [e2]
      simpa only [Nat.add_assoc] using h3
theorem pas_blanks : ∀ (A R : List Nat), A.all blk = true → pas false (A ++ R) = A.length + pas false R
  | [], R, _ => by simp
  | x :: r, R, h => by
    rw [List.all_cons, Bool.and_eq_true] at h
    have hb : pasB false x = false := by
      have := h.1
      unfold blk at this
      unfold pasB
      simp at this ⊢
      intro _
      omega
    rw [List.cons_append, pas, hb, h.1, if_pos (by rfl), pas_blanks r R h.2]
    simp
    omega
/-- The tokens of a piece that ends with a blank, and the line behind it. -/
def lexA : Nat → List Nat → Nat → Option (List Tw × Nat)
  | 0, _, _ => none
  | m + 1, l, ln =>
    if l.all blk then some ([], ln + l.count 10)
    else match tok (l.drop (pas false l)) with
      | none => none
      | some u =>
        if pas false l + u.e < l.length ∧ pas false l < l.length then
          match lexA m (l.drop (pas false l + u.e)) (ln + (l.take (pas false l + u.e)).count 10) with
          | none => none
          | some (r, z) => some (⟨u.k, u.s, u.n, ln + (l.take (pas false l)).count 10⟩ :: r, z)
        else none
/-- A piece ahead of the rest. -/
theorem lexA_app : ∀ (m : Nat) (l : List Nat) (ln : Nat) (ts : List Tw) (z : Nat), lexA m l ln = some (ts, z) → ∀ (R : List Nat) (rs : List Tw), Lx R z rs → Lx (l ++ R) ln (ts ++ rs)
  | 0, l, ln, ts, z, h => by cases h
  | m + 1, l, ln, ts, z, h => fun R rs hR => by
    rw [lexA] at h
    by_cases hb : l.all blk = true
    · rw [if_pos hb] at h
      cases h
      cases rs with
      | nil => trivial
      | cons t r =>
        obtain ⟨u, h1, h2, h3⟩ := hR
        have e1 := pas_blanks l R hb
        refine ⟨u, ?_, ?_, ?_⟩
        · rw [e1, List.drop_append, (show l.drop _ = [] from List.drop_eq_nil_of_le (by omega)), List.nil_append, show l.length + pas false R - l.length = pas false R by omega]
          exact h1
        · rw [h2, e1, List.take_append, List.take_of_length_le (l := l) (by omega), List.count_append, show l.length + pas false R - l.length = pas false R by omega]
          simp only [Nat.add_assoc]
        · rw [e1, Nat.add_assoc, List.drop_append, (show l.drop _ = [] from List.drop_eq_nil_of_le (by omega)), List.nil_append, show l.length + (pas false R + u.e) - l.length = pas false R + u.e by omega, List.take_append, List.take_of_length_le (l := l) (by omega), List.count_append, show l.length + (pas false R + u.e) - l.length = pas false R + u.e by omega]
          simpa only [Nat.add_assoc] using h3
    · rw [if_neg hb] at h
      split at h
      · cases h
      · rename_i u hu
        split at h
        · rename_i hlt
          split at h
          · cases h
          · rename_i r z' hr
            cases h
            have e1 : pas false (l ++ R) = pas false l := pas_app false l R hlt.2
            have e2 : tok ((l ++ R).drop (pas false l)) = some u := by
              rw [List.drop_append_of_le_length (by omega)]
              exact tok_app hu (by rw [List.length_drop]; omega)
            refine ⟨u, ?_, ?_, ?_⟩
            · rw [e1]; exact e2
            · rw [e1, List.take_append_of_le_length (by omega)]
            · rw [e1, List.drop_append_of_le_length (by omega), List.take_append_of_le_length (by omega)]
              exact lexA_app m _ _ r z hr R rs hR
        · cases h
/-- The tokens of a rest, all. -/
def lexF : Nat → List Nat → Nat → Option (List Tw)
  | 0, _, _ => none
  | m + 1, l, ln =>
    match tok (l.drop (pas false l)) with
    | none => none
    | some u =>
      if u.k = 6 then some [⟨u.k, u.s, u.n, ln + (l.take (pas false l)).count 10⟩]
      else match lexF m (l.drop (pas false l + u.e)) (ln + (l.take (pas false l + u.e)).count 10) with
        | none => none
        | some r => some (⟨u.k, u.s, u.n, ln + (l.take (pas false l)).count 10⟩ :: r)
theorem lexF_lx : ∀ (m : Nat) (l : List Nat) (ln : Nat) (ts : List Tw), lexF m l ln = some ts → Lx l ln ts
  | 0, l, ln, ts, h => by cases h
  | m + 1, l, ln, ts, h => by
    rw [lexF] at h
    split at h
    · cases h
    · rename_i u hu
      split at h
      · cases h
        exact ⟨u, hu, rfl, trivial⟩
      · split at h
        · cases h
        · rename_i r hr
          cases h
          exact ⟨u, hu, rfl, lexF_lx m _ _ r hr⟩
end Go.Proofs.YtpakjjefbholdaaGreatDoor
namespace Go.Proofs.YtpakjjefbholdaaGreatDoor
set_option linter.unusedVariables false
set_option maxRecDepth 100000

def nmv (i : Nat) : List Nat := [118, 97 + i / 10, 48 + i % 10]
def namesV (n : Nat) : List (List Nat) := (List.range n).map nmv
def cInt : Ex := .mk 1 [] 1 []
def cTrue : Ex := .mk 2 [] 1 []
def letS (i : Nat) : Sm := .mk 1 (nmv i) [cInt] [] [] 1
def ifS (i : Nat) : Sm := .mk 3 [] [cTrue] [letS i] [] 1
def tS (s : List Nat) : Tw := ⟨5, s, 0, 1⟩
def tK (s : List Nat) : Tw := ⟨4, s, 0, 1⟩
def tN (s : List Nat) : Tw := ⟨3, s, 0, 1⟩
def tI : Tw := ⟨1, [], 1, 1⟩
def letT (i : Nat) : List Tw := [tK kLet, tN (nmv i), tS [61], tI, tS [59]]
def ifT (i : Nat) : List Tw := [tK kIf, tS [40], tK [116, 114, 117, 101], tS [41], tS [123]] ++ letT i ++ [tS [125]]
def crT (l : List (List Nat)) : List Tw := l.flatMap fun s => [tS [44], tN s]
def csT : List (List Nat) → List Tw
  | [] => []
  | s :: r => tN s :: crT r
def hdT (n : Nat) : List Tw := [tK kFn, tN [102], tS [40]] ++ csT (namesV n) ++ [tS [41], tS [123]]
/-- With commas between. -/
def jnB : List (List Nat) → List Nat
  | [] => []
  | s :: r => s ++ r.flatMap fun s => [44, 32] ++ s
def funcB : List Nat := [102, 117, 110, 99, 32, 102, 40]
def openB : List Nat := [41, 32, 123, 32]
def headB (n : Nat) : List Nat := funcB ++ jnB (namesV n) ++ openB
def letB1 : List Nat := [108, 101, 116, 32]
def letB2 : List Nat := [32, 61, 32, 49, 59, 32]
def ifB1 : List Nat := [105, 102, 32, 40, 116, 114, 117, 101, 41, 32, 123, 32, 108, 101, 116, 32]
def ifB2 : List Nat := [32, 61, 32, 49, 59, 32, 125, 32]
def letB (i : Nat) : List Nat := letB1 ++ nmv i ++ letB2
def ifB (i : Nat) : List Nat := ifB1 ++ nmv i ++ ifB2
def allB (f : Nat → List Nat) (n k : Nat) : List Nat := (List.range k).flatMap fun i => f (n + i)
theorem hd_f : ((List.range 31).all fun n => decide (lexA 100 (headB n) 1 = some (hdT n, 1))) = true := by as_aux_lemma => kernel_rfl
theorem let_f : ((List.range 71).all fun i => decide (lexA 20 (letB i) 1 = some (letT i, 1))) = true := by as_aux_lemma => kernel_rfl
theorem if_f : ((List.range 71).all fun i => decide (lexA 20 (ifB i) 1 = some (ifT i, 1))) = true := by as_aux_lemma => kernel_rfl
theorem end_f : lexF 3 [125] 1 = some [tS [125], ⟨6, [], 0, 1⟩] := by kernel_rfl
theorem nm_f : ((List.range 71).all fun i => isNm (nmv i)) = true := by as_aux_lemma => kernel_rfl
theorem f_f : isNm [102] = true := by kernel_rfl
theorem hl_f : ((List.range 31).all fun n => decide ((headB n).length ≤ 200)) = true := by as_aux_lemma => kernel_rfl
theorem all_at {P : Nat → Bool} {m : Nat} (h : ((List.range m).all P) = true) {i : Nat} (hi : i < m) : P i = true := List.all_eq_true.1 h i (by simpa using hi)
theorem Lx_pieces : ∀ (ps : List Nat) (f : Nat → List Nat) (g : Nat → List Tw) (R : List Nat) (rs : List Tw), (∀ i ∈ ps, ∃ m, lexA m (f i) 1 = some (g i, 1)) → Lx R 1 rs → Lx (ps.flatMap f ++ R) 1 (ps.flatMap g ++ rs)
  | [], f, g, R, rs, _, h => h
  | i :: r, f, g, R, rs, h, hR => by
    obtain ⟨m, hm⟩ := h i (by simp)
    rw [List.flatMap_cons, List.flatMap_cons, List.append_assoc, List.append_assoc]
    exact lexA_app m _ 1 _ 1 hm _ _ (Lx_pieces r f g R rs (fun j hj => h j (by simp [hj])) hR)
theorem RSs_map (f : Nat → Sm) (g : Nat → List Tw) (h : ∀ i, RS (f i) (g i)) : ∀ l : List Nat, RSs (l.map f) (l.flatMap g)
  | [] => by rw [List.map_nil, RSs]; rfl
  | i :: r => by
    rw [List.map_cons, RSs, List.flatMap_cons]
    exact ⟨_, _, rfl, h i, RSs_map f g h r⟩
theorem let_rs (i : Nat) : RS (letS i) (letT i) := by
  unfold letS
  rw [RS]
  refine ⟨⟨_, _, rfl, rfl⟩, .inl ⟨rfl, rfl, rfl, tK kLet, tN (nmv i), tS [61], [tI], tS [59], cInt, rfl, ⟨rfl, rfl⟩, ⟨rfl, rfl⟩, ⟨rfl, rfl⟩, rfl, ?_, ⟨rfl, rfl⟩⟩⟩
  unfold cInt
  rw [RX]
  exact .inl ⟨rfl, rfl, rfl, tI, rfl, rfl, rfl⟩
theorem if_rs (i : Nat) : RS (ifS i) (ifT i) := by
  unfold ifS
  rw [RS]
  refine ⟨⟨_, _, rfl, rfl⟩, .inr (.inr (.inl ⟨rfl, rfl, tK kIf, tS [40], [tK [116, 114, 117, 101]], tS [41], tS [123] :: (letT i ++ [tS [125]]), [], cTrue, by simp [ifT], ⟨rfl, rfl⟩, ⟨rfl, rfl⟩, rfl, ?_, ⟨rfl, rfl⟩, ⟨_, _, _, rfl, ⟨rfl, rfl⟩, ⟨rfl, rfl⟩, ?_⟩, .inl ⟨rfl, rfl⟩⟩))⟩
  · unfold cTrue
    rw [RX]
    exact .inr (.inl ⟨rfl, rfl, rfl, _, rfl, .inl ⟨rfl, rfl, rfl⟩⟩)
  · have := RSs_map letS letT let_rs [i]
    simpa using this
theorem cr_ok : ∀ l : List (List Nat), CR nmW l (crT l)
  | [] => rfl
  | s :: r => ⟨tS [44], [tN s], crT r, rfl, ⟨rfl, rfl⟩, ⟨tN s, rfl, rfl, rfl⟩, cr_ok r⟩
theorem cs_ok (l : List (List Nat)) : CS nmW l (csT l) := by
  cases l with
  | nil => rfl
  | cons s r => exact ⟨[tN s], crT r, rfl, ⟨tN s, rfl, rfl, rfl⟩, cr_ok r⟩
def fnV (n : Nat) (l : List Sm) : Bd := ⟨[102], namesV n, l, 1⟩
theorem fn_ok (n : Nat) (l : List Sm) (B : List Tw) (h : RSs l B) : RIt [.fn (fnV n l)] (hdT n ++ B ++ [tS [125]]) := by
  refine ⟨tK kFn, tN [102] :: (tS [40] :: (csT (namesV n) ++ [tS [41]]) ++ tS [123] :: (B ++ [tS [125]])), [], by simp [hdT], ⟨rfl, rfl⟩, rfl, ⟨tN [102], tS [40] :: (csT (namesV n) ++ [tS [41]]), tS [123] :: (B ++ [tS [125]]), rfl, ⟨rfl, rfl⟩, ⟨_, _, _, rfl, ⟨rfl, rfl⟩, ⟨rfl, rfl⟩, cs_ok _⟩, ⟨_, _, _, rfl, ⟨rfl, rfl⟩, ⟨rfl, rfl⟩, h⟩⟩, rfl⟩
/-- The text of a function is read as it. -/
theorem parse_V {n k : Nat} (hn : n ≤ 30) (hk : k ≤ 40) (f : Nat → List Nat) (g : Nat → List Tw) (s : Nat → Sm) (hf : ∀ i < 71, ∃ m, lexA m (f i) 1 = some (g i, 1)) (hs : ∀ i, RS (s i) (g i)) (hsz : ∀ i, szS (s i) ≤ 4 ∧ dpS (s i) ≤ 10) (hlen : ∀ i, (f i).length ≤ 30 ∧ 10 ≤ (f i).length) :
    parseF (headB n ++ allB f n k ++ [125]) (fuel (headB n ++ allB f n k ++ [125])) = if rightP ⟨[fnV n ((List.range k).map fun i => s (n + i))], []⟩ then some (⟨[fnV n ((List.range k).map fun i => s (n + i))], []⟩, 0, 0) else some (⟨[], []⟩, 102, 0) := by
  have hh := of_decide_eq_true (all_at hd_f (show n < 31 by omega))
  have hhl := of_decide_eq_true (all_at hl_f (show n < 31 by omega))
  have hal : ∀ k, (allB f n k).length ≤ 30 * k ∧ 10 * k ≤ (allB f n k).length := by
    intro k
    induction k with
    | zero => simp [allB]
    | succ k ih =>
      have e : allB f n (k + 1) = allB f n k ++ f (n + k) := by unfold allB; rw [List.range_succ, List.flatMap_append]; simp
      have := hlen (n + k)
      rw [e, List.length_append]
      omega
  have hak := hal k
  have hL : Lx (headB n ++ allB f n k ++ [125]) 1 (hdT n ++ (List.range k).flatMap (fun i => g (n + i)) ++ [tS [125]] ++ [⟨6, [], 0, 1⟩]) := by
    have h1 := Lx_pieces (List.range k) (fun i => f (n + i)) (fun i => g (n + i)) [125] _ (fun i hi => hf (n + i) (by have := List.mem_range.1 hi; omega)) (lexF_lx 3 _ _ _ end_f)
    have h2 := lexA_app 100 _ 1 _ 1 hh _ _ h1
    simpa [allB, List.append_assoc] using h2
  have hT : (headB n ++ allB f n k ++ [125]).length ≤ 32768 := by
    simp only [List.length_append, List.length_singleton]
    omega
  have hszs : ∀ k, szSs ((List.range k).map fun i => s (n + i)) ≤ 4 * k ∧ dpSs ((List.range k).map fun i => s (n + i)) ≤ 10 := by
    intro k
    have key : ∀ l : List Nat, szSs (l.map fun i => s (n + i)) ≤ 4 * l.length ∧ dpSs (l.map fun i => s (n + i)) ≤ 10 := by
      intro l
      induction l with
      | nil => simp [szSs, dpSs]
      | cons i r ih =>
        have := hsz (n + i)
        rw [List.map_cons, szSs, dpSs, List.length_cons]
        omega
    have := key (List.range k)
    rwa [List.length_range] at this
  have hsk := hszs k
  have ht : Toks (headB n ++ allB f n k ++ [125]) 0 (hdT n ++ (List.range k).flatMap (fun i => g (n + i)) ++ [tS [125]] ++ [⟨6, [], 0, 1⟩]) := Lx.toks (Nat.zero_le _) (by simpa using hL)
  have hnl : (namesV n).length = n := by simp [namesV]
  exact parse_reads hT [.fn (fnV n ((List.range k).map fun i => s (n + i)))] _ _ ht rfl (fn_ok n _ _ (RSs_map (fun i => s (n + i)) (fun i => g (n + i)) (fun i => hs _) _)) (by
    intro x hx
    rw [List.mem_singleton.1 hx]
    refine ⟨?_, ?_, ?_⟩
    · unfold fuel fnV
      simp only [List.length_append, List.length_singleton]
      omega
    · unfold fnV
      dsimp only
      omega
    · unfold fuel fnV
      simp only [List.length_append, List.length_singleton, hnl]
      have : 7 + 4 ≤ (headB n).length := by unfold headB; simp only [List.length_append]; have : funcB.length = 7 := rfl; have : openB.length = 4 := rfl; omega
      have h3 : ∀ n, n ≤ (jnB (namesV n)).length + 1 := by
        intro n
        have key : ∀ l : List (List Nat), l.length ≤ (jnB l).length + 1 := by
          intro l
          cases l with
          | nil => simp
          | cons a r =>
            have : ∀ r : List (List Nat), r.length ≤ (r.flatMap fun s => [44, 32] ++ s).length := by
              intro r
              induction r with
              | nil => simp
              | cons b q ih => rw [List.flatMap_cons, List.length_append, List.length_cons, List.length_append, show ([44, 32] : List Nat).length = 2 from rfl]; omega
            have := this r
            rw [jnB, List.length_append, List.length_cons]
            omega
        have := key (namesV n)
        simpa [namesV] using this
      have h4 := h3 n
      have : (headB n).length = 7 + (jnB (namesV n)).length + 4 := by unfold headB; simp only [List.length_append]; have : funcB.length = 7 := rfl; have : openB.length = 4 := rfl; omega
      omega) (by unfold fuel; simp)
end Go.Proofs.YtpakjjefbholdaaGreatDoor
namespace Go.Proofs.YtpakjjefbholdaaGreatDoor
set_option linter.unusedVariables false
set_option maxRecDepth 100000

theorem nmv_inj {i j : Nat} (h : nmv i = nmv j) : i = j := by
  unfold nmv at h
  simp only [List.cons.injEq, and_true, true_and] at h
  omega
theorem names_mem {n i : Nat} : nmv i ∈ namesV n ↔ i < n := by
  unfold namesV
  rw [List.mem_map]
  constructor
  · rintro ⟨j, hj, h⟩
    rw [← nmv_inj h]
    exact List.mem_range.1 hj
  · intro h
    exact ⟨i, List.mem_range.2 h, rfl⟩
theorem names_succ (n : Nat) : namesV (n + 1) = namesV n ++ [nmv n] := by
  unfold namesV
  rw [List.range_succ, List.map_append]
  rfl
theorem addN_snoc : ∀ (l : Nms) (n : Nms) (s : List Nat), addN n (l ++ [s]) = match addN n l with | none => none | some m => if s ∈ m then none else some (m ++ [s])
  | [], n, s => by
    rw [List.nil_append, addN, addN]
    dsimp only
    split
    · rfl
    · rw [addN]
  | t :: r, n, s => by
    rw [List.cons_append, addN, addN]
    split
    · rfl
    · rw [addN_snoc r]
theorem addN_names : ∀ n, addN [] (namesV n) = some (namesV n)
  | 0 => by rw [show namesV 0 = [] from rfl, addN]
  | n + 1 => by
    rw [names_succ, addN_snoc, addN_names n]
    dsimp only
    rw [if_neg (fun h => by have := names_mem.1 h; omega)]
theorem names_len (n : Nat) : (namesV n).length = n := by simp [namesV]
/-- Lets, one behind the other. -/
theorem lets_c (c : Ck) : ∀ (k i : Nat) (h : i ≤ 30), smsC c (namesV i) ((List.range k).map fun j => letS (i + j)) = if i + k ≤ 30 then fl0 else (102, 1)
  | 0, i, h => by rw [List.range_zero, List.map_nil, smsC, if_pos (by omega)]
  | k + 1, i, h => by
    rw [List.range_succ_eq_map, List.map_cons, smsC_cons, List.map_map]
    have e1 : smC c (namesV i) (letS (i + 0)) = if 30 ≤ i then (102, 1) else fl0 := by
      unfold letS
      rw [smC]
      have e2 : exsC c (namesV i) [cInt] = 0 := by
        unfold cInt
        rw [exsC, exC, exsC]
        rfl
      have e3 : stE c (namesV i) 1 (nmv (i + 0)) [cInt].length = if 30 ≤ i then 102 else 0 := by
        unfold stE letN
        rw [if_pos rfl, if_neg (fun h => by have := names_mem.1 h; omega), names_len]
      rw [e2, e3]
      by_cases h30 : 30 ≤ i
      · rw [if_pos h30, if_pos h30]
        rfl
      · rw [if_neg h30, if_neg h30, smsC]
        rfl
    rw [e1]
    by_cases h30 : 30 ≤ i
    · rw [if_pos h30, if_neg (by omega)]
      rfl
    · rw [if_neg h30]
      have e4 : scS (namesV i) (letS (i + 0)) = namesV (i + 1) := by
        rw [names_succ]
        rfl
      have e5 : ((fun j => letS (i + j)) ∘ Nat.succ) = fun j => letS (i + 1 + j) := by
        funext j
        show letS (i + (j + 1)) = letS (i + 1 + j)
        rw [show i + (j + 1) = i + 1 + j by omega]
      rw [e4, e5, lets_c c k (i + 1) (by omega)]
      show (if i + 1 + k ≤ 30 then fl0 else (102, 1)) = _
      by_cases hk : i + 1 + k ≤ 30
      · rw [if_pos hk, if_pos (by omega)]
      · rw [if_neg hk, if_neg (by omega)]
/-- Lets in braces. -/
theorem ifs_c (c : Ck) (n : Nat) (hn : n ≤ 30) : ∀ (k i : Nat), n ≤ i → smsC c (namesV n) ((List.range k).map fun j => ifS (i + j)) = if n = 30 ∧ 0 < k then (102, 1) else fl0
  | 0, i, h => by rw [List.range_zero, List.map_nil, smsC, if_neg (by omega)]
  | k + 1, i, h => by
    rw [List.range_succ_eq_map, List.map_cons, smsC_cons, List.map_map]
    have e1 : smC c (namesV n) (ifS (i + 0)) = if 30 ≤ n then (102, 1) else fl0 := by
      unfold ifS
      rw [smC]
      have e2 : exsC c (namesV n) [cTrue] = 0 := by
        unfold cTrue
        rw [exsC, exC, exsC]
        rfl
      have e3 : stE c (namesV n) 3 [] [cTrue].length = 0 := rfl
      rw [e2, e3]
      have e6 : scF (namesV n) 3 [] = namesV n := rfl
      have e7 : smC c (namesV n) (letS (i + 0)) = if 30 ≤ n then (102, 1) else fl0 := by
        unfold letS
        rw [smC]
        have e2 : exsC c (namesV n) [cInt] = 0 := by
          unfold cInt
          rw [exsC, exC, exsC]
          rfl
        have e3 : stE c (namesV n) 1 (nmv (i + 0)) [cInt].length = if 30 ≤ n then 102 else 0 := by
          unfold stE letN
          rw [if_pos rfl, if_neg (fun h => by have := names_mem.1 h; omega), names_len]
        rw [e2, e3]
        by_cases h30 : 30 ≤ n
        · rw [if_pos h30, if_pos h30]
          rfl
        · rw [if_neg h30, if_neg h30, smsC]
          rfl
      rw [e6, smsC_cons, e7, smsC]
      by_cases h30 : 30 ≤ n
      · rw [if_pos h30]
        rfl
      · rw [if_neg h30]
        rfl
    rw [e1]
    by_cases h30 : 30 ≤ n
    · rw [if_pos h30, if_pos ⟨by omega, by omega⟩]
      rfl
    · rw [if_neg h30, if_neg (by omega)]
      have e4 : scS (namesV n) (ifS (i + 0)) = namesV n := rfl
      have e5 : ((fun j => ifS (i + j)) ∘ Nat.succ) = fun j => ifS (i + 1 + j) := by
        funext j
        show ifS (i + (j + 1)) = ifS (i + 1 + j)
        rw [show i + (j + 1) = i + 1 + j by omega]
      rw [e4, e5, ifs_c c n hn k (i + 1) (by omega), if_neg (by omega)]
      rfl
/-- Such a function is right. -/
theorem right_V {n k : Nat} (hn : n ≤ 30) (hk : k ≤ 40) (s : Nat → Sm) (z : Nat) (hz : z ≤ 4) (hs : ∀ i < 71, ∀ c, z ≤ c → smR 1 (s i) c = some (c - z)) : rightP ⟨[fnV n ((List.range k).map fun i => s (n + i))], []⟩ = true := by
  have h1 : ∀ (l : List Nat) (c : Nat), (∀ i ∈ l, n + i < 71) → z * l.length ≤ c → smsR 1 (l.map fun i => s (n + i)) c = some (c - z * l.length) := by
    intro l
    induction l with
    | nil => intro c _ _; rw [List.map_nil, smsR]; simp
    | cons i r ih =>
      intro c hm hc
      rw [List.length_cons, Nat.mul_add, Nat.mul_one] at hc
      rw [List.map_cons, smsR, hs (n + i) (hm i (by simp)) c (by omega)]
      dsimp only
      rw [ih (c - z) (fun j hj => hm j (by simp [hj])) (by omega), List.length_cons, Nat.mul_add, Nat.mul_one, Nat.sub_sub, Nat.add_comm z]
  have h2 := h1 (List.range k) 2000 (fun i hi => by have := List.mem_range.1 hi; omega) (by rw [List.length_range]; have : z * k ≤ 4 * 40 := Nat.mul_le_mul hz hk; omega)
  have h3 : headR [102] (namesV n) = true := by
    unfold headR
    rw [f_f, names_len, decide_eq_true hn, Bool.true_and, Bool.true_and, List.all_eq_true]
    intro x hx
    obtain ⟨i, hi, rfl⟩ := List.mem_map.1 hx
    exact all_at nm_f (by have := List.mem_range.1 hi; omega)
  unfold rightP
  rw [if_neg (by simp)]
  dsimp only
  rw [bodiesR]
  unfold bodyR fnV
  dsimp only
  rw [h3, if_pos rfl, h2]
  dsimp only
  rw [bodiesR]
  rfl
theorem let_smR : ∀ i < 71, ∀ c, 2 ≤ c → smR 1 (letS i) c = some (c - 2) := fun i hi c hc => by
  unfold letS
  rw [smR, if_neg (by omega)]
  have h1 : rightS 1 (nmv i) [cInt].length 0 0 = true := by
    unfold rightS
    rw [if_neg (by decide), if_neg (by decide), if_neg (by decide), if_pos (by decide), all_at nm_f hi]
    rfl
  rw [show ([] : List Sm).length = 0 from rfl, h1, if_neg (by simp)]
  have h2 : exsR 2 [cInt] (c - 1) = some (c - 2) := by
    unfold cInt
    rw [exsR, exR, if_neg (by omega), if_neg (by simp [rightX]), exsR]
    dsimp only
    rw [exsR, Nat.sub_sub]
  rw [show (1 + 1 : Nat) = 2 from rfl, h2]
  dsimp only
  rw [smsR]
  dsimp only
  rw [smsR]
theorem if_smR : ∀ i < 71, ∀ c, 4 ≤ c → smR 1 (ifS i) c = some (c - 4) := fun i hi c hc => by
  unfold ifS
  rw [smR, if_neg (by omega), show rightS 3 [] [cTrue].length [letS i].length ([] : List Sm).length = true from rfl, if_neg (by simp)]
  have h2 : exsR 2 [cTrue] (c - 1) = some (c - 2) := by
    unfold cTrue
    rw [exsR, exR, if_neg (by omega), if_neg (by simp [rightX]), exsR]
    dsimp only
    rw [exsR, Nat.sub_sub]
  have h4 : ∀ d, d ≤ 2 → smR d (letS i) (c - 2) = some (c - 4) := fun d hd => by
    unfold letS
    rw [smR, if_neg (by omega)]
    have h1 : rightS 1 (nmv i) [cInt].length 0 0 = true := by
      unfold rightS
      rw [if_neg (by decide), if_neg (by decide), if_neg (by decide), if_pos (by decide), all_at nm_f hi]
      rfl
    rw [show ([] : List Sm).length = 0 from rfl, h1, if_neg (by simp)]
    have h2 : exsR (d + 1) [cInt] (c - 2 - 1) = some (c - 4) := by
      unfold cInt
      rw [exsR, exR, if_neg (by omega), if_neg (by simp [rightX]), exsR]
      dsimp only
      rw [exsR, Nat.sub_sub, Nat.sub_sub]
    rw [h2]
    dsimp only
    rw [smsR]
    dsimp only
    rw [smsR]
  rw [show (1 + 1 : Nat) = 2 from rfl, h2]
  dsimp only
  rw [smsR, h4 2 (by omega)]
  dsimp only
  rw [smsR]
  dsimp only
  rw [smsR]
theorem check_V (n : Nat) (hn : n ≤ 30) (l : List Sm) (f : Flt) (h : ∀ c, smsC c (namesV n) l = f) (hf : f.1 = 0 → f = fl0) : checkG ⟨[fnV n l], []⟩ = f := by
  unfold checkG
  dsimp only
  rw [bdsC, if_neg (by simp)]
  unfold bdC fnV
  dsimp only
  rw [addN_names]
  dsimp only
  rw [if_neg (by rw [names_len]; omega), h, bdsC, rlsC]
  unfold fstF
  by_cases h0 : f.1 = 0
  · rw [if_pos h0, hf h0]
    rfl
  · rw [if_neg h0, if_neg h0]
theorem let_sz (i : Nat) : szS (letS i) ≤ 4 ∧ dpS (letS i) ≤ 10 := by
  unfold letS cInt
  simp [szS, dpS, szEs, dpEs, szE, dpE, szSs, dpSs]
theorem if_sz (i : Nat) : szS (ifS i) ≤ 4 ∧ dpS (ifS i) ≤ 10 := by
  unfold ifS cTrue letS cInt
  simp [szS, dpS, szEs, dpEs, szE, dpE, szSs, dpSs]
theorem fault_let {n k : Nat} (hn : n ≤ 30) (hk : k ≤ 40) : faultF (headB n ++ allB letB n k ++ [125]) = some (if n + k ≤ 30 then 0 else 102, if n + k ≤ 30 then 0 else 1) := by
  unfold faultF
  rw [parse_V hn hk letB letT letS (fun i hi => ⟨20, of_decide_eq_true (all_at let_f hi)⟩) let_rs let_sz (fun i => by unfold letB nmv; simp [letB1, letB2]), right_V hn hk letS 2 (by omega) let_smR, if_pos rfl]
  dsimp only
  rw [if_pos rfl]
  unfold checkF
  rw [right_V hn hk letS 2 (by omega) let_smR, if_pos rfl, check_V n hn _ (if n + k ≤ 30 then fl0 else (102, 1)) (fun c => lets_c c k n hn) (by split <;> simp)]
  split <;> rfl
theorem fault_if {n k : Nat} (hn : n ≤ 30) (hk : k ≤ 40) : faultF (headB n ++ allB ifB n k ++ [125]) = some (if n = 30 ∧ 0 < k then 102 else 0, if n = 30 ∧ 0 < k then 1 else 0) := by
  unfold faultF
  rw [parse_V hn hk ifB ifT ifS (fun i hi => ⟨20, of_decide_eq_true (all_at if_f hi)⟩) if_rs if_sz (fun i => by unfold ifB nmv; simp [ifB1, ifB2]), right_V hn hk ifS 4 (by omega) if_smR, if_pos rfl]
  dsimp only
  rw [if_pos rfl]
  unfold checkF
  rw [right_V hn hk ifS 4 (by omega) if_smR, if_pos rfl, check_V n hn _ (if n = 30 ∧ 0 < k then (102, 1) else fl0) (fun c => ifs_c c n hn k n (Nat.le_refl _)) (by split <;> simp)]
  split <;> rfl
end Go.Proofs.YtpakjjefbholdaaGreatDoor
namespace Go.Proofs.YtpakjjefbholdaaGreatDoor
open Go.RowKit
set_option linter.unusedVariables false

set_option maxRecDepth 100000 in
set_option maxHeartbeats 2000000 in
theorem vname_any (i : Nat) (hi : i ≤ 200) (w : World) : Calls Tryz.prog 39 #[.int .i64 (i : Int)] w fun e w' => e = .returned (.string (strOf (nmv i))) ∧ Below w.heap.size w w' := by
  have ad : ∀ w, (Op.stringOp .add ⟨#[118]⟩ (strOf [97 + i / 10, 48 + i % 10])).run Tryz.prog w = .ok (.string (strOf (nmv i))) w := add_strs2 [118] _ (by simp)
  have hcv : (convert 66 9 (.slice (some ⟨w.heap.size, 0, none⟩) 2 2)).run Tryz.prog (w.alloc (.cells #[.int .u8 (97 + (i : Int) / 10), .int .u8 (48 + (i : Int) % 10)] 5)) = .ok (.string (strOf [97 + i / 10, 48 + i % 10])) (w.alloc (.cells #[.int .u8 (97 + (i : Int) / 10), .int .u8 (48 + (i : Int) % 10)] 5)) := by
    rw [show (97 + (i : Int) / 10) = ((97 + i / 10 : Nat) : Int) by omega, show (48 + (i : Int) % 10) = ((48 + i % 10 : Nat) : Int) by omega]
    exact run_strOf _ (w.heap.size + 1) _ 2 [97 + i / 10, 48 + i % 10] (At.made w #[.int .u8 ((97 + i / 10 : Nat) : Int), .int .u8 ((48 + i % 10 : Nat) : Int)] 5) (by
      intro x hx
      simp at hx
      omega)
  obtain ⟨S1, h1⟩ : ∃ S, Hid (strOf [97 + i / 10, 48 + i % 10] = S) := ⟨_, Lib.hid rfl⟩
  obtain ⟨S2, h2⟩ : ∃ S, Hid (strOf (nmv i) = S) := ⟨_, Lib.hid rfl⟩
  rw [h1.out] at ad hcv
  rw [h2.out] at ad ⊢
  go_enter Tryz.func39, Tryz.ntmps39
  go_wp2_with fail
  go_ret
  exact ⟨rfl, (Below.refl _ _).alloc (Nat.le_refl _) _⟩
/-- A row of texts of the call's own. -/
def OwnS (w : World) (base : Nat) (v : Value) (l : List (List Nat)) : Prop := w.ownsRow base 9 1 v l.length (l.map fun s => .string (strOf s))
theorem OwnS.nil (w : World) (base : Nat) : OwnS w base (.slice none 0 0) [] := World.ownsRow_nil w base _ 1
theorem OwnS.below {w w' : World} {base : Nat} {v : Value} {l : List (List Nat)} (h : OwnS w base v l) (hb : Below w.heap.size w w') : OwnS w' base v l :=
  World.ownsRow.kept (row := none) h ⟨hb.os, hb.tape, hb.output, hb.size, fun k hk _ => hb.block k hk⟩ (by cases hv : v.ownBlock <;> simp)
theorem OwnS.form {w : World} {base : Nat} {v : Value} {l : List (List Nat)} (h : OwnS w base v l) : ∃ A c, v = .slice A l.length c ∧ l.length ≤ c ∧ (∀ (i : Nat) s, l[i]? = some s → ∃ b, A = some ⟨b, 0, none⟩ ∧ base ≤ b ∧ b < w.heap.size ∧ w.cell? ⟨b, i, none⟩ = some (.string (strOf s))) := by
  have h' := h
  rcases h.2 with ⟨h1, h2⟩ | ⟨g, cap, cur, h1, h2, h3, h4, h5, _⟩
  · subst h1
    have : l = [] := List.eq_nil_of_length_eq_zero (by simpa using h2)
    subst this
    exact ⟨none, 0, rfl, Nat.le_refl _, by simp⟩
  · subst h1
    refine ⟨_, cap, rfl, by simpa using h4, fun i s hs => ⟨g, rfl, h2, lt_heap h3, ?_⟩⟩
    have := World.ownsRow.cells h' rfl i (.string (strOf s)) (by rw [List.getElem?_map, hs]; rfl)
    rw [Addr.add_lit] at this
    simpa using this
theorem str_info2 : (Tryz.prog.info? 9).map (fun i => (i.zero, i.size, i.bytes)) = some (some (.string ⟨#[]⟩), 1, 16) := by kernel_rfl
/-- Names with commas between: strings.Join. -/
theorem join_data (l : List (List Nat)) : Lib.join (l.map fun s => s.map UInt8.ofNat) [44, 32] = (jnB l).map UInt8.ofNat := by
  unfold Lib.join
  cases l with
  | nil => rfl
  | cons s r =>
    rw [List.map_cons, jnB, List.map_append]
    induction r generalizing s with
    | nil => simp [List.intercalate]
    | cons t q ih =>
      have := ih t
      simp only [List.intercalate, List.map_cons, List.intersperse_cons_cons, List.flatten_cons, List.flatMap_cons, List.map_append] at this ⊢
      rw [this]
      rfl
theorem join_any (w : World) (base : Nat) (v : Value) (l : List (List Nat)) (h : OwnS w base v l) (hl : (jnB l).length ≤ 1000000) (hn : l.length ≤ 1000000) :
    Calls Tryz.prog 31 #[v, .string ⟨#[44, 32]⟩] w fun e w' => e = .returned (.string (strOf (jnB l))) ∧ Below w.heap.size w w' := by
  obtain ⟨A, c, rfl, hc, hcell⟩ := h.form
  cases l with
  | nil =>
    refine (Tryz.strings_Join_none A c _ w).mono ?_
    rintro e w' ⟨rfl, rfl⟩
    exact ⟨rfl, Below.refl _ _⟩
  | cons s r =>
    obtain ⟨b, rfl, -, hb, -⟩ := hcell 0 s rfl
    have e1 : ((s :: r).map strOf).map (fun x => x.data.toList) = (s :: r).map fun s => s.map UInt8.ofNat := by
      rw [List.map_map]
      rfl
    have h1 := Tryz.strings_Join b 0 c ((s :: r).map strOf) ⟨#[44, 32]⟩ w (fun j x hx => by
      rw [List.getElem?_map] at hx
      obtain ⟨u, h2, rfl⟩ := Option.map_eq_some_iff.1 hx
      obtain ⟨b', e, -, -, h3⟩ := hcell j u h2
      cases e
      rw [Nat.zero_add]
      exact h3) hb (by rw [List.length_map]; omega) (by rw [List.length_map]; exact hc) (by
      rw [e1]
      have := join_data (s :: r)
      rw [show (⟨#[44, 32]⟩ : ByteArray).data.toList = [44, 32] from rfl, this, List.length_map]
      omega)
    rw [List.length_map] at h1
    refine h1.mono ?_
    rintro e w' ⟨rfl, hb'⟩
    refine ⟨?_, hb'⟩
    rw [e1, show (⟨#[44, 32]⟩ : ByteArray).data.toList = [44, 32] from rfl, join_data]
    rfl
end Go.Proofs.YtpakjjefbholdaaGreatDoor
namespace Go.Proofs.YtpakjjefbholdaaGreatDoor
set_option linter.unusedVariables false
set_option maxRecDepth 100000

def nma (j : Nat) : List Nat := [112, 97 + j]
def namesA (n : Nat) : List (List Nat) := (List.range n).map nma
def itN : List Nat := [105, 116]
def nobN : List Nat := [110, 111, 98, 111, 100, 121]
def whoN (t : Bool) : List Nat := if t then itN else nobN
def funcIt : List Nat := [102, 117, 110, 99, 32, 105, 116, 40]
def actIt : List Nat := [97, 99, 116, 111, 114, 32, 105, 116, 40]
def tailA : List Nat := [41, 32, 123, 32, 125, 32, 97, 99, 116, 111, 114, 32, 114, 111, 108, 101, 40, 41, 32, 123, 32, 111, 110, 32, 103, 111, 40, 41, 32, 123, 10]
def kindIt (w : Nat) : List Nat := if w = 0 then funcIt else actIt
def headA (w n : Nat) : List Nat := kindIt w ++ jnB (namesA n) ++ tailA
def callB : List Nat := [99, 97, 108, 108, 32]
def spawnB : List Nat := [115, 112, 97, 119, 110, 32]
def becomeB : List Nat := [98, 101, 99, 111, 109, 101, 32]
def verbB (w : Nat) : List Nat := if w = 0 then callB else if w = 1 then spawnB else becomeB
/-- So many ones with commas between. -/
def onesB (k : Nat) : List Nat := jnB (List.replicate k [49])
def useB (w : Nat) (t : Bool) (k : Nat) : List Nat := verbB w ++ whoN t ++ [40] ++ onesB k ++ [41, 59]
def endA : List Nat := [32, 125, 32, 125]
def tS2 (s : List Nat) : Tw := ⟨5, s, 0, 2⟩
def tI2 : Tw := ⟨1, [], 1, 2⟩
def oneT : Nat → List Tw
  | 0 => []
  | k + 1 => [tS2 [44], tI2] ++ oneT k
def onesT : Nat → List Tw
  | 0 => []
  | k + 1 => tI2 :: oneT k
def kCall : List Nat := [99, 97, 108, 108]
def kSpawn : List Nat := [115, 112, 97, 119, 110]
def keyA (w : Nat) : List Nat := if w = 0 then kCall else if w = 1 then kSpawn else kBecome
def hdA (w n : Nat) : List Tw := tK (if w = 0 then kFn else kAc) :: tN itN :: tS [40] :: (csT (namesA n) ++ [tS [41], tS [123], tS [125], tK kAc, tN [114, 111, 108, 101], tS [40], tS [41], tS [123], tK kOn, tN [103, 111], tS [40], tS [41], tS [123]])
def usT (w : Nat) (t : Bool) (k : Nat) : List Tw := ⟨4, keyA w, 0, 2⟩ :: ⟨3, whoN t, 0, 2⟩ :: tS2 [40] :: (onesT k ++ [tS2 [41], tS2 [59], tS2 [125], tS2 [125]])
def useSm (w : Nat) (t : Bool) (k : Nat) : Sm :=
  if w = 0 then .mk 9 [] [.mk 10 (whoN t) 0 (List.replicate k cInt)] [] [] 2
  else if w = 1 then .mk 9 [] [.mk 11 (whoN t) 0 (List.replicate k cInt)] [] [] 2
  else .mk 7 (whoN t) (List.replicate k cInt) [] [] 2
def roleA (w : Nat) (t : Bool) (k : Nat) : Rl := ⟨[114, 111, 108, 101], [], [⟨[103, 111], [], [useSm w t k], 1⟩], 1⟩
def itA (w n : Nat) : It := if w = 0 then .fn ⟨itN, namesA n, [], 1⟩ else .ac ⟨itN, namesA n, [], 1⟩
def itsA (w : Nat) (t : Bool) (n k : Nat) : List It := [itA w n, .ac (roleA w t k)]
def wantA (t : Bool) (n k : Nat) : Flt := if t = false then (110, 2) else if n = k then (0, 0) else (111, 2)
theorem hda_f : ((List.range 3).all fun w => (List.range 13).all fun n => decide (lexA 100 (headA w n) 1 = some (hdA w n, 2))) = true := by as_aux_lemma => kernel_rfl
theorem usa_f : ((List.range 3).all fun w => [true, false].all fun t => (List.range 13).all fun k => decide (lexF 100 (useB w t k ++ endA) 2 = some (usT w t k ++ [⟨6, [], 0, 2⟩]))) = true := by as_aux_lemma => kernel_rfl
theorem cha_f : ((List.range 3).all fun w => [true, false].all fun t => (List.range 13).all fun n => (List.range 13).all fun k => rightP (itG ⟨[], []⟩ (itsA w t n k)) && decide (checkG (itG ⟨[], []⟩ (itsA w t n k)) = wantA t n k)) = true := by as_aux_lemma => kernel_rfl
theorem lna_f : ((List.range 3).all fun w => [true, false].all fun t => (List.range 13).all fun k => decide ((useB w t k).length ≤ 100)) = true := by as_aux_lemma => kernel_rfl
theorem lnb_f : ((List.range 3).all fun w => (List.range 13).all fun n => decide ((headA w n).length ≤ 200)) = true := by as_aux_lemma => kernel_rfl
theorem ones_r : ∀ k, RXr (List.replicate k cInt) (oneT k)
  | 0 => by rw [List.replicate_zero, RXr]; rfl
  | k + 1 => by
    rw [List.replicate_succ, RXr]
    refine ⟨tS2 [44], [tI2], oneT k, rfl, ⟨rfl, rfl⟩, ?_, ones_r k⟩
    unfold cInt
    rw [RX]
    exact .inl ⟨rfl, rfl, rfl, tI2, rfl, rfl, rfl⟩
theorem ones_s (k : Nat) : RXs (List.replicate k cInt) (onesT k) := by
  cases k with
  | zero => rw [List.replicate_zero, RXs]; rfl
  | succ k =>
    rw [List.replicate_succ, RXs]
    refine ⟨[tI2], oneT k, rfl, ?_, ones_r k⟩
    unfold cInt
    rw [RX]
    exact .inl ⟨rfl, rfl, rfl, tI2, rfl, rfl, rfl⟩
theorem useSm_rs (w : Nat) (t : Bool) (k : Nat) : RS (useSm w t k) (⟨4, keyA w, 0, 2⟩ :: ⟨3, whoN t, 0, 2⟩ :: tS2 [40] :: (onesT k ++ [tS2 [41], tS2 [59]])) := by
  have hp : Par (RXs (List.replicate k cInt)) (tS2 [40] :: (onesT k ++ [tS2 [41]])) := ⟨_, _, _, rfl, ⟨rfl, rfl⟩, ⟨rfl, rfl⟩, ones_s k⟩
  unfold useSm keyA
  by_cases h0 : w = 0
  · rw [if_pos h0, if_pos h0, RS]
    refine ⟨⟨_, _, rfl, rfl⟩, .inr (.inr (.inr (.inr (.inr (.inr (.inr (.inr ⟨rfl, rfl, rfl, rfl, ⟨4, kCall, 0, 2⟩ :: ⟨3, whoN t, 0, 2⟩ :: (tS2 [40] :: (onesT k ++ [tS2 [41]])), tS2 [59], _, by simp, rfl, ?_, ⟨rfl, rfl⟩⟩)))))))⟩
    rw [RX]
    exact .inr (.inr (.inr (.inr (.inr (.inr (.inr (.inr (.inr (.inr (.inl ⟨rfl, rfl, _, _, _, rfl, ⟨rfl, rfl⟩, ⟨rfl, rfl⟩, hp⟩))))))))))
  · rw [if_neg h0, if_neg h0]
    by_cases h1 : w = 1
    · rw [if_pos h1, if_pos h1, RS]
      refine ⟨⟨_, _, rfl, rfl⟩, .inr (.inr (.inr (.inr (.inr (.inr (.inr (.inr ⟨rfl, rfl, rfl, rfl, ⟨4, kSpawn, 0, 2⟩ :: ⟨3, whoN t, 0, 2⟩ :: (tS2 [40] :: (onesT k ++ [tS2 [41]])), tS2 [59], _, by simp, rfl, ?_, ⟨rfl, rfl⟩⟩)))))))⟩
      rw [RX]
      exact .inr (.inr (.inr (.inr (.inr (.inr (.inr (.inr (.inr (.inr (.inr ⟨rfl, rfl, _, _, _, rfl, ⟨rfl, rfl⟩, ⟨rfl, rfl⟩, hp⟩))))))))))
    · rw [if_neg h1, if_neg h1, RS]
      exact ⟨⟨_, _, rfl, rfl⟩, .inr (.inr (.inr (.inr (.inr (.inr (.inl ⟨rfl, rfl, rfl, ⟨4, kBecome, 0, 2⟩, ⟨3, whoN t, 0, 2⟩, tS2 [40] :: (onesT k ++ [tS2 [41]]), tS2 [59], by simp, ⟨rfl, rfl⟩, ⟨rfl, rfl⟩, hp, ⟨rfl, rfl⟩⟩))))))⟩
theorem its_rs (w : Nat) (t : Bool) (n k : Nat) : RIt (itsA w t n k) (hdA w n ++ usT w t k) := by
  have hbody : RBd ⟨[103, 111], [], [useSm w t k], 1⟩ (tN [103, 111] :: ([tS [40], tS [41]] ++ (tS [123] :: ((⟨4, keyA w, 0, 2⟩ :: ⟨3, whoN t, 0, 2⟩ :: tS2 [40] :: (onesT k ++ [tS2 [41], tS2 [59]])) ++ [tS2 [125]])))) := by
    refine ⟨_, _, _, rfl, ⟨rfl, rfl⟩, ⟨tS [40], [], tS [41], rfl, ⟨rfl, rfl⟩, ⟨rfl, rfl⟩, rfl⟩, ⟨_, _, _, rfl, ⟨rfl, rfl⟩, ⟨rfl, rfl⟩, ?_⟩⟩
    show RSs [useSm w t k] _
    rw [RSs]
    exact ⟨_, [], by simp, useSm_rs w t k, by rw [RSs]⟩
  have hrole : RIt [.ac (roleA w t k)] ([tK kAc, tN [114, 111, 108, 101], tS [40], tS [41], tS [123], tK kOn] ++ (tN [103, 111] :: ([tS [40], tS [41]] ++ (tS [123] :: ((⟨4, keyA w, 0, 2⟩ :: ⟨3, whoN t, 0, 2⟩ :: tS2 [40] :: (onesT k ++ [tS2 [41], tS2 [59]])) ++ [tS2 [125]])))) ++ [tS2 [125]]) := by
    refine ⟨tK kAc, _, [], by simp; rfl, ⟨rfl, rfl⟩, rfl, ⟨tN [114, 111, 108, 101], [tS [40], tS [41]], tS [123] :: ((tK kOn :: (tN [103, 111] :: ([tS [40], tS [41]] ++ (tS [123] :: ((⟨4, keyA w, 0, 2⟩ :: ⟨3, whoN t, 0, 2⟩ :: tS2 [40] :: (onesT k ++ [tS2 [41], tS2 [59]])) ++ [tS2 [125]]))))) ++ [tS2 [125]]), by simp, ⟨rfl, rfl⟩, ⟨tS [40], [], tS [41], rfl, ⟨rfl, rfl⟩, ⟨rfl, rfl⟩, rfl⟩, ⟨_, _, _, rfl, ⟨rfl, rfl⟩, ⟨rfl, rfl⟩, ?_⟩⟩, rfl⟩
    exact ⟨tK kOn, _, [], by simp, ⟨rfl, rfl⟩, rfl, hbody, rfl⟩
  unfold itsA itA
  by_cases h0 : w = 0
  · rw [if_pos h0]
    refine ⟨tK kFn, tN itN :: ((tS [40] :: (csT (namesA n) ++ [tS [41]])) ++ [tS [123], tS [125]]), _, ?_, ⟨rfl, rfl⟩, rfl, ⟨_, _, _, rfl, ⟨rfl, rfl⟩, ⟨_, _, _, rfl, ⟨rfl, rfl⟩, ⟨rfl, rfl⟩, cs_ok _⟩, ⟨tS [123], [], tS [125], rfl, ⟨rfl, rfl⟩, ⟨rfl, rfl⟩, by show RSs [] []; rw [RSs]⟩⟩, hrole⟩
    simp [hdA, usT, h0]
  · rw [if_neg h0]
    refine ⟨tK kAc, tN itN :: ((tS [40] :: (csT (namesA n) ++ [tS [41]])) ++ [tS [123], tS [125]]), _, ?_, ⟨rfl, rfl⟩, rfl, ⟨_, _, _, rfl, ⟨rfl, rfl⟩, ⟨_, _, _, rfl, ⟨rfl, rfl⟩, ⟨rfl, rfl⟩, cs_ok _⟩, ⟨tS [123], [], tS [125], rfl, ⟨rfl, rfl⟩, ⟨rfl, rfl⟩, rfl⟩⟩, hrole⟩
    simp [hdA, usT, h0]
theorem ints_sz : ∀ k, szEs (List.replicate k cInt) = k ∧ dpEs (List.replicate k cInt) ≤ 1
  | 0 => by simp [szEs, dpEs]
  | k + 1 => by
    have := ints_sz k
    rw [List.replicate_succ, szEs, dpEs]
    have h1 : szE cInt = 1 := rfl
    have h2 : dpE cInt = 1 := rfl
    omega
theorem useSm_sz (w : Nat) (t : Bool) (k : Nat) : szS (useSm w t k) ≤ k + 2 ∧ dpS (useSm w t k) ≤ 10 := by
  have h := ints_sz k
  unfold useSm
  split
  · simp only [szS, dpS, szEs, dpEs, szE, dpE, szSs, dpSs]; omega
  · split
    · simp only [szS, dpS, szEs, dpEs, szE, dpE, szSs, dpSs]; omega
    · simp only [szS, dpS, szSs, dpSs]; omega
theorem fault_A {w n k : Nat} (t : Bool) (hw : w < 3) (hn : n < 13) (hk : k < 13) : faultF (headA w n ++ useB w t k ++ endA) = some (wantA t n k) := by
  have ht2 : t ∈ [true, false] := by cases t <;> simp
  have h1 := of_decide_eq_true (all_at (all_at hda_f hw) hn)
  have h2 := of_decide_eq_true (all_at (List.all_eq_true.1 (all_at usa_f hw) t ht2) hk)
  have h3 := all_at (all_at (List.all_eq_true.1 (all_at cha_f hw) t ht2) hn) hk
  rw [Bool.and_eq_true, decide_eq_true_eq] at h3
  have l1 := of_decide_eq_true (all_at (List.all_eq_true.1 (all_at lna_f hw) t ht2) hk)
  have l2 := of_decide_eq_true (all_at (all_at lnb_f hw) hn)
  have l3 : endA.length = 4 := rfl
  have l4 : 31 ≤ (headA w n).length := by unfold headA; simp only [List.length_append]; have : tailA.length = 31 := rfl; omega
  have hT : (headA w n ++ useB w t k ++ endA).length ≤ 32768 := by simp only [List.length_append]; omega
  have hL : Lx (headA w n ++ useB w t k ++ endA) 1 (hdA w n ++ usT w t k ++ [⟨6, [], 0, 2⟩]) := by
    have := lexA_app 100 _ 1 _ 2 h1 _ _ (lexF_lx 100 _ _ _ h2)
    simpa [List.append_assoc] using this
  have ht : Toks (headA w n ++ useB w t k ++ endA) 0 (hdA w n ++ usT w t k ++ [⟨6, [], 0, 2⟩]) := Lx.toks (Nat.zero_le _) (by simpa using hL)
  have hsz := useSm_sz w t k
  have hna : (namesA n).length = n := by simp [namesA]
  have hN : 41 ≤ fuel (headA w n ++ useB w t k ++ endA) := by unfold fuel; simp only [List.length_append]; omega
  have hp := parse_reads hT (itsA w t n k) _ _ ht rfl (its_rs w t n k) (N := fuel (headA w n ++ useB w t k ++ endA)) (by
    intro x hx
    unfold itsA at hx
    rcases List.mem_cons.1 hx with rfl | hx
    · unfold itA
      split
      · exact ⟨by show szSs [] < _; rw [szSs]; omega, by show dpSs [] ≤ 250; rw [dpSs]; omega, by show (namesA n).length ≤ _; omega⟩
      · exact ⟨by show ([] : List Bd).length < _; rw [List.length_nil]; omega, by show (namesA n).length ≤ _; omega, fun x hx => by cases hx⟩
    · rw [List.mem_singleton.1 hx]
      refine ⟨by show ([⟨[103, 111], [], [useSm w t k], 1⟩] : List Bd).length < _; rw [List.length_singleton]; omega, by show ([] : List (List Nat)).length ≤ _; rw [List.length_nil]; omega, fun x hx => ?_⟩
      have hx' : x = ⟨[103, 111], [], [useSm w t k], 1⟩ := List.mem_singleton.1 hx
      subst hx'
      exact ⟨by show szSs [useSm w t k] < _; rw [szSs, szSs]; omega, by show dpSs [useSm w t k] ≤ 250; rw [dpSs, dpSs]; omega, by show ([] : List (List Nat)).length ≤ _; rw [List.length_nil]; omega⟩) (by unfold itsA; show 2 < _; omega)
  unfold faultF
  rw [hp, if_pos h3.1]
  dsimp only
  rw [if_pos rfl]
  unfold checkF
  rw [h3.1, if_pos rfl, h3.2]
end Go.Proofs.YtpakjjefbholdaaGreatDoor
