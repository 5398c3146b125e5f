/- Values as trees: their text. Plain mathematics. -/
import Derived.Test.YtfobmlicmbelnaaDoorVb
import Derived.Lib.ItoaNum
import Derived.Lib.ItoaLen
namespace Go.Proofs.YtfobmlicmbelnaaDoor

/-- A number's digits. -/
def itoaN (n : Int) : List Nat := (Lib.itoa n).map UInt8.toNat
def hx (d : Nat) : Nat := if d < 10 then 48 + d else 87 + d
def qb (x : Nat) : List Nat := if 32 ≤ x ∧ x ≤ 126 ∧ x ≠ 34 ∧ x ≠ 92 then [x] else [92, hx (x / 16), hx (x % 16)]
/-- Bytes in quotes. -/
def quo (s : List Nat) : List Nat := 34 :: (s.flatMap qb ++ [34])
def shR : List (List Nat) → List Nat
  | [] => [41]
  | y :: r => 44 :: 32 :: (y ++ shR r)
def shT : List (List Nat) → List Nat
  | [] => [41]
  | [x] => x ++ [44, 41]
  | x :: r => x ++ shR r
/-- A value's text. -/
def shw : Nat → Va → List Nat
  | 0, _ => []
  | L + 1, .mk k n s l => if k = 1 then itoaN n else if k = 2 then (if n = 1 then [116, 114, 117, 101] else [102, 97, 108, 115, 101]) else if k = 3 then quo s else if k = 4 then 40 :: shT (l.map (shw L)) else if k = 5 then 64 :: itoaN n else []
/-- The parts, parted. -/
def jn : List (List Nat) → List Nat
  | [] => []
  | x :: r => x ++ r.flatMap fun y => 44 :: 32 :: y
theorem jn_snoc (l : List (List Nat)) (y : List Nat) : jn (l ++ [y]) = jn l ++ ((if 0 < l.length then [44, 32] else []) ++ y) := by
  cases l with
  | nil => simp [jn]
  | cons x r => simp [jn]
theorem shR_jn : ∀ r : List (List Nat), shR r = (r.flatMap fun y => 44 :: 32 :: y) ++ [41]
  | [] => rfl
  | y :: r => by rw [shR, shR_jn r]; simp
theorem shT_jn (l : List (List Nat)) : shT l = jn l ++ ((if l.length = 1 then [44] else []) ++ [41]) := by
  match l with
  | [] => rfl
  | [x] => simp [shT, jn]
  | x :: y :: r => simp [shT, jn, shR_jn]

/-! Numerals. -/
def dval (l : List Nat) : Nat := l.foldl (fun a c => a * 10 + (c - 48)) 0
theorem dval_snoc (l : List Nat) (c : Nat) : dval (l ++ [c]) = dval l * 10 + (c - 48) := by simp [dval]
theorem digit_nat (d : Nat) (h : d < 10) : (UInt8.ofNat (48 + d)).toNat = 48 + d := by
  rw [UInt8.toNat_ofNat']
  omega
theorem dec_digits (u : Nat) : dval ((Lib.decDigits u).map UInt8.toNat) = u ∧ (∀ c ∈ (Lib.decDigits u).map UInt8.toNat, 48 ≤ c ∧ c ≤ 57) ∧ (Lib.decDigits u).map UInt8.toNat ≠ [] := by
  induction u using Nat.strongRecOn with
  | _ u ih =>
    by_cases h : u < 10
    · rw [Lib.decDigits, dif_pos h, List.map_singleton, digit_nat u h]
      refine ⟨by simp [dval], by simp; omega, by simp⟩
    · rw [Lib.decDigits, dif_neg h, List.map_append, List.map_singleton, digit_nat (u % 10) (by omega)]
      obtain ⟨h1, h2, h3⟩ := ih (u / 10) (by omega)
      refine ⟨by rw [dval_snoc, h1]; omega, ?_, by simp⟩
      intro c hc
      rcases List.mem_append.1 hc with hc | hc
      · exact h2 c hc
      · simp at hc
        omega
theorem split_at {D : Nat → Prop} : ∀ (a b p q : List Nat), (∀ c ∈ a, D c) → (∀ c ∈ b, D c) → (∀ c, p.head? = some c → ¬ D c) → (∀ c, q.head? = some c → ¬ D c) → a ++ p = b ++ q → a = b ∧ p = q
  | [], [], p, q, _, _, _, _, h => ⟨rfl, h⟩
  | [], y :: b, p, q, _, hb, hp, _, h => by
    have h' : p = y :: (b ++ q) := h
    exact absurd (hb y (by simp)) (hp y (by rw [h']; rfl))
  | x :: a, [], p, q, ha, _, _, hq, h => by
    have h' : q = x :: (a ++ p) := h.symm
    exact absurd (ha x (by simp)) (hq x (by rw [h']; rfl))
  | x :: a, y :: b, p, q, ha, hb, hp, hq, h => by
    have h' : x :: (a ++ p) = y :: (b ++ q) := h
    injection h' with h1 h2
    obtain ⟨h3, h4⟩ := split_at a b p q (fun c hc => ha c (by simp [hc])) (fun c hc => hb c (by simp [hc])) hp hq h2
    exact ⟨by rw [h1, h3], h4⟩
/-- What ends a value's text. -/
def Dl (p : List Nat) : Prop := ∀ c, p.head? = some c → c = 44 ∨ c = 41
theorem itoaN_parts (n : Int) : itoaN n = if n < 0 then 45 :: (Lib.decDigits n.natAbs).map UInt8.toNat else (Lib.decDigits n.toNat).map UInt8.toNat := by
  unfold itoaN Lib.itoa
  split <;> rfl
theorem itoaN_head (n : Int) : ∃ c r, itoaN n = c :: r ∧ (c = 45 ∨ (48 ≤ c ∧ c ≤ 57)) := by
  rw [itoaN_parts]
  split
  · exact ⟨45, _, rfl, .inl rfl⟩
  · obtain ⟨_, h2, h3⟩ := dec_digits n.toNat
    cases h : (Lib.decDigits n.toNat).map UInt8.toNat with
    | nil => exact absurd h h3
    | cons c r => exact ⟨c, r, rfl, .inr (h2 c (by rw [h]; simp))⟩
theorem itoaN_inj (n m : Int) (p q : List Nat) (hp : Dl p) (hq : Dl q) (h : itoaN n ++ p = itoaN m ++ q) : n = m ∧ p = q := by
  have np : ∀ c, p.head? = some c → ¬ (48 ≤ c ∧ c ≤ 57) := fun c hc => by have := hp c hc; omega
  have nq : ∀ c, q.head? = some c → ¬ (48 ≤ c ∧ c ≤ 57) := fun c hc => by have := hq c hc; omega
  rw [itoaN_parts, itoaN_parts] at h
  by_cases h1 : n < 0
  · by_cases h2 : m < 0
    · rw [if_pos h1, if_pos h2, List.cons_append, List.cons_append] at h
      injection h with _ h
      obtain ⟨a1, a2, _⟩ := dec_digits n.natAbs
      obtain ⟨b1, b2, _⟩ := dec_digits m.natAbs
      obtain ⟨h3, h4⟩ := split_at (D := fun c => 48 ≤ c ∧ c ≤ 57) _ _ p q a2 b2 np nq h
      rw [h3, b1] at a1
      exact ⟨by omega, h4⟩
    · rw [if_pos h1, if_neg h2] at h
      obtain ⟨b1, b2, b3⟩ := dec_digits m.toNat
      cases hm : (Lib.decDigits m.toNat).map UInt8.toNat with
      | nil => exact absurd hm b3
      | cons c r =>
        rw [hm, List.cons_append, List.cons_append] at h
        injection h with h _
        have := b2 c (by rw [hm]; simp)
        omega
  · by_cases h2 : m < 0
    · rw [if_neg h1, if_pos h2] at h
      obtain ⟨b1, b2, b3⟩ := dec_digits n.toNat
      cases hm : (Lib.decDigits n.toNat).map UInt8.toNat with
      | nil => exact absurd hm b3
      | cons c r =>
        rw [hm, List.cons_append, List.cons_append] at h
        injection h with h _
        have := b2 c (by rw [hm]; simp)
        omega
    · rw [if_neg h1, if_neg h2] at h
      obtain ⟨a1, a2, _⟩ := dec_digits n.toNat
      obtain ⟨b1, b2, _⟩ := dec_digits m.toNat
      obtain ⟨h3, h4⟩ := split_at (D := fun c => 48 ≤ c ∧ c ≤ 57) _ _ p q a2 b2 np nq h
      rw [h3, b1] at a1
      exact ⟨by omega, h4⟩

/-! Quotes. -/
theorem hx_inj (a b : Nat) (ha : a < 16) (hb : b < 16) (h : hx a = hx b) : a = b := by
  unfold hx at h
  split at h <;> split at h <;> omega
theorem quo_inj : ∀ (s t p q : List Nat), (∀ x ∈ s, x < 256) → (∀ x ∈ t, x < 256) → s.flatMap qb ++ 34 :: p = t.flatMap qb ++ 34 :: q → s = t ∧ p = q
  | [], [], p, q, _, _, h => by
    simp at h
    exact ⟨rfl, h⟩
  | [], y :: t, p, q, _, _, h => by
    rw [List.flatMap_cons] at h
    unfold qb at h
    split at h
    · simp at h
      omega
    · simp at h
  | x :: s, [], p, q, _, _, h => by
    rw [List.flatMap_cons] at h
    unfold qb at h
    split at h
    · simp at h
      omega
    · simp at h
  | x :: s, y :: t, p, q, hs, ht, h => by
    have hx8 := hs x (by simp)
    have hy8 := ht y (by simp)
    rw [List.flatMap_cons, List.flatMap_cons, List.append_assoc, List.append_assoc] at h
    have key : x = y ∧ s.flatMap qb ++ 34 :: p = t.flatMap qb ++ 34 :: q := by
      generalize s.flatMap qb ++ 34 :: p = X at h ⊢
      generalize t.flatMap qb ++ 34 :: q = Y at h ⊢
      unfold qb at h
      split at h
      · split at h
        · simp at h
          exact h
        · simp at h
          omega
      · split at h
        · simp at h
          omega
        · simp at h
          have h1 := hx_inj _ _ (by omega) (by omega) h.1
          have h2 := hx_inj _ _ (by omega) (by omega) h.2.1
          exact ⟨by omega, h.2.2⟩
    obtain ⟨h1, h2⟩ := quo_inj s t p q (fun x hx => hs x (by simp [hx])) (fun x hx => ht x (by simp [hx])) key.2
    exact ⟨by rw [key.1, h1], h2⟩

/-! Text. -/
theorem shw_head (L : Nat) (k : Nat) (n : Int) (s : List Nat) (l : List Va) (h : Rt (L + 1) (.mk k n s l)) : ∃ c r, shw (L + 1) (.mk k n s l) = c :: r ∧
    ((k = 1 ∧ (c = 45 ∨ (48 ≤ c ∧ c ≤ 57))) ∨ (k = 2 ∧ (c = 116 ∨ c = 102)) ∨ (k = 3 ∧ c = 34) ∨ (k = 4 ∧ c = 40) ∨ (k = 5 ∧ c = 64)) := by
  have hk : k = 1 ∨ k = 2 ∨ k = 3 ∨ k = 4 ∨ k = 5 := by
    rcases h with ⟨_, h2⟩ | ⟨h1, _⟩
    · obtain ⟨_, h3⟩ := lf_cases h2
      omega
    · omega
  rcases hk with rfl | rfl | rfl | rfl | rfl
  · obtain ⟨c, r, h1, h2⟩ := itoaN_head n
    exact ⟨c, r, by simp [shw, h1], .inl ⟨rfl, h2⟩⟩
  · by_cases h1 : n = 1
    · exact ⟨116, _, by simp [shw, h1]; rfl, .inr (.inl ⟨rfl, .inl rfl⟩)⟩
    · exact ⟨102, _, by simp [shw, h1]; rfl, .inr (.inl ⟨rfl, .inr rfl⟩)⟩
  · exact ⟨34, _, by simp [shw, quo]; rfl, .inr (.inr (.inl ⟨rfl, rfl⟩))⟩
  · exact ⟨40, _, by simp [shw]; rfl, .inr (.inr (.inr (.inl ⟨rfl, rfl⟩)))⟩
  · exact ⟨64, _, by simp [shw]; rfl, .inr (.inr (.inr (.inr ⟨rfl, rfl⟩)))⟩
theorem shR_dl (l : List (List Nat)) (p : List Nat) : Dl (shR l ++ p) := by
  intro c hc
  cases l with
  | nil => simp [shR] at hc; omega
  | cons y r => simp [shR] at hc; omega
theorem shR_inj {f : Va → List Nat} : ∀ (a b : List Va), (∀ x ∈ a, ∀ y ∈ b, ∀ p q, Dl p → Dl q → f x ++ p = f y ++ q → x = y ∧ p = q) → ∀ (p q : List Nat), shR (a.map f) ++ p = shR (b.map f) ++ q → a = b ∧ p = q
  | [], [], _, p, q, h => by
    simp [shR] at h
    exact ⟨rfl, h⟩
  | [], y :: b, _, p, q, h => by simp [shR] at h
  | x :: a, [], _, p, q, h => by simp [shR] at h
  | x :: a, y :: b, hf, p, q, h => by
    simp only [List.map_cons, shR, List.cons_append, List.append_assoc, List.cons.injEq, true_and] at h
    obtain ⟨h1, h2⟩ := hf x (by simp) y (by simp) _ _ (shR_dl _ _) (shR_dl _ _) h
    obtain ⟨h3, h4⟩ := shR_inj a b (fun x hx y hy => hf x (by simp [hx]) y (by simp [hy])) p q h2
    exact ⟨by rw [h1, h3], h4⟩
theorem shT_inj {f : Va → List Nat} (a b : List Va) (hh : ∀ x ∈ a ++ b, ∃ c r, f x = c :: r ∧ c ≠ 41) (hf : ∀ x ∈ a, ∀ y ∈ b, ∀ p q, Dl p → Dl q → f x ++ p = f y ++ q → x = y ∧ p = q) (p q : List Nat) (h : shT (a.map f) ++ p = shT (b.map f) ++ q) : a = b ∧ p = q := by
  have dl1 : ∀ (c : Nat) (p : List Nat), (c = 44 ∨ c = 41) → Dl (c :: p) := by
    intro c p hc d hd
    simp at hd
    omega
  match a, b with
  | [], [] =>
    simp [shT] at h
    exact ⟨rfl, h⟩
  | [], y :: b =>
    obtain ⟨c, r, h1, h2⟩ := hh y (by simp)
    cases b <;> simp [shT, h1] at h <;> omega
  | x :: a, [] =>
    obtain ⟨c, r, h1, h2⟩ := hh x (by simp)
    cases a <;> simp [shT, h1] at h <;> omega
  | [x], [y] =>
    simp only [List.map_cons, List.map_nil, shT, List.append_assoc, List.cons_append, List.nil_append] at h
    obtain ⟨h1, h2⟩ := hf x (by simp) y (by simp) _ _ (dl1 _ _ (.inl rfl)) (dl1 _ _ (.inl rfl)) h
    simp at h2
    exact ⟨by rw [h1], h2⟩
  | [x], y :: z :: b =>
    simp only [List.map_cons, List.map_nil, shT, shR, List.append_assoc, List.cons_append, List.nil_append] at h
    obtain ⟨h1, h2⟩ := hf x (by simp) y (by simp) _ _ (dl1 _ _ (.inl rfl)) (dl1 _ _ (.inl rfl)) h
    simp at h2
  | x :: z :: a, [y] =>
    simp only [List.map_cons, List.map_nil, shT, shR, List.append_assoc, List.cons_append, List.nil_append] at h
    obtain ⟨h1, h2⟩ := hf x (by simp) y (by simp) _ _ (dl1 _ _ (.inl rfl)) (dl1 _ _ (.inl rfl)) h
    simp at h2
  | x :: z :: a, y :: u :: b =>
    have e : ∀ (x z : Va) (a : List Va), shT ((x :: z :: a).map f) = f x ++ shR ((z :: a).map f) := fun _ _ _ => rfl
    rw [e, e, List.append_assoc, List.append_assoc] at h
    obtain ⟨h1, h2⟩ := hf x (by simp) y (by simp) _ _ (shR_dl _ _) (shR_dl _ _) h
    obtain ⟨h3, h4⟩ := shR_inj (z :: a) (u :: b) (fun x hx y hy => hf x (by simp [hx]) y (by simp [hy])) p q h2
    exact ⟨by rw [h1, h3], h4⟩
/-- Two right values that are shown alike are the same. -/
theorem shw_inj : ∀ (L : Nat) (a b : Va), Rt L a → Rt L b → Ok L a → Ok L b → ∀ (p q : List Nat), Dl p → Dl q → shw L a ++ p = shw L b ++ q → a = b ∧ p = q
  | 0, _, _, h, _, _, _, _, _, _, _, _ => h.elim
  | L + 1, .mk k n s l, .mk k' n' s' l', ha, hb, oa, ob, p, q, hp, hq, h => by
    have hkk : k = k' := by
      obtain ⟨c, r, h1, h2⟩ := shw_head L k n s l ha
      obtain ⟨c', r', h1', h2'⟩ := shw_head L k' n' s' l' hb
      rw [h1, h1', List.cons_append, List.cons_append] at h
      injection h with h3 _
      omega
    subst hkk
    rcases ha with ⟨h1, h2⟩ | ⟨rfl, rfl, rfl, h4⟩
    · rcases hb with ⟨g1, g2⟩ | ⟨g1, _⟩
      · obtain ⟨rfl, hc⟩ := lf_cases h2
        obtain ⟨rfl, hd⟩ := lf_cases g2
        rcases hc with ⟨rfl, rfl⟩ | ⟨rfl, rfl, hn⟩ | ⟨rfl, rfl, _⟩ | ⟨rfl, rfl, _⟩
        · have hs : s' = [] := by rcases hd with h | h | h | h <;> first | exact h.2 | omega
          simp only [shw, if_pos] at h
          obtain ⟨h3, h4⟩ := itoaN_inj n n' p q hp hq (by simpa using h)
          exact ⟨by rw [h3, hs], h4⟩
        · have hs : s' = [] ∧ (n' = 0 ∨ n' = 1) := by rcases hd with h | h | h | h <;> first | exact h.2 | omega
          obtain ⟨rfl, hn'⟩ := hs
          simp only [shw] at h
          rcases hn with rfl | rfl <;> rcases hn' with rfl | rfl <;> simp at h <;> exact ⟨rfl, h⟩
        · have hs : n' = 0 := by rcases hd with h | h | h | h <;> first | exact h.2.1 | omega
          subst hs
          simp only [shw, quo] at h
          obtain ⟨h3, h4⟩ := quo_inj s s' p q oa.2.2.2.1 ob.2.2.2.1 (by simpa using h)
          exact ⟨by rw [h3], h4⟩
        · have hs : s' = [] := by rcases hd with h | h | h | h <;> first | omega | exact h.2.1
          simp only [shw] at h
          obtain ⟨h3, h4⟩ := itoaN_inj n n' p q hp hq (by simpa using h)
          exact ⟨by rw [h3, hs], h4⟩
      · exact absurd g1 h1
    · rcases hb with ⟨g1, _⟩ | ⟨_, rfl, rfl, g4⟩
      · exact absurd rfl g1
      · simp only [shw] at h
        have h' : shT (l.map (shw L)) ++ p = shT (l'.map (shw L)) ++ q := by simpa using h
        have hh : ∀ x ∈ l ++ l', ∃ c r, shw L x = c :: r ∧ c ≠ 41 := by
          intro x hx
          have hr : Rt L x := by
            rcases List.mem_append.1 hx with hx | hx
            · exact h4 x hx
            · exact g4 x hx
          cases L with
          | zero => exact hr.elim
          | succ L =>
            obtain ⟨k, n, s, l⟩ := x
            obtain ⟨c, r, h1, h2⟩ := shw_head L k n s l hr
            exact ⟨c, r, h1, by omega⟩
        obtain ⟨h5, h6⟩ := shT_inj l l' hh (fun x hx y hy p q hp hq => shw_inj L x y (h4 x hx) (g4 y hy) (oa.2.2.2.2 x hx) (ob.2.2.2.2 y hy) p q hp hq) p q h'
        exact ⟨by rw [h5], h6⟩
theorem map_same {f g : Va → List Nat} : ∀ l : List Va, (∀ t ∈ l, f t = g t) → l.map f = l.map g
  | [], _ => rfl
  | v :: l, h => by rw [List.map_cons, List.map_cons, h v (by simp), map_same l (fun t ht => h t (by simp [ht]))]
theorem shw_more : ∀ (L : Nat) (v : Va), Rt L v → shw (L + 1) v = shw L v
  | 0, _, h => h.elim
  | L + 1, .mk k n s l, h => by
    rcases h with ⟨h1, h2⟩ | ⟨rfl, rfl, rfl, h4⟩
    · simp [shw, h1]
    · simp only [shw]
      rw [map_same l (fun t ht => shw_more L t (h4 t ht))]
theorem itoaN_bytes (n : Int) : ∀ c ∈ itoaN n, c < 256 := by
  intro c hc
  obtain ⟨d, _, rfl⟩ := List.mem_map.1 hc
  exact d.toNat_lt
theorem itoaN_len (n : Int) (h0 : -9223372036854775808 ≤ n) (h1 : n ≤ 9223372036854775807) : (itoaN n).length ≤ 21 := by
  unfold itoaN
  rw [List.length_map]
  exact Lib.itoa_length_le n h0 h1
theorem hx_lt (d : Nat) (h : d < 16) : hx d < 256 := by unfold hx; split <;> omega
theorem qb_bytes (x : Nat) (h : x < 256) : ∀ c ∈ qb x, c < 256 := by
  intro c hc
  unfold qb at hc
  split at hc
  · simp at hc; omega
  · have := hx_lt (x / 16) (by omega)
    have := hx_lt (x % 16) (by omega)
    simp at hc
    omega
theorem qb_len (x : Nat) : (qb x).length ≤ 3 := by unfold qb; split <;> simp
theorem quo_bytes (s : List Nat) (h : ∀ x ∈ s, x < 256) : ∀ c ∈ quo s, c < 256 := by
  intro c hc
  simp [quo] at hc
  rcases hc with rfl | ⟨x, hx, hc⟩ | rfl
  · omega
  · exact qb_bytes x (h x hx) c hc
  · omega
theorem flat_len (s : List Nat) : (s.flatMap qb).length ≤ 3 * s.length := by
  induction s with
  | nil => simp
  | cons x s ih =>
    have := qb_len x
    rw [List.flatMap_cons, List.length_append, List.length_cons]
    omega
theorem quo_len (s : List Nat) : (quo s).length ≤ 3 * s.length + 2 := by
  have := flat_len s
  rw [quo, List.length_cons, List.length_append, List.length_cons, List.length_nil]
  omega
end Go.Proofs.YtfobmlicmbelnaaDoor
