/- Plain laws on varints: numbers and lists alone. -/
import Derived.Lib.BitFns
namespace Go.Proofs.Ytcmopnkldplngaa

/-- The varint of n: at most f bytes ahead of the last one. -/
def vi : Nat → Nat → List Nat
  | 0, n => [n]
  | f + 1, n => if n < 128 then [n] else (n % 128 + 128) :: vi f (n / 128)
def varint (n : Nat) : List Nat := vi 9 n
/-- k bytes with more behind them, and the last one. -/
def vput : Nat → Nat → List Nat
  | 0, n => [n % 256]
  | k + 1, n => (n % 128 + 128) :: vput k (n / 128)
/-- How many bytes have more behind them. -/
def vmore (n : Nat) : Nat := (Lib.bitLen (n ||| 1) - 1) / 7

theorem or_one_div (n : Nat) : (n ||| 1) / 2 = n / 2 := by
  have := Nat.or_div_two (a := n) (b := 1)
  simpa using this
theorem bitLen_or_one (n : Nat) (h0 : n ≠ 0) (h : n < 2 ^ 64) : Lib.bitLen (n ||| 1) = Lib.bitLen n := by
  have h1 : (n ||| 1) / 2 = n / 2 := or_one_div n
  rw [Lib.bitLen_half (n ||| 1) (by intro e; have := @Nat.left_le_or n 1; omega) (by omega), Lib.bitLen_half n h0 h, h1]
theorem bitLen_le (n k : Nat) (h : n < 2 ^ k) : Lib.bitLen n ≤ k := Lib.bitLenAux_le 64 n k h
theorem vmore_small (n : Nat) (h : n < 128) : vmore n = 0 := by
  have h1 : (n ||| 1) / 2 = n / 2 := or_one_div n
  have := bitLen_le (n ||| 1) 7 (by omega)
  unfold vmore
  omega
theorem bitLen_pos (n : Nat) (h : n ≠ 0) (hn : n < 2 ^ 64) : 1 ≤ Lib.bitLen n := by
  rw [Lib.bitLen_half n h hn]
  omega
theorem vmore_step (n : Nat) (h : 128 ≤ n) (hn : n < 2 ^ 64) : vmore n = vmore (n / 128) + 1 := by
  have h1 := Lib.bitLen_shift 7 n h hn
  rw [show (2 : Nat) ^ 7 = 128 from rfl] at h1
  have h2 := bitLen_or_one n (by omega) hn
  have h3 := bitLen_or_one (n / 128) (by omega) (by omega)
  have h4 := bitLen_pos (n / 128) (by omega) (by omega)
  unfold vmore
  omega
theorem vput_vi : ∀ (f n : Nat), n < 2 ^ 64 → n < 128 ^ (f + 1) → vput (vmore n) n = vi f n
  | 0, n, _, h => by
    rw [vmore_small n (by omega)]
    show [n % 256] = [n]
    rw [Nat.mod_eq_of_lt (by omega)]
  | f + 1, n, hn, h => by
    unfold vi
    by_cases hs : n < 128
    · rw [if_pos hs, vmore_small n hs]
      show [n % 256] = [n]
      rw [Nat.mod_eq_of_lt (by omega)]
    · rw [if_neg hs, vmore_step n (by omega) hn]
      have := vput_vi f (n / 128) (by omega) (by rw [Nat.pow_succ] at h; omega)
      show (n % 128 + 128) :: vput (vmore (n / 128)) (n / 128) = _
      rw [this]
theorem vput_varint (n : Nat) (hn : n < 2 ^ 64) : vput (vmore n) n = varint n := vput_vi 9 n hn (by omega)
theorem vmore_le (n : Nat) (hn : n < 2 ^ 64) : vmore n ≤ 9 := by
  have h1 : (n ||| 1) / 2 = n / 2 := or_one_div n
  have := bitLen_le (n ||| 1) 64 (by omega)
  unfold vmore
  omega
theorem vi_bytes : ∀ (f n : Nat), n < 128 ^ (f + 1) → ∀ x ∈ vi f n, x < 256
  | 0, n, h, x, hx => by
    simp [vi] at hx
    omega
  | f + 1, n, h, x, hx => by
    unfold vi at hx
    by_cases hs : n < 128
    · rw [if_pos hs] at hx
      simp at hx
      omega
    · rw [if_neg hs] at hx
      rcases List.mem_cons.1 hx with rfl | hx
      · omega
      · exact vi_bytes f (n / 128) (by rw [Nat.pow_succ] at h; omega) x hx
theorem varint_bytes (n : Nat) (hn : n < 2 ^ 64) : ∀ x ∈ varint n, x < 256 := vi_bytes 9 n (by omega)
theorem vi_length : ∀ (f n : Nat), 1 ≤ (vi f n).length ∧ (vi f n).length ≤ f + 1
  | 0, n => by simp [vi]
  | f + 1, n => by
    unfold vi
    by_cases hs : n < 128
    · rw [if_pos hs]
      simp
    · rw [if_neg hs]
      have := vi_length f (n / 128)
      simp
      omega
theorem varint_length (n : Nat) : 1 ≤ (varint n).length ∧ (varint n).length ≤ 10 := vi_length 9 n
/-- What is got of bytes from their first one on: the number, how many bytes it has, and the error. i bytes are behind; acc is told by them. -/
def gus : Nat → Nat → List Nat → Nat × Nat × Nat
  | _, _, [] => (0, 0, 11)
  | i, acc, x :: r => if (0 < i ∧ x = 0) ∨ (i = 9 ∧ 1 < x) then (0, 0, 10) else if x < 128 then (acc + x % 128 * 128 ^ i, i + 1, 0) else gus (i + 1) (acc + x % 128 * 128 ^ i) r
/-- GetUint's answer at a place that may be. -/
def gu (l : List Nat) (at_ : Nat) : Nat × Nat × Nat := ((gus 0 0 (l.drop at_)).1, if (gus 0 0 (l.drop at_)).2.2 = 0 then at_ + (gus 0 0 (l.drop at_)).2.1 else 0, (gus 0 0 (l.drop at_)).2.2)

theorem gu_err (l : List Nat) (p e : Nat) (he : e ≠ 0) (h : gus 0 0 (l.drop p) = (0, 0, e)) : gu l p = (0, 0, e) := by
  unfold gu
  rw [h]
  simp [he]
theorem gu_ok (l : List Nat) (p n k : Nat) (h : gus 0 0 (l.drop p) = (n, k, 0)) : gu l p = (n, p + k, 0) := by
  unfold gu
  rw [h]
  simp
theorem acc_step (acc k x : Nat) (hacc : acc < 128 ^ k) : acc + x % 128 * 128 ^ k < 128 ^ (k + 1) := by
  have h1 : x % 128 ≤ 127 := by omega
  have h2 := Nat.mul_le_mul_right (128 ^ k) h1
  rw [Nat.pow_succ]
  omega
theorem gus_drop (l : List Nat) (p i acc : Nat) (h : p < l.length) : gus i acc (l.drop p) = if (0 < i ∧ l.getD p 0 = 0) ∨ (i = 9 ∧ 1 < l.getD p 0) then (0, 0, 10) else if l.getD p 0 < 128 then (acc + l.getD p 0 % 128 * 128 ^ i, i + 1, 0) else gus (i + 1) (acc + l.getD p 0 % 128 * 128 ^ i) (l.drop (p + 1)) := by
  rw [List.drop_eq_getElem_cons h]
  have e : l.getD p 0 = l[p] := by simp [h]
  rw [e]
  rfl

theorem gus_bounds : ∀ (r : List Nat) (i acc : Nat), i ≤ 9 → acc < 128 ^ i →
    (gus i acc r).1 < 18446744073709551616 ∧ ((gus i acc r).2.2 ≠ 0 → (gus i acc r).1 = 0 ∧ (gus i acc r).2.1 = 0) ∧ ((gus i acc r).2.2 = 0 → i < (gus i acc r).2.1 ∧ (gus i acc r).2.1 ≤ i + r.length)
  | [], i, acc, _, _ => by simp [gus]
  | x :: r, i, acc, hi, ha => by
    unfold gus
    by_cases hbad : (0 < i ∧ x = 0) ∨ (i = 9 ∧ 1 < x)
    · rw [if_pos hbad]
      simp
    · rw [if_neg hbad]
      by_cases hx : x < 128
      · rw [if_pos hx]
        refine ⟨?_, by simp, by simp⟩
        have hm := acc_step acc i x ha
        by_cases h9 : i = 9
        · subst h9
          have := Nat.mul_le_mul_right (128 ^ 9) (show x % 128 ≤ 1 by omega)
          show acc + x % 128 * 128 ^ 9 < _
          omega
        · have hp : (128 : Nat) ^ (i + 1) ≤ 128 ^ 9 := Nat.pow_le_pow_right (by omega) (by omega)
          show acc + x % 128 * 128 ^ i < _
          omega
      · rw [if_neg hx]
        have h9 : i ≠ 9 := by
          intro h
          apply hbad
          right
          omega
        obtain ⟨h1, h2, h3⟩ := gus_bounds r (i + 1) (acc + x % 128 * 128 ^ i) (by omega) (acc_step acc i x ha)
        refine ⟨h1, h2, fun h => ?_⟩
        have := h3 h
        simp
        omega
theorem gu_bounds (l : List Nat) (p : Nat) (hp : p ≤ l.length) : (gu l p).1 < 18446744073709551616 ∧ ((gu l p).2.2 ≠ 0 → (gu l p).1 = 0 ∧ (gu l p).2.1 = 0) ∧ ((gu l p).2.2 = 0 → p < (gu l p).2.1 ∧ (gu l p).2.1 ≤ l.length) := by
  obtain ⟨h1, h2, h3⟩ := gus_bounds (l.drop p) 0 0 (by omega) (by simp)
  unfold gu
  refine ⟨h1, fun h => ?_, fun h => ?_⟩
  · dsimp only at h ⊢
    rw [if_neg h]
    exact ⟨(h2 h).1, rfl⟩
  · dsimp only at h ⊢
    rw [if_pos h]
    have := h3 h
    rw [List.length_drop] at this
    omega

/-- What is put is got, whatever stands behind it. -/
theorem gus_vi (r : List Nat) : ∀ (f i acc m : Nat), f + i = 9 → (0 < i → 0 < m) → m * 128 ^ i < 18446744073709551616 → gus i acc (vi f m ++ r) = (acc + m * 128 ^ i, i + (vi f m).length, 0)
  | 0, i, acc, m, hf, h0, hm => by
    obtain rfl : i = 9 := by omega
    have : m ≤ 1 := by omega
    have h0' := h0 (by omega)
    show gus 9 acc (m :: r) = _
    unfold gus
    rw [if_neg (by omega), if_pos (by omega), Nat.mod_eq_of_lt (by omega)]
    rfl
  | f + 1, i, acc, m, hf, h0, hm => by
    unfold vi
    by_cases hs : m < 128
    · rw [if_pos hs]
      show gus i acc (m :: r) = _
      unfold gus
      rw [if_neg (by omega), if_pos hs, Nat.mod_eq_of_lt hs]
      rfl
    · rw [if_neg hs]
      show gus i acc ((m % 128 + 128) :: (vi f (m / 128) ++ r)) = _
      unfold gus
      rw [if_neg (by omega), if_neg (by omega)]
      have e : acc + (m % 128 + 128) % 128 * 128 ^ i + m / 128 * 128 ^ (i + 1) = acc + m * 128 ^ i := by
        have h1 : m * 128 ^ i = (m % 128) * 128 ^ i + (m / 128) * (128 ^ i * 128) := by
          have := Nat.div_add_mod m 128
          have e2 : m * 128 ^ i = (128 * (m / 128) + m % 128) * 128 ^ i := by rw [this]
          rw [e2, Nat.add_mul, Nat.add_comm, Nat.mul_assoc, Nat.mul_comm 128 (m / 128 * 128 ^ i), Nat.mul_assoc]
        rw [Nat.pow_succ, Nat.add_mod_right, Nat.mod_mod, h1]
        omega
      have hlt : m / 128 * 128 ^ (i + 1) < 18446744073709551616 := by
        have h2 : m / 128 * 128 ^ (i + 1) ≤ m * 128 ^ i := by
          rw [Nat.pow_succ, Nat.mul_comm (128 ^ i) 128, ← Nat.mul_assoc]
          exact Nat.mul_le_mul_right _ (Nat.div_mul_le_self m 128)
        omega
      rw [gus_vi r f (i + 1) _ (m / 128) (by omega) (by omega) hlt, e]
      simp
      omega
theorem gus_varint (n : Nat) (hn : n < 18446744073709551616) (r : List Nat) : gus 0 0 (varint n ++ r) = (n, (varint n).length, 0) := by
  have := gus_vi r 9 0 0 n (by omega) (by omega) (by omega)
  simpa [varint] using this
/-- A varint that is cut is none. -/
theorem gus_cut : ∀ (f i acc m k : Nat), f + i = 9 → (0 < i → 0 < m) → m * 128 ^ i < 18446744073709551616 → k < (vi f m).length → gus i acc ((vi f m).take k) = (0, 0, 11)
  | _, _, _, _, 0, _, _, _, _ => by simp [gus]
  | 0, i, acc, m, k + 1, _, _, _, hk => by simp [vi] at hk
  | f + 1, i, acc, m, k + 1, hf, h0, hm, hk => by
    unfold vi at hk ⊢
    by_cases hs : m < 128
    · rw [if_pos hs] at hk
      simp at hk
    · rw [if_neg hs] at hk ⊢
      rw [List.take_succ_cons]
      unfold gus
      rw [if_neg (by omega), if_neg (by omega)]
      have hlt : m / 128 * 128 ^ (i + 1) < 18446744073709551616 := by
        have h2 : m / 128 * 128 ^ (i + 1) ≤ m * 128 ^ i := by
          rw [Nat.pow_succ, Nat.mul_comm (128 ^ i) 128, ← Nat.mul_assoc]
          exact Nat.mul_le_mul_right _ (Nat.div_mul_le_self m 128)
        omega
      exact gus_cut f (i + 1) _ (m / 128) k (by omega) (by omega) hlt (by simpa using hk)
theorem gus_short (n k : Nat) (hn : n < 18446744073709551616) (hk : k < (varint n).length) : gus 0 0 ((varint n).take k) = (0, 0, 11) :=
  gus_cut 9 0 0 n k (by omega) (by omega) (by omega) hk
/-- What is got, put again, is the same bytes. -/
theorem gus_back : ∀ (r : List Nat) (f i acc n k : Nat), f + i = 9 → (∀ x ∈ r, x < 256) → gus i acc r = (n, k, 0) → ∃ m, i < k ∧ k ≤ i + r.length ∧ n = acc + m * 128 ^ i ∧ r.take (k - i) = vi f m ∧ (0 < i → 0 < m)
  | [], f, i, acc, n, k, _, _, h => by simp [gus] at h
  | x :: r, f, i, acc, n, k, hf, h8, h => by
    unfold gus at h
    by_cases hbad : (0 < i ∧ x = 0) ∨ (i = 9 ∧ 1 < x)
    · rw [if_pos hbad] at h
      simp at h
    · rw [if_neg hbad] at h
      by_cases hx : x < 128
      · rw [if_pos hx] at h
        simp only [Prod.mk.injEq, and_true] at h
        obtain ⟨rfl, rfl⟩ := h
        refine ⟨x, by omega, by simp, by rw [Nat.mod_eq_of_lt hx], ?_, by omega⟩
        rw [show i + 1 - i = 1 by omega]
        rcases f with _ | f
        · rfl
        · unfold vi
          rw [if_pos hx]
          rfl
      · rw [if_neg hx] at h
        have hi9 : i ≠ 9 := by
          intro h9
          apply hbad
          right
          omega
        obtain ⟨f', rfl⟩ : ∃ f', f = f' + 1 := ⟨f - 1, by omega⟩
        obtain ⟨m, h1, h2, h3, h4, h5⟩ := gus_back r f' (i + 1) _ n k (by omega) (fun y hy => h8 y (List.mem_cons_of_mem _ hy)) h
        have hx2 := h8 x (by simp)
        have hm := h5 (by omega)
        refine ⟨m * 128 + x % 128, by omega, by simp; omega, ?_, ?_, by omega⟩
        · rw [h3, Nat.pow_succ, Nat.add_mul, Nat.mul_comm (128 ^ i) 128, Nat.mul_assoc m]
          omega
        · rw [show k - i = (k - (i + 1)) + 1 by omega, List.take_succ_cons, h4]
          have e : ∀ M, ¬ M < 128 → vi (f' + 1) M = (M % 128 + 128) :: vi f' (M / 128) := fun M hM => by
            show (if M < 128 then [M] else (M % 128 + 128) :: vi f' (M / 128)) = _
            rw [if_neg hM]
          rw [e _ (by omega), show (m * 128 + x % 128) / 128 = m by omega, show (m * 128 + x % 128) % 128 + 128 = x by omega]
theorem gu_back (l : List Nat) (h8 : ∀ x ∈ l, x < 256) (n k : Nat) (h : gus 0 0 l = (n, k, 0)) : 1 ≤ k ∧ k ≤ l.length ∧ l.take k = varint n := by
  obtain ⟨m, h1, h2, h3, h4, _⟩ := gus_back l 9 0 0 n k (by omega) h8 h
  have : n = m := by omega
  subst this
  exact ⟨h1, by omega, by simpa [varint] using h4⟩

theorem vi_len : ∀ (f g n : Nat), n < 128 ^ (f + 1) → n < 128 ^ (g + 1) → (vi f n).length = (vi g n).length
  | 0, g, n, h, _ => by
    rcases g with _ | g
    · rfl
    · unfold vi
      rw [if_pos (by omega)]
  | f + 1, 0, n, _, h => by
    unfold vi
    rw [if_pos (by omega)]
  | f + 1, g + 1, n, h, h' => by
    unfold vi
    by_cases hs : n < 128
    · rw [if_pos hs, if_pos hs]
    · rw [if_neg hs, if_neg hs]
      have := vi_len f g (n / 128) (by rw [Nat.pow_succ] at h; omega) (by rw [Nat.pow_succ] at h'; omega)
      simp [this]
theorem varint_small (n : Nat) (h : n < 128) : varint n = [n] := by
  show (if n < 128 then [n] else _) = _
  rw [if_pos h]
theorem varint_len_step (n : Nat) (h : 128 ≤ n) (hn : n < 18446744073709551616) : (varint n).length = 1 + (varint (n / 128)).length := by
  have e : varint n = (n % 128 + 128) :: vi 8 (n / 128) := by
    show (if n < 128 then [n] else _) = _
    rw [if_neg (by omega)]
  rw [e, List.length_cons, vi_len 8 9 (n / 128) (by omega) (by omega)]
  unfold varint
  omega
theorem vi_mono : ∀ (f a b : Nat), a ≤ b → b < 128 ^ (f + 1) → (vi f a).length ≤ (vi f b).length
  | 0, a, b, _, _ => by simp [vi]
  | f + 1, a, b, h, hb => by
    unfold vi
    by_cases ha : a < 128
    · rw [if_pos ha]
      split <;> simp
    · rw [if_neg ha, if_neg (by omega)]
      have := vi_mono f (a / 128) (b / 128) (Nat.div_le_div_right h) (by rw [Nat.pow_succ] at hb; omega)
      simpa using this
theorem varint_mono (a b : Nat) (h : a ≤ b) (hb : b < 18446744073709551616) : (varint a).length ≤ (varint b).length := vi_mono 9 a b h (by omega)
theorem varint_even (j : Nat) (h : 2 * j + 1 < 18446744073709551616) : (varint (2 * j)).length = (varint (2 * j + 1)).length := by
  by_cases hs : 2 * j < 128
  · rw [varint_small _ hs, varint_small _ (by omega)]
    rfl
  · rw [varint_len_step (2 * j) (by omega) (by omega), varint_len_step (2 * j + 1) (by omega) (by omega), show (2 * j + 1) / 128 = 2 * j / 128 by omega]
theorem varint_inj (a b : Nat) (ha : a < 18446744073709551616) (hb : b < 18446744073709551616) (h : varint a = varint b) : a = b := by
  have h1 := gus_varint a ha []
  have h2 := gus_varint b hb []
  rw [h, h2] at h1
  simp at h1
  exact h1.symm
end Go.Proofs.Ytcmopnkldplngaa
