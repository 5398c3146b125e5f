/- Plain laws on the sum: it is linear, and a change of up to four bytes next to each other changes it. -/
import Derived.Test.YtcmopnkldplngaaCrc
import Derived.Test.YtcmopnkldplngaaSeal
namespace Go.Proofs.Ytcmopnkldplngaa

theorem xor_parity (a b : Nat) : (a ^^^ b) % 2 = (a % 2 + b % 2) % 2 := by
  have h := Nat.xor_mod_two_pow (a := a) (b := b) (n := 1)
  rw [Nat.pow_one] at h
  rw [h]
  rcases Nat.mod_two_eq_zero_or_one a with ha | ha <;> rcases Nat.mod_two_eq_zero_or_one b with hb | hb <;> rw [ha, hb] <;> rfl
theorem crc1_xor (a b : Nat) : crc1 (a ^^^ b) = crc1 a ^^^ crc1 b := by
  unfold crc1
  have hp := xor_parity a b
  rw [Nat.xor_div_two]
  generalize a / 2 = x
  generalize b / 2 = y
  generalize 3988292384 = p
  rcases Nat.mod_two_eq_zero_or_one a with ha | ha <;> rcases Nat.mod_two_eq_zero_or_one b with hb | hb <;> rw [ha, hb] at hp
  · rw [if_neg (by omega), if_neg (by omega), if_neg (by omega)]
    simp
  · rw [if_pos (by omega), if_neg (by omega), if_pos (by omega), Nat.xor_zero, Nat.xor_assoc]
  · rw [if_pos (by omega), if_pos (by omega), if_neg (by omega), Nat.xor_zero, Nat.xor_assoc, Nat.xor_assoc, Nat.xor_comm y p]
  · rw [if_neg (by omega), if_pos (by omega), if_pos (by omega), Nat.xor_zero]
    rw [show x ^^^ p ^^^ (y ^^^ p) = x ^^^ y ^^^ (p ^^^ p) by ac_rfl, Nat.xor_self, Nat.xor_zero]
theorem crcK_xor (k a b : Nat) : crcK k (a ^^^ b) = crcK k a ^^^ crcK k b := by
  induction k with
  | zero => rfl
  | succ k ih =>
    show crc1 (crcK k (a ^^^ b)) = crc1 (crcK k a) ^^^ crc1 (crcK k b)
    rw [ih, crc1_xor]
theorem crcK_add (j k c : Nat) : crcK (j + k) c = crcK j (crcK k c) := by
  induction j with
  | zero => rw [Nat.zero_add]; rfl
  | succ j ih =>
    rw [show j + 1 + k = (j + k) + 1 by omega]
    show crc1 (crcK (j + k) c) = crc1 (crcK j (crcK k c))
    rw [ih]
theorem crcB_xor (c d x y : Nat) : crcB (c ^^^ d) (x ^^^ y) = crcB c x ^^^ crcB d y := by
  unfold crcB
  rw [show c ^^^ d ^^^ (x ^^^ y) = (c ^^^ x) ^^^ (d ^^^ y) by ac_rfl, crcK_xor]
/-- Two lists of one length, held against each other bit by bit. -/
def lxor : List Nat → List Nat → List Nat
  | x :: a, y :: b => (x ^^^ y) :: lxor a b
  | _, _ => []
theorem crcS_xor : ∀ (a b : List Nat) (c d : Nat), a.length = b.length → crcS (c ^^^ d) (lxor a b) = crcS c a ^^^ crcS d b
  | [], [], c, d, _ => rfl
  | [], _ :: _, _, _, h => by simp at h
  | _ :: _, [], _, _, h => by simp at h
  | x :: a, y :: b, c, d, h => by
    show crcS (crcB (c ^^^ d) (x ^^^ y)) (lxor a b) = crcS (crcB c x) a ^^^ crcS (crcB d y) b
    rw [crcB_xor]
    exact crcS_xor a b _ _ (by simpa using h)
theorem lxor_length : ∀ (a b : List Nat), a.length = b.length → (lxor a b).length = a.length
  | [], [], _ => rfl
  | [], _ :: _, h => by simp at h
  | _ :: _, [], h => by simp at h
  | x :: a, y :: b, h => by
    show (lxor a b).length + 1 = a.length + 1
    rw [lxor_length a b (by simpa using h)]
theorem not32' (s : Nat) (hs : s < 4294967296) : 4294967295 - s = 4294967295 ^^^ s := by
  have h1 : (BitVec.ofNat 32 4294967295 ^^^ BitVec.ofNat 32 s) = ~~~ (BitVec.ofNat 32 s) := by
    have : BitVec.ofNat 32 4294967295 = BitVec.allOnes 32 := by decide
    rw [this, BitVec.allOnes_xor]
  have h2 := congrArg BitVec.toNat h1
  simp only [BitVec.toNat_xor, BitVec.toNat_not, BitVec.toNat_ofNat] at h2
  rw [Nat.mod_eq_of_lt (by omega), Nat.mod_eq_of_lt (by omega)] at h2
  omega
theorem crcN_eq (l : List Nat) (h8 : ∀ x ∈ l, x < 256) : crcN l = 4294967295 ^^^ crcS 4294967295 l := by
  unfold crcN
  exact not32' _ (crcS_lt l h8 _ (by omega))
theorem lxor_bytes : ∀ (a b : List Nat), (∀ x ∈ a, x < 256) → (∀ x ∈ b, x < 256) → ∀ x ∈ lxor a b, x < 256
  | [], [], _, _, x, hx => by simp [lxor] at hx
  | [], _ :: _, _, _, x, hx => by simp [lxor] at hx
  | _ :: _, [], _, _, x, hx => by simp [lxor] at hx
  | y :: a, z :: b, ha, hb, x, hx => by
    rcases List.mem_cons.1 (show x ∈ (y ^^^ z) :: lxor a b from hx) with h | h
    · rw [h]
      exact Nat.xor_lt_two_pow (n := 8) (ha y (by simp)) (hb z (by simp))
    · exact lxor_bytes a b (fun u hu => ha u (List.mem_cons_of_mem _ hu)) (fun u hu => hb u (List.mem_cons_of_mem _ hu)) x h
/-- Three lists of one length, held against each other: so are their sums. -/
theorem crcN_three (a b c : List Nat) (ha : ∀ x ∈ a, x < 256) (hb : ∀ x ∈ b, x < 256) (hc : ∀ x ∈ c, x < 256) (h1 : a.length = b.length) (h2 : a.length = c.length) :
    crcN (lxor (lxor a b) c) = crcN a ^^^ crcN b ^^^ crcN c := by
  rw [crcN_eq _ (lxor_bytes _ _ (lxor_bytes _ _ ha hb) hc), crcN_eq a ha, crcN_eq b hb, crcN_eq c hc]
  have e1 := crcS_xor (lxor a b) c (4294967295 ^^^ 4294967295) 4294967295 (by rw [lxor_length a b h1]; exact h2)
  rw [crcS_xor a b _ _ h1, Nat.xor_self, Nat.zero_xor] at e1
  rw [e1]
  generalize crcS 4294967295 a = x
  generalize crcS 4294967295 b = y
  generalize crcS 4294967295 c = z
  generalize 4294967295 = f
  rw [show f ^^^ x ^^^ (f ^^^ y) ^^^ (f ^^^ z) = (f ^^^ f) ^^^ (f ^^^ (x ^^^ y ^^^ z)) by ac_rfl, Nat.xor_self, Nat.zero_xor]

theorem crc1_double (y : Nat) : crc1 (2 * y) = y := by
  unfold crc1
  rw [if_neg (by omega), Nat.xor_zero]
  omega
theorem crcK_shift (j x : Nat) : crcK j (x * 2 ^ j) = x := by
  induction j generalizing x with
  | zero => simp [crcK]
  | succ j ih =>
    show crc1 (crcK j (x * 2 ^ (j + 1))) = x
    rw [show x * 2 ^ (j + 1) = 2 * x * 2 ^ j by rw [Nat.pow_succ, Nat.mul_comm (2 ^ j) 2, ← Nat.mul_assoc, Nat.mul_comm x 2], ih, crc1_double]
theorem xor_eq_zero (a b : Nat) (h : a ^^^ b = 0) : a = b := by
  have h2 : a ^^^ b ^^^ b = 0 ^^^ b := by rw [h]
  rw [Nat.xor_assoc, Nat.xor_self, Nat.xor_zero, Nat.zero_xor] at h2
  exact h2
theorem crc1_zero (c : Nat) (hc : c < 4294967296) (h : crc1 c = 0) : c = 0 := by
  unfold crc1 at h
  have := xor_eq_zero _ _ h
  split at this <;> omega
theorem crcK_zero (k c : Nat) (hc : c < 4294967296) (h : crcK k c = 0) : c = 0 := by
  induction k with
  | zero => exact h
  | succ k ih => exact ih (crc1_zero _ (crcK_lt k hc) h)
theorem crcB_zero (c : Nat) : crcB c 0 = crcK 8 c := by
  unfold crcB
  rw [Nat.xor_zero]
theorem crcS_zeros (c : Nat) : ∀ (n : Nat), crcS c (List.replicate n 0) = crcK (8 * n) c
  | 0 => rfl
  | n + 1 => by
    have e : List.replicate (n + 1) 0 = List.replicate n 0 ++ [0] := List.replicate_succ'
    rw [e]
    unfold crcS
    rw [List.foldl_append]
    show crcB (crcS c (List.replicate n 0)) 0 = _
    rw [crcS_zeros c n, crcB_zero, ← crcK_add]
    congr 1
    omega
theorem crcS_append (c : Nat) (a b : List Nat) : crcS c (a ++ b) = crcS (crcS c a) b := by
  unfold crcS
  rw [List.foldl_append]
theorem crcK_zero_at (k : Nat) : crcK k 0 = 0 := by
  have := crcK_shift k 0
  simpa using this
theorem crcS_burst : ∀ (t : List Nat) (k N : Nat), k + t.length ≤ 4 → N < 256 ^ k → (∀ x ∈ t, x < 256) →
    ∃ M, crcS (crcK (8 * k) N) t = crcK (8 * (k + t.length)) M ∧ M < 256 ^ (k + t.length) ∧ ((N ≠ 0 ∨ ∃ x ∈ t, x ≠ 0) → M ≠ 0)
  | [], k, N, _, hN, _ => ⟨N, rfl, hN, fun h => h.elim id (fun ⟨x, hx, _⟩ => by simp at hx)⟩
  | x :: t, k, N, hk, hN, h8 => by
    have hx := h8 x (by simp)
    have hp : (256 : Nat) ^ k = 2 ^ (8 * k) := by rw [Nat.pow_mul]
    have hj := nat_join (8 * k) (x * 2 ^ (8 * k)) N (Nat.mul_mod_left _ _) (by rw [← hp]; exact hN)
    have hxor : N ^^^ x * 2 ^ (8 * k) = N + x * 256 ^ k := by
      have h1 : N &&& x * 2 ^ (8 * k) = 0 := by
        apply Nat.eq_of_testBit_eq
        intro i
        rw [Nat.testBit_and, Nat.zero_testBit]
        by_cases hi : i < 8 * k
        · have : (x * 2 ^ (8 * k)).testBit i = false := by
            rw [Nat.testBit_mul_two_pow]
            simp
            omega
          rw [this, Bool.and_false]
        · have : N.testBit i = false := Nat.testBit_lt_two_pow (Nat.lt_of_lt_of_le hN (by rw [hp]; exact Nat.pow_le_pow_right (by omega) (by omega)))
          rw [this, Bool.false_and]
      have h2 : N ^^^ x * 2 ^ (8 * k) = N ||| x * 2 ^ (8 * k) := by
        apply Nat.eq_of_testBit_eq
        intro i
        have h3 := congrArg (fun z => Nat.testBit z i) h1
        simp only [Nat.testBit_and, Nat.zero_testBit] at h3
        rw [Nat.testBit_xor, Nat.testBit_or]
        cases ha : N.testBit i <;> cases hb : (x * 2 ^ (8 * k)).testBit i <;> simp [ha, hb] at h3 ⊢
      rw [h2, Nat.or_comm, hj, hp, Nat.add_comm]
    have hM : N + x * 256 ^ k < 256 ^ (k + 1) := by
      have := Nat.mul_le_mul_right (256 ^ k) (show x ≤ 255 by omega)
      rw [Nat.pow_succ]
      omega
    have hstep : crcB (crcK (8 * k) N) x = crcK (8 * (k + 1)) (N + x * 256 ^ k) := by
      unfold crcB
      have e : crcK (8 * k) N ^^^ x = crcK (8 * k) (N ^^^ x * 2 ^ (8 * k)) := by rw [crcK_xor, crcK_shift]
      rw [e, hxor, ← crcK_add]
      congr 1
      omega
    simp only [List.length_cons] at hk
    obtain ⟨M, h1, h2, h3⟩ := crcS_burst t (k + 1) (N + x * 256 ^ k) (by omega) hM (fun y hy => h8 y (List.mem_cons_of_mem _ hy))
    refine ⟨M, ?_, ?_, fun h => h3 ?_⟩
    · show crcS (crcB (crcK (8 * k) N) x) t = _
      rw [hstep, h1, List.length_cons]
      congr 1
      omega
    · rw [List.length_cons, show k + (t.length + 1) = k + 1 + t.length by omega]
      exact h2
    · rcases h with h | ⟨y, hy, hy0⟩
      · left
        omega
      · rcases List.mem_cons.1 hy with rfl | hy
        · left
          have := Nat.mul_le_mul_right (256 ^ k) (show 1 ≤ y by omega)
          have := Nat.pow_pos (n := k) (show 0 < 256 by omega)
          omega
        · exact .inr ⟨y, hy, hy0⟩
/-- A change of one to four bytes next to each other, somewhere among others, is seen by the sum. -/
theorem crcN_burst (a b : List Nat) (p q : Nat) (t : List Nat) (ha : ∀ x ∈ a, x < 256) (hb : ∀ x ∈ b, x < 256) (hl : a.length = b.length) (ht : t.length ≤ 4) (h8 : ∀ x ∈ t, x < 256) (h0 : ∃ x ∈ t, x ≠ 0)
    (hd : lxor a b = List.replicate p 0 ++ t ++ List.replicate q 0) : crcN a ≠ crcN b := by
  intro he
  rw [crcN_eq a ha, crcN_eq b hb] at he
  have he' : crcS 4294967295 a = crcS 4294967295 b := by
    have h2 : 4294967295 ^^^ (4294967295 ^^^ crcS 4294967295 a) = 4294967295 ^^^ (4294967295 ^^^ crcS 4294967295 b) := by rw [he]
    rw [← Nat.xor_assoc, ← Nat.xor_assoc, Nat.xor_self, Nat.zero_xor, Nat.zero_xor] at h2
    exact h2
  have h3 := crcS_xor a b 4294967295 4294967295 hl
  rw [he', Nat.xor_self, Nat.xor_self, hd, crcS_append, crcS_append, crcS_zeros, crcS_zeros, crcK_zero_at] at h3
  obtain ⟨M, h4, h5, h6⟩ := crcS_burst t 0 0 (by omega) (by simp) h8
  have h7 : crcS 0 t = crcK (8 * (0 + t.length)) M := h4
  rw [h7, ← crcK_add] at h3
  have hM : M < 4294967296 := Nat.lt_of_lt_of_le h5 (by
    have : (256 : Nat) ^ (0 + t.length) ≤ 256 ^ 4 := Nat.pow_le_pow_right (by omega) (by omega)
    omega)
  exact h6 (.inr h0) (crcK_zero _ M hM h3)

theorem beN_be4 (s : Nat) (hs : s < 4294967296) : beN (be4 s) = s := by
  simp only [beN, be4, List.foldl_cons, List.foldl_nil]
  omega
theorem be4_length (s : Nat) : (be4 s).length = 4 := rfl
/-- What was sealed is unsealed. -/
theorem us_seal (l : List Nat) : us (l ++ be4 (crcN l)) = (l, 0) := by
  have hs : crcN l < 4294967296 := by unfold crcN; omega
  unfold us
  have e : (l ++ be4 (crcN l)).length - 4 = l.length := by simp [be4_length]
  rw [if_neg (by simp [be4_length]), e, List.drop_left, List.take_left, beN_be4 _ hs, if_pos rfl]
theorem lxor_self : ∀ (l : List Nat), lxor l l = List.replicate l.length 0
  | [] => rfl
  | x :: l => by
    show (x ^^^ x) :: lxor l l = _
    rw [Nat.xor_self, lxor_self l]
    rfl
theorem lxor_set : ∀ (l : List Nat) (j x : Nat), j < l.length → lxor l (l.set j x) = List.replicate j 0 ++ [l.getD j 0 ^^^ x] ++ List.replicate (l.length - j - 1) 0
  | [], j, x, h => by simp at h
  | y :: l, 0, x, _ => by
    show (y ^^^ x) :: lxor l l = _
    rw [lxor_self]
    simp
  | y :: l, j + 1, x, h => by
    show (y ^^^ y) :: lxor l (l.set j x) = _
    rw [Nat.xor_self, lxor_set l j x (by simpa using h), List.replicate_succ]
    simp
end Go.Proofs.Ytcmopnkldplngaa
