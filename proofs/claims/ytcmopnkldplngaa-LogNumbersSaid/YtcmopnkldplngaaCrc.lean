/- drover/bytes.Crc: the walk. -/
import Derived.Test.YtcmopnkldplngaaOwn
namespace Go.Proofs.Ytcmopnkldplngaa
open Go.RowKit

def crc1 (c : Nat) : Nat := (c / 2) ^^^ (if c % 2 = 1 then 3988292384 else 0)
def crcK : Nat → Nat → Nat
  | 0, c => c
  | k + 1, c => crc1 (crcK k c)
def crcB (c x : Nat) : Nat := crcK 8 (c ^^^ x)
def crcS (c : Nat) (l : List Nat) : Nat := l.foldl crcB c
def crcN (l : List Nat) : Nat := 4294967295 - crcS 4294967295 l

theorem crc1_lt {c : Nat} (h : c < 4294967296) : crc1 c < 4294967296 := by
  unfold crc1
  exact Nat.xor_lt_two_pow (n := 32) (by omega) (by split <;> omega)
theorem crcK_lt (k : Nat) {c : Nat} (h : c < 4294967296) : crcK k c < 4294967296 := by
  induction k with
  | zero => exact h
  | succ k ih => exact crc1_lt ih
theorem crcB_lt {c x : Nat} (h : c < 4294967296) (hx : x < 256) : crcB c x < 4294967296 :=
  crcK_lt 8 (Nat.xor_lt_two_pow (n := 32) h (by omega))
theorem crcS_lt (l : List Nat) (h8 : ∀ x ∈ l, x < 256) : ∀ c, c < 4294967296 → crcS c l < 4294967296 := by
  induction l with
  | nil => intro c h; exact h
  | cons x l ih => intro c h; exact ih (fun y hy => h8 y (List.mem_cons_of_mem _ hy)) _ (crcB_lt h (h8 x (by simp)))


theorem crcS_snoc (c : Nat) (l : List Nat) (k : Nat) (h : k < l.length) : crcS c (l.take (k + 1)) = crcB (crcS c (l.take k)) (l.getD k 0) := by
  unfold crcS
  rw [List.take_succ_eq_append_getElem h, List.foldl_append]
  simp [h]

theorem crc1_walk (r : Nat) (hr : r < 4294967296) :
    bits BinOp.xor IntKind.u32 ((r : Int) / 2) (bits BinOp.and IntKind.u32 3988292384 (-bits BinOp.and IntKind.u32 (r : Int) 1 % 4294967296)) = ((crc1 r : Nat) : Int) := by
  have h1 : bits BinOp.and IntKind.u32 (r : Int) 1 = ((r % 2 : Nat) : Int) := by
    have := u32_and_nat r 1 hr (by omega)
    rw [nat_mask1] at this
    exact this
  rw [h1]
  have h2 : bits BinOp.and IntKind.u32 3988292384 (-((r % 2 : Nat) : Int) % 4294967296) = (((if r % 2 = 1 then 3988292384 else 0 : Nat)) : Int) := by
    rcases Nat.mod_two_eq_zero_or_one r with h | h
    · rw [h]
      exact u32_and_nat 3988292384 0 (by omega) (by omega)
    · rw [h]
      have := u32_and_nat 3988292384 4294967295 (by omega) (by omega)
      rw [show ((3988292384 &&& 4294967295 : Nat)) = 3988292384 from by decide] at this
      exact this
  rw [h2]
  have h3 := u32_xor_nat (r / 2) (if r % 2 = 1 then 3988292384 else 0) (by omega) (by split <;> omega)
  unfold crc1
  rw [← h3]
  simp

theorem not32 (s : Nat) (hs : s < 4294967296) : bits BinOp.xor IntKind.u32 IntKind.u32.max (s : Int) = ((4294967295 - s : Nat) : Int) := by
  have h := u32_xor_nat 4294967295 s (by omega) hs
  have e : (4294967295 ^^^ s : Nat) = 4294967295 - s := by
    have h1 : (BitVec.ofNat 32 4294967295 ^^^ BitVec.ofNat 32 s) = ~~~ (BitVec.ofNat 32 s) := by
      have : BitVec.ofNat 32 4294967295 = BitVec.allOnes 32 := by decide
      rw [this, BitVec.allOnes_xor]
    have h2 := congrArg BitVec.toNat h1
    simp only [BitVec.toNat_xor, BitVec.toNat_not, BitVec.toNat_ofNat] at h2
    rw [Nat.mod_eq_of_lt (by omega), Nat.mod_eq_of_lt (by omega)] at h2
    omega
  rw [e] at h
  exact h

set_option maxHeartbeats 400000 in
theorem crc_any (A : Option Addr) (n c : Nat) (l : List Nat) (w : World) (B : Nat) (hl : l.length = n) (ha : At w B A (bv l)) (hn : n ≤ 1099511627776) (h8 : ∀ x ∈ l, x < 256) :
    Calls Try.prog 38 #[.slice A n c] w fun e w' => e = .returned (.int .u32 (crcN l : Nat)) ∧ w = w' := by
  subst hl
  go_enter Try.func38, Try.ntmps38
  go_wp2
  go_loop [3, 8] (fun x i => ∃ k : Nat, k ≤ l.length ∧ i = .int .i64 k ∧ x = .int .u32 (crcS 4294967295 (l.take k) : Nat)) (fun _ i => l.length - (intOf i).toNat)
  case atStart => exact ⟨0, Nat.zero_le _, rfl, rfl⟩
  case round =>
    obtain ⟨k, hk, rfl, rfl⟩ := hrel
    by_cases hlt : k < l.length
    · obtain ⟨b, o, rfl, hb, hc⟩ := ha.byte (by intro h0; subst h0; simp at hlt)
      have hck := hc k hlt
      have hb1 : l.getD k 0 < 256 := by
        have := h8 (l[k]) (List.getElem_mem hlt)
        simpa [hlt] using this
      have hs : crcS 4294967295 (l.take k) < 4294967296 := crcS_lt _ (fun x hx => h8 x (List.mem_of_mem_take hx)) _ (by omega)
      have H : Hid (crcS 4294967295 (l.take (k + 1)) = crcB (crcS 4294967295 (l.take k)) (l.getD k 0)) := crcS_snoc _ _ _ hlt
      generalize crcS 4294967295 (l.take k) = s at *
      generalize l.getD k 0 = x at *
      clear hc h8 ha
      go_wp2
      go_loop [3, 16] (fun y i => ∃ j : Nat, j ≤ 8 ∧ i = .int .i64 j ∧ y = .int .u32 (crcK j (s ^^^ x) : Nat)) (fun _ i => 8 - (intOf i).toNat)
      case atStart => exact ⟨0, by omega, rfl, congrArg (Value.int .u32) (u32_xor_nat s x hs (by omega))⟩
      case round =>
        obtain ⟨j, hj, rfl, rfl⟩ := hrel
        have hr := crcK_lt j (c := s ^^^ x) (Nat.xor_lt_two_pow (n := 32) hs (by omega))
        have H2 : Hid (crcK (j + 1) (s ^^^ x) = crc1 (crcK j (s ^^^ x))) := rfl
        have H3 : Hid (j = 8 → crcB s x = crcK j (s ^^^ x)) := fun h => by subst h; rfl
        generalize crcK j (s ^^^ x) = r at *
        by_cases hj8 : j < 8
        · go_wp2
          go_round
          case rel =>
            exact ⟨j + 1, by omega, by go_num, congrArg (Value.int .u32) (by rw [crc1_walk r hr, H2.out])⟩
          case measure => simp [intOf]; omega
        · go_wp2
          go_round
          case rel =>
            exact ⟨k + 1, by omega, by go_num, congrArg (Value.int .u32) (by rw [H.out, H3.out (by omega)])⟩
          case measure => simp [intOf]; omega
    · go_wp2
      go_ret
      have hs : crcS 4294967295 (l.take k) < 4294967296 := crcS_lt _ (fun x hx => h8 x (List.mem_of_mem_take hx)) _ (by omega)
      have e : l.take k = l := List.take_of_length_le (by omega)
      rw [e] at hs ⊢
      exact ⟨congrArg Ending.returned (congrArg (Value.int .u32) (not32 _ hs)), rfl⟩
end Go.Proofs.Ytcmopnkldplngaa
