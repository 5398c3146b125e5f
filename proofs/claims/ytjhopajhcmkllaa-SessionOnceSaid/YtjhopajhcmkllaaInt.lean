/- drover/bytes.Int, Blob: the walks. -/
import Derived.Test.YtjhopajhcmkllaaUint
namespace Go.Proofs.Ytjhopajhcmkllaa
open Go.RowKit

/-- The number whose varint a signed one is. -/
def zz (m : Int) : Nat := if 0 ≤ m then (2 * m).toNat else (-2 * m - 1).toNat

theorem zz_lt (m : Int) (h0 : -9223372036854775808 ≤ m) (h1 : m ≤ 9223372036854775807) : zz m < 18446744073709551616 := by
  unfold zz
  split <;> omega
theorem zz_pos (m : Int) (hm : 0 ≤ m) (h1 : m ≤ 9223372036854775807) : bits BinOp.xor IntKind.u64 (m * 2) (m / 9223372036854775808) = ((zz m : Nat) : Int) := by
  have e : m / 9223372036854775808 = 0 := by omega
  rw [e]
  have := u64_xor_nat (2 * m).toNat 0 (by omega) (by omega)
  unfold zz
  rw [if_pos hm]
  rw [Nat.xor_zero] at this
  rw [← this]
  congr 1
  omega

theorem not64 (s : Nat) (hs : s < 18446744073709551616) : (s ^^^ 18446744073709551615 : Nat) = 18446744073709551615 - s := by
  have h1 : (BitVec.ofNat 64 s ^^^ BitVec.ofNat 64 18446744073709551615) = ~~~ (BitVec.ofNat 64 s) := by
    have : BitVec.ofNat 64 18446744073709551615 = BitVec.allOnes 64 := by decide
    rw [this, BitVec.xor_allOnes]
  have h2 := congrArg BitVec.toNat h1
  simp only [BitVec.toNat_xor, BitVec.toNat_not, BitVec.toNat_ofNat] at h2
  rw [Nat.mod_eq_of_lt (by omega), Nat.mod_eq_of_lt (by omega)] at h2
  omega
theorem zz_neg (m : Int) (hm : m < 0) (h0 : -9223372036854775808 ≤ m) :
    bits BinOp.xor IntKind.u64 (IntKind.u64.wrap (IntKind.u64.wrap m * 2)) (IntKind.u64.wrap (m / 9223372036854775808)) = ((zz m : Nat) : Int) := by
  have e : m / 9223372036854775808 = -1 := by omega
  rw [e]
  have w1 : IntKind.u64.wrap (-1) = ((18446744073709551615 : Nat) : Int) := by decide
  have w2 : IntKind.u64.wrap (IntKind.u64.wrap m * 2) = (((2 * m + 18446744073709551616).toNat : Nat) : Int) := by
    rw [IntKind.wrap_u64, IntKind.wrap_u64]
    omega
  rw [w1, w2, u64_xor_nat _ _ (by omega) (by omega), not64 _ (by omega)]
  unfold zz
  rw [if_neg (by omega)]
  congr 1
  omega

set_option maxHeartbeats 400000 in
theorem blob_any (A : Option Addr) (n c : Nat) (l : List Nat) (A' : Option Addr) (n' c' : Nat) (l' : List Nat) (w : World) (B : Nat) (hl : l.length = n) (ha : At w B A (bv l)) (hn : n ≤ 1099511627776) (hl' : l'.length = n') (ha' : At w B A' (bv l')) (hn' : n' ≤ 1099511627776) (hB : B ≤ w.heap.size) :
    Calls Try.prog 77 #[.slice A n c, .slice A' n' c'] w fun e w' => ∃ v, e = .returned v ∧ Own w' w.heap.size v (l ++ varint n' ++ l') ∧ Below w.heap.size w w' := by
  go_enter Try.func77, Try.ntmps77
  go_wp2_with fail
  refine (uint_any A n c l n' w B hl ha hn hB (by omega)).mono ?_
  rintro e w1 ⟨v1, rfl, hown1, hb1⟩
  have hvl := varint_length n'
  go_wp2_with (at_builtin
               refine wpList_app rfl (.tmp 9) (.tmp 10) rfl rfl hown1 rfl ((ha'.more hB).below hb1) hl' (by simp; omega) hb1.size ?_
               intro v2 w2 hown2 hb2 _ _)
  go_ret
  exact ⟨v2, rfl, hown2, hb1.trans hb2⟩
end Go.Proofs.Ytjhopajhcmkllaa
