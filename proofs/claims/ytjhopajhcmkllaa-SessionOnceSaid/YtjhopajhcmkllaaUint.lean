/- drover/bytes.Uint, Int, Blob: the walks. -/
import Derived.Test.YtjhopajhcmkllaaOwn
import Derived.Test.YtjhopajhcmkllaaNum
import Derived.Test.YtjhopajhcmkllaaLen
namespace Go.Proofs.Ytjhopajhcmkllaa
open Go.RowKit

theorem u64_or_nat' (x : Nat) (hx : x < 18446744073709551616) : bits BinOp.or IntKind.u64 (x : Int) 1 = ((x ||| 1 : Nat) : Int) := u64_or_nat x 1 hx (by omega)

theorem or_128 (y : Nat) : bits BinOp.or IntKind.u8 ((y : Int) % 256) 128 = ((y % 128 + 128 : Nat) : Int) := by
  have all : ∀ m : Fin 256, m.val ||| 128 = m.val % 128 + 128 := by decide +kernel
  have h := u8_or_nat (y % 256) 128 (by omega) (by omega)
  rw [all ⟨y % 256, by omega⟩] at h
  rw [show ((y : Int) % 256) = ((y % 256 : Nat) : Int) by omega]
  rw [show (y % 128 + 128 : Nat) = y % 256 % 128 + 128 by omega]
  exact h

set_option maxHeartbeats 400000 in
theorem uint_any (A : Option Addr) (n c : Nat) (l : List Nat) (x : Nat) (w : World) (B : Nat) (hl : l.length = n) (ha : At w B A (bv l)) (hn : n ≤ 1099511627776) (hB : B ≤ w.heap.size) (hx : x < 18446744073709551616) :
    Calls Try.prog 75 #[.slice A n c, .int .u64 (x : Int)] w fun e w' => ∃ v, e = .returned v ∧ Own w' w.heap.size v (l ++ varint x) ∧ Below w.heap.size w w' := by
  go_enter Try.func75, Try.ntmps75
  go_wp2_with fail
  refine (own_any A n c l 10 w B hl ha (by omega) hB).mono ?_
  rintro e w1 ⟨v1, rfl, hown1, hb1⟩
  go_wp2_with fail
  have hx1 : (x ||| 1) < 18446744073709551616 := Nat.or_lt_two_pow (n := 64) hx (by omega)
  have hL1 : 1 ≤ Lib.bitLen (x ||| 1) := bitLen_pos _ (by have := @Nat.left_le_or 1 x; rw [Nat.or_comm] at this; omega) (by omega)
  have hL2 : Lib.bitLen (x ||| 1) ≤ 64 := bitLen_le _ 64 (by omega)
  have HR : Hid (vmore x = (Lib.bitLen (x ||| 1) - 1) / 7) := rfl
  rw [u64_or_nat' x hx]
  refine (len64_any _ _ (by omega) (by omega)).mono ?_
  rintro e w2 ⟨rfl, rfl⟩
  rw [Int.toNat_natCast]
  generalize Lib.bitLen (x ||| 1) = L at *
  go_wp2
  have hR : vmore x = (L - 1) / 7 := HR.out
  rw [show ((L : Int) - 1) / 7 = ((vmore x : Nat) : Int) by omega]
  have hv9 : vmore x ≤ 9 := by omega
  have HV := Lib.hid (vput_varint x hx)
  clear HR hR
  generalize vmore x = R at *
  go_loopw [0, 1, 12] (fun v nn i wr => ∃ (r y : Nat) (done : List Nat), r ≤ R ∧ y < 18446744073709551616 ∧ i = .int .i64 ((R - r : Nat) : Int) ∧ nn = .int .u64 (y : Int) ∧ Own wr w.heap.size v (l ++ done) ∧ done.length = R - r ∧ Hid (done ++ vput r y = varint x) ∧ Below w.heap.size w wr) (fun _ _ i _ => R - (intOf i).toNat)
  case atStart => exact ⟨R, x, [], Nat.le_refl _, hx, by simp, rfl, by simpa using hown1, by simp, HV, hb1⟩
  case round =>
    obtain ⟨r, y, done, hr, hy, rfl, rfl, hown, hdl, hdone, hbw⟩ := hrel
    have hlen : (l ++ done).length + 1 ≤ 8796093022208 := by simp; omega
    by_cases h0 : r = 0
    · subst h0
      have hz : (y : Int) % 256 = ((y % 256 : Nat) : Int) := by omega
      have HZ := Lib.hid hz
      clear hz
      go_wp2_with (at_builtin
                   refine wpList_app rfl (.tmp 23) (.tmp 26) rfl rfl (hown.alloc _) rfl (At.one _ _ _ (y % 256) HZ.out) rfl hlen (by simp; have := hbw.size; omega) ?_
                   intro v2 w2 hown2 hb2 _ _)
      go_ret
      refine ⟨v2, rfl, ?_, ((hbw.alloc hbw.size _).trans hb2)⟩
      rw [← hdone.out]
      simpa [vput] using hown2
    · have hz : bits BinOp.or IntKind.u8 ((y : Int) % 256) 128 = ((y % 128 + 128 : Nat) : Int) := or_128 y
      have HZ := Lib.hid hz
      clear hz
      go_wp2_with (at_builtin
                   refine wpList_app rfl (.tmp 14) (.tmp 18) rfl rfl (hown.alloc _) rfl (At.one _ _ _ (y % 128 + 128) HZ.out) rfl hlen (by simp; have := hbw.size; omega) ?_
                   intro v2 w2 hown2 hb2 _ _)
      go_roundw
      case rel =>
        refine ⟨r - 1, y / 128, done ++ [y % 128 + 128], by omega, by omega, ?_, ?_, by simpa using hown2, by simp; omega, ?_, (hbw.alloc hbw.size _).trans hb2⟩
        · congr 1; omega
        · congr 1
        · show _ = _
          rw [← hdone.out, show r = (r - 1) + 1 by omega]
          simp [vput]
      case measure => simp [intOf]; omega
end Go.Proofs.Ytjhopajhcmkllaa
