/- Texts Uint, Int, Get, GetInt, GetBlob, Bs, Own2 of this seat in one: see each part. -/
import Derived.BigGuardPart
import Derived.BigQuiet
import Derived.Deep.DeepFit
import Derived.Test.YtjcefnlidophoaaGa
import Derived.Test.YtjcefnlidophoaaLen
namespace Go.Proofs.Ytjcefnlidophoaa
open Go.RowKit

theorem u64_or_nat' (x : Nat) (hx : x < 18446744073709551616) : bits BinOp.or IntKind.u64 (x : Int) 1 = ((x ||| 1 : Nat) : Int) := u64_or_nat x 1 hx (by omega)

theorem or_128 (y : Nat) : bits BinOp.or IntKind.u8 ((y : Int) % 256) 128 = ((y % 128 + 128 : Nat) : Int) := by
  have all : ∀ m : Fin 256, m.val ||| 128 = m.val % 128 + 128 := by decide +kernel
  have h := u8_or_nat (y % 256) 128 (by omega) (by omega)
  rw [all ⟨y % 256, by omega⟩] at h
  rw [show ((y : Int) % 256) = ((y % 256 : Nat) : Int) by omega]
  rw [show (y % 128 + 128 : Nat) = y % 256 % 128 + 128 by omega]
  exact h

set_option maxHeartbeats 400000 in
theorem uint_any (A : Option Addr) (n c : Nat) (l : List Nat) (x : Nat) (w : World) (B : Nat) (hl : l.length = n) (ha : At w B A (bv l)) (hn : n ≤ 1099511627776) (hB : B ≤ w.heap.size) (hx : x < 18446744073709551616) :
    Calls Try.prog 78 #[.slice A n c, .int .u64 (x : Int)] w fun e w' => ∃ v, e = .returned v ∧ Own w' w.heap.size v (l ++ varint x) ∧ Below w.heap.size w w' := by
  go_enter Try.func78, Try.ntmps78
  go_wp2_with fail
  refine (own_any A n c l 10 w B hl ha (by omega) hB).mono ?_
  rintro e w1 ⟨v1, rfl, hown1, hb1⟩
  go_wp2_with fail
  have hx1 : (x ||| 1) < 18446744073709551616 := Nat.or_lt_two_pow (n := 64) hx (by omega)
  have hL1 : 1 ≤ Lib.bitLen (x ||| 1) := bitLen_pos _ (by have := @Nat.left_le_or 1 x; rw [Nat.or_comm] at this; omega) (by omega)
  have hL2 : Lib.bitLen (x ||| 1) ≤ 64 := bitLen_le _ 64 (by omega)
  have HR : Hid (vmore x = (Lib.bitLen (x ||| 1) - 1) / 7) := rfl
  rw [u64_or_nat' x hx]
  refine (len64_any _ _ (by omega) (by omega)).mono ?_
  rintro e w2 ⟨rfl, rfl⟩
  rw [Int.toNat_natCast]
  generalize Lib.bitLen (x ||| 1) = L at *
  go_wp2
  have hR : vmore x = (L - 1) / 7 := HR.out
  rw [show ((L : Int) - 1) / 7 = ((vmore x : Nat) : Int) by omega]
  have hv9 : vmore x ≤ 9 := by omega
  have HV := Lib.hid (vput_varint x hx)
  clear HR hR
  generalize vmore x = R at *
  go_loopw [0, 1, 12] (fun v nn i wr => ∃ (r y : Nat) (done : List Nat), r ≤ R ∧ y < 18446744073709551616 ∧ i = .int .i64 ((R - r : Nat) : Int) ∧ nn = .int .u64 (y : Int) ∧ Own wr w.heap.size v (l ++ done) ∧ done.length = R - r ∧ Hid (done ++ vput r y = varint x) ∧ Below w.heap.size w wr) (fun _ _ i _ => R - (intOf i).toNat)
  case atStart => exact ⟨R, x, [], Nat.le_refl _, hx, by simp, rfl, by simpa using hown1, by simp, HV, hb1⟩
  case round =>
    obtain ⟨r, y, done, hr, hy, rfl, rfl, hown, hdl, hdone, hbw⟩ := hrel
    have hlen : (l ++ done).length + 1 ≤ 8796093022208 := by simp; omega
    by_cases h0 : r = 0
    · subst h0
      have hz : (y : Int) % 256 = ((y % 256 : Nat) : Int) := by omega
      have HZ := Lib.hid hz
      clear hz
      go_wp2_with (at_builtin
                   refine wpList_app rfl (.tmp 23) (.tmp 26) rfl rfl (hown.alloc _) rfl (At.one _ _ _ (y % 256) HZ.out) rfl hlen (by simp; have := hbw.size; omega) ?_
                   intro v2 w2 hown2 hb2 _ _)
      go_ret
      refine ⟨v2, rfl, ?_, ((hbw.alloc hbw.size _).trans hb2)⟩
      rw [← hdone.out]
      simpa [vput] using hown2
    · have hz : bits BinOp.or IntKind.u8 ((y : Int) % 256) 128 = ((y % 128 + 128 : Nat) : Int) := or_128 y
      have HZ := Lib.hid hz
      clear hz
      go_wp2_with (at_builtin
                   refine wpList_app rfl (.tmp 14) (.tmp 18) rfl rfl (hown.alloc _) rfl (At.one _ _ _ (y % 128 + 128) HZ.out) rfl hlen (by simp; have := hbw.size; omega) ?_
                   intro v2 w2 hown2 hb2 _ _)
      go_roundw
      case rel =>
        refine ⟨r - 1, y / 128, done ++ [y % 128 + 128], by omega, by omega, ?_, ?_, by simpa using hown2, by simp; omega, ?_, (hbw.alloc hbw.size _).trans hb2⟩
        · congr 1; omega
        · congr 1
        · show _ = _
          rw [← hdone.out, show r = (r - 1) + 1 by omega]
          simp [vput]
      case measure => simp [intOf]; omega
end Go.Proofs.Ytjcefnlidophoaa
namespace Go.Proofs.Ytjcefnlidophoaa
open Go.RowKit

/-- The number whose varint a signed one is. -/
def zz (m : Int) : Nat := if 0 ≤ m then (2 * m).toNat else (-2 * m - 1).toNat

theorem zz_lt (m : Int) (h0 : -9223372036854775808 ≤ m) (h1 : m ≤ 9223372036854775807) : zz m < 18446744073709551616 := by
  unfold zz
  split <;> omega
theorem zz_pos (m : Int) (hm : 0 ≤ m) (h1 : m ≤ 9223372036854775807) : bits BinOp.xor IntKind.u64 (m * 2) (m / 9223372036854775808) = ((zz m : Nat) : Int) := by
  have e : m / 9223372036854775808 = 0 := by omega
  rw [e]
  have := u64_xor_nat (2 * m).toNat 0 (by omega) (by omega)
  unfold zz
  rw [if_pos hm]
  rw [Nat.xor_zero] at this
  rw [← this]
  congr 1
  omega

theorem not64 (s : Nat) (hs : s < 18446744073709551616) : (s ^^^ 18446744073709551615 : Nat) = 18446744073709551615 - s := by
  have h1 : (BitVec.ofNat 64 s ^^^ BitVec.ofNat 64 18446744073709551615) = ~~~ (BitVec.ofNat 64 s) := by
    have : BitVec.ofNat 64 18446744073709551615 = BitVec.allOnes 64 := by decide
    rw [this, BitVec.xor_allOnes]
  have h2 := congrArg BitVec.toNat h1
  simp only [BitVec.toNat_xor, BitVec.toNat_not, BitVec.toNat_ofNat] at h2
  rw [Nat.mod_eq_of_lt (by omega), Nat.mod_eq_of_lt (by omega)] at h2
  omega
theorem zz_neg (m : Int) (hm : m < 0) (h0 : -9223372036854775808 ≤ m) :
    bits BinOp.xor IntKind.u64 (IntKind.u64.wrap (IntKind.u64.wrap m * 2)) (IntKind.u64.wrap (m / 9223372036854775808)) = ((zz m : Nat) : Int) := by
  have e : m / 9223372036854775808 = -1 := by omega
  rw [e]
  have w1 : IntKind.u64.wrap (-1) = ((18446744073709551615 : Nat) : Int) := by decide
  have w2 : IntKind.u64.wrap (IntKind.u64.wrap m * 2) = (((2 * m + 18446744073709551616).toNat : Nat) : Int) := by
    rw [IntKind.wrap_u64, IntKind.wrap_u64]
    omega
  rw [w1, w2, u64_xor_nat _ _ (by omega) (by omega), not64 _ (by omega)]
  unfold zz
  rw [if_neg (by omega)]
  congr 1
  omega

set_option maxHeartbeats 400000 in
theorem int_any (A : Option Addr) (n c : Nat) (l : List Nat) (m : Int) (w : World) (B : Nat) (hl : l.length = n) (ha : At w B A (bv l)) (hn : n ≤ 1099511627776) (hB : B ≤ w.heap.size) (h0 : -9223372036854775808 ≤ m) (h1 : m ≤ 9223372036854775807) :
    Calls Try.prog 147 #[.slice A n c, .int .i64 m] w fun e w' => ∃ v, e = .returned v ∧ Own w' w.heap.size v (l ++ varint (zz m)) ∧ Below w.heap.size w w' := by
  by_cases hm : 0 ≤ m
  · go_enter Try.func147, Try.ntmps147
    go_wp2_with fail
    rw [show bits BinOp.xor IntKind.u64 (m * 2) (m / 9223372036854775808) = ((zz m : Nat) : Int) from zz_pos m hm h1]
    refine (uint_any A n c l (zz m) w B hl ha hn hB (zz_lt m h0 h1)).mono ?_
    rintro e w1 ⟨v1, rfl, hown1, hb1⟩
    go_wp2
    go_ret
    exact ⟨v1, rfl, hown1, hb1⟩
  · go_enter Try.func147, Try.ntmps147
    go_wp2_with fail
    rw [show bits BinOp.xor IntKind.u64 (IntKind.u64.wrap (IntKind.u64.wrap m * 2)) (IntKind.u64.wrap (m / 9223372036854775808)) = ((zz m : Nat) : Int) from zz_neg m (by omega) h0]
    refine (uint_any A n c l (zz m) w B hl ha hn hB (zz_lt m h0 h1)).mono ?_
    rintro e w1 ⟨v1, rfl, hown1, hb1⟩
    go_wp2
    go_ret
    exact ⟨v1, rfl, hown1, hb1⟩

set_option maxHeartbeats 400000 in
theorem blob_any (A : Option Addr) (n c : Nat) (l : List Nat) (A' : Option Addr) (n' c' : Nat) (l' : List Nat) (w : World) (B : Nat) (hl : l.length = n) (ha : At w B A (bv l)) (hn : n ≤ 1099511627776) (hl' : l'.length = n') (ha' : At w B A' (bv l')) (hn' : n' ≤ 1099511627776) (hB : B ≤ w.heap.size) :
    Calls Try.prog 79 #[.slice A n c, .slice A' n' c'] w fun e w' => ∃ v, e = .returned v ∧ Own w' w.heap.size v (l ++ varint n' ++ l') ∧ Below w.heap.size w w' := by
  go_enter Try.func79, Try.ntmps79
  go_wp2_with fail
  refine (uint_any A n c l n' w B hl ha hn hB (by omega)).mono ?_
  rintro e w1 ⟨v1, rfl, hown1, hb1⟩
  have hvl := varint_length n'
  go_wp2_with (at_builtin
               refine wpList_app rfl (.tmp 9) (.tmp 10) rfl rfl hown1 rfl ((ha'.more hB).below hb1) hl' (by simp; omega) hb1.size ?_
               intro v2 w2 hown2 hb2 _ _)
  go_ret
  exact ⟨v2, rfl, hown2, hb1.trans hb2⟩
end Go.Proofs.Ytjcefnlidophoaa
namespace Go.Proofs.Ytjcefnlidophoaa
open Go.RowKit

theorem shl_walk (acc k x : Nat) (hacc : acc < 128 ^ k) (hx : x < 256) (hk : k ≤ 9) (h9 : k = 9 → x ≤ 1) :
    bits BinOp.or IntKind.u64 (acc : Int) (IntKind.u64.wrap (IntKind.u64.wrap (bits BinOp.and IntKind.u8 (x : Int) 127) * 2 ^ (7 * k))) = ((acc + x % 128 * 128 ^ k : Nat) : Int) := by
  have e1 : bits BinOp.and IntKind.u8 (x : Int) 127 = ((x % 128 : Nat) : Int) := by
    have := u8_and_nat x 127 hx (by omega)
    rw [nat_mask7] at this
    exact this
  have e2 : IntKind.u64.wrap ((x % 128 : Nat) : Int) = ((x % 128 : Nat) : Int) := by rw [IntKind.wrap_u64]; omega
  have hp : (2 : Nat) ^ (7 * k) = 128 ^ k := by rw [Nat.pow_mul]
  have e3 : (((x % 128 : Nat) : Int) * 2 ^ (7 * k)) = ((x % 128 * 128 ^ k : Nat) : Int) := by
    rw [← hp]
    simp
  have hlt : x % 128 * 128 ^ k < 18446744073709551616 ∧ acc < 18446744073709551616 := by
    have hm : (128 : Nat) ^ k ≤ 128 ^ 9 := Nat.pow_le_pow_right (by omega) hk
    by_cases h : k = 9
    · have := h9 h
      subst h
      refine ⟨?_, by omega⟩
      have := Nat.mul_le_mul_right (128 ^ 9) (show x % 128 ≤ 1 by omega)
      omega
    · have hm : (128 : Nat) ^ k ≤ 128 ^ 8 := Nat.pow_le_pow_right (by omega) (by omega)
      have := Nat.mul_le_mul (show x % 128 ≤ 127 by omega) hm
      exact ⟨by omega, by omega⟩
  have e4 : IntKind.u64.wrap ((x % 128 * 128 ^ k : Nat) : Int) = ((x % 128 * 128 ^ k : Nat) : Int) := by rw [IntKind.wrap_u64]; omega
  rw [e1, e2, e3, e4, u64_or_nat _ _ hlt.2 hlt.1]
  have := nat_join (7 * k) (x % 128 * 128 ^ k) acc (by rw [hp]; exact Nat.mul_mod_left _ _) (by rw [hp]; exact hacc)
  rw [Nat.or_comm, this, Nat.add_comm]

theorem shl_last (acc : Nat) (hacc : acc < 128 ^ 9) : bits BinOp.or IntKind.u64 (acc : Int) (bits BinOp.and IntKind.u8 1 127 * 9223372036854775808) = ((acc + 1 % 128 * 128 ^ 9 : Nat) : Int) := by
  have h := shl_walk acc 9 1 hacc (by omega) (by omega) (by omega)
  rw [← h]
  congr 1
theorem ret3 {a b c a' b' c' : Value} (h1 : a = a') (h2 : b = b') (h3 : c = c') : Ending.returned (.tuple #[a, b, c]) = Ending.returned (.tuple #[a', b', c']) := by
  rw [h1, h2, h3]

def GuPost (r : Nat × Nat × Nat) (w : World) (e : Ending) (w' : World) : Prop := e = .returned (.tuple #[.int .u64 (r.1 : Int), .int .i64 (r.2.1 : Int), .int .i64 (r.2.2 : Int)]) ∧ w = w'

set_option maxRecDepth 100000 in
set_option maxHeartbeats 1000000 in
theorem getuint_any (A : Option Addr) (n c : Nat) (l : List Nat) (at_ : Nat) (w : World) (B : Nat) (hl : l.length = n) (ha : At w B A (bv l)) (hn : n ≤ 1099511627776) (h8 : ∀ x ∈ l, x < 256) (hat : at_ ≤ n) :
    Calls Try.prog 157 #[.slice A n c, .int .i64 (at_ : Int)] w (GuPost (gu l at_) w) := by
  subst hl
  have hlt : decide ((l.length : Int) < (at_ : Int)) = false := by simp; omega
  go_enter Try.func157, Try.ntmps157
  go_wp2
  all_goals
    go_loop [7, 23] (fun nn i => ∃ (k acc : Nat), k ≤ 9 ∧ at_ + k ≤ l.length ∧ i = .int .i64 (k : Int) ∧ nn = .int .u64 (acc : Int) ∧ acc < 128 ^ k ∧ Hid (gus k acc (l.drop (at_ + k)) = gus 0 0 (l.drop at_))) (fun _ i => 10 - (intOf i).toNat)
    case atStart => exact ⟨0, 0, by omega, by omega, rfl, rfl, by simp, by simp [Hid]⟩
    case round =>
      obtain ⟨k, acc, hk9, hkl, rfl, rfl, hacc, hgus⟩ := hrel
      by_cases hlt : at_ + k < l.length
      · have hne : l ≠ [] := by intro h0; subst h0; simp at hlt
        obtain ⟨b, o, rfl, hb, hc⟩ := ha.byte hne
        have hck := hc (at_ + k) hlt
        have hx8 : l.getD (at_ + k) 0 < 256 := by
          have := h8 (l[at_ + k]) (List.getElem_mem hlt)
          simpa [hlt] using this
        have HD := Lib.hid (gus_drop l (at_ + k) k acc hlt)
        generalize l.getD (at_ + k) 0 = x at *
        clear hc ha h8
        have hkt : decide ((k : Int) < 10) = true := by simp; omega
        by_cases hbad : (0 < k ∧ x = 0) ∨ (k = 9 ∧ 1 < x)
        · have HF : Hid (gu l at_ = (0, 0, 10)) := gu_err l at_ 10 (by omega) (by rw [← hgus.out, HD.out, if_pos hbad])
          by_cases hx0 : x = 0
          · have hk1 : 0 < k := by omega
            subst hx0
            clear hbad
            go_wp2
            go_ret3
            exact ⟨by rw [HF.out]; rfl, rfl⟩
          · obtain ⟨rfl, hx1⟩ : k = 9 ∧ 1 < x := by omega
            have hx2 : ((x : Int) == 0) = false := by simp; omega
            have hx3 : (1 : Int) < x := by omega
            clear hbad hx0 hx1
            go_wp2
            go_ret3
            exact ⟨by rw [HF.out]; rfl, rfl⟩
        · have HS := Lib.hid (shl_walk acc k x hacc hx8 hk9 (by omega))
          have hacc' := acc_step acc k x hacc
          have HG : Hid (gus 0 0 (l.drop at_) = if x < 128 then (acc + x % 128 * 128 ^ k, k + 1, 0) else gus (k + 1) (acc + x % 128 * 128 ^ k) (l.drop (at_ + k + 1))) := by rw [← hgus.out, HD.out, if_neg hbad]; rfl
          have h9 : k = 9 → x ≤ 1 := by omega
          by_cases hk0 : k = 0
          · have hk1 : decide (0 < k) = false := by simp; omega
            have hk2 : ((k : Int) == 9) = false := by simp; omega
            have hk8 : k ≤ 8 := by omega
            clear hk0 hbad
            go_wp2
            · go_ret3
              have hx : x < 128 := by omega
              refine ⟨?_, rfl⟩
              rw [gu_ok l at_ _ _ (HG.out.trans (if_pos hx))]
              exact ret3 (congrArg (Value.int .u64) HS.out) (congrArg (Value.int .i64) (by dsimp only; omega)) rfl
            · have hx : ¬ x < 128 := by omega
              exact ⟨⟨k + 1, _, by omega, by omega, by go_num, congrArg (Value.int .u64) HS.out, hacc', (HG.out.trans (if_neg hx)).symm⟩, by simp [intOf]; omega⟩
          · have hk1 : 0 < k := by omega
            have hx2 : ((x : Int) == 0) = false := by simp; omega
            by_cases hk9' : k = 9
            · obtain rfl : x = 1 := by omega
              subst hk9'
              clear hk0 hbad h9
              go_wp2
              go_ret3
              refine ⟨?_, rfl⟩
              rw [gu_ok l at_ _ _ (HG.out.trans (if_pos (by omega)))]
              exact ret3 (congrArg (Value.int .u64) (shl_last acc hacc)) (congrArg (Value.int .i64) (by dsimp only; omega)) rfl
            · have hk2 : ((k : Int) == 9) = false := by simp; omega
              have hk8 : k ≤ 8 := by omega
              clear hk9' hk0 hbad
              go_wp2
              · go_ret3
                have hx : x < 128 := by omega
                refine ⟨?_, rfl⟩
                rw [gu_ok l at_ _ _ (HG.out.trans (if_pos hx))]
                exact ret3 (congrArg (Value.int .u64) HS.out) (congrArg (Value.int .i64) (by dsimp only; omega)) rfl
              · have hx : ¬ x < 128 := by omega
                exact ⟨⟨k + 1, _, by omega, by omega, by go_num, congrArg (Value.int .u64) HS.out, hacc', (HG.out.trans (if_neg hx)).symm⟩, by simp [intOf]; omega⟩
      · have HE : Hid (gu l at_ = (0, 0, 11)) := gu_err l at_ 11 (by omega) (by
          rw [← hgus.out, List.drop_eq_nil_of_le (by omega)]
          rfl)
        go_wp2
        all_goals go_ret3
        all_goals exact ⟨by rw [HE.out]; rfl, rfl⟩
end Go.Proofs.Ytjcefnlidophoaa
namespace Go.Proofs.Ytjcefnlidophoaa
open Go.RowKit

set_option maxRecDepth 100000 in
set_option maxHeartbeats 400000 in
theorem getuint_bad (A : Option Addr) (n c : Nat) (at_ : Int) (w : World) (hat : at_ < 0 ∨ n < at_) :
    Calls Try.prog 157 #[.slice A n c, .int .i64 at_] w (GuPost (0, 0, 2) w) := by
  by_cases h : at_ < 0
  · go_enter Try.func157, Try.ntmps157
    go_wp2
    go_ret3
    exact ⟨rfl, rfl⟩
  · have h2 : (n : Int) < at_ := by omega
    go_enter Try.func157, Try.ntmps157
    go_wp2
    go_ret3
    exact ⟨rfl, rfl⟩

/-- The signed number of a varint's. -/
def un (n : Nat) : Int := if n % 2 = 0 then ((n / 2 : Nat) : Int) else -((n / 2 : Nat) : Int) - 1
theorem un_walk (x : Nat) (hx : x < 18446744073709551616) : bits BinOp.xor IntKind.i64 ((x : Int) / 2) (wrap64 (-wrap64 (bits BinOp.and IntKind.u64 (x : Int) 1))) = un x := by
  have e1 : bits BinOp.and IntKind.u64 (x : Int) 1 = ((x % 2 : Nat) : Int) := by
    have := u64_and_nat x 1 hx (by omega)
    rw [nat_mask1] at this
    exact this
  rw [e1]
  unfold un
  have hd : ((x : Int) / 2) = ((x / 2 : Nat) : Int) := by omega
  rcases Nat.mod_two_eq_zero_or_one x with h | h
  · rw [h, if_pos rfl]
    have e2 : wrap64 (-wrap64 ((0 : Nat) : Int)) = 0 := by unfold wrap64; decide
    rw [e2, hd]
    show IntKind.i64.wrap ((BitVec.ofInt 64 ((x / 2 : Nat) : Int) ^^^ BitVec.ofInt 64 0).toNat : Int) = _
    have h0 : BitVec.ofInt 64 0 = 0#64 := by decide
    rw [h0, BitVec.xor_zero, ofInt_u64 _ (by omega), IntKind.wrap_i64]
    omega
  · rw [h, if_neg (by omega)]
    have e2 : wrap64 (-wrap64 ((1 : Nat) : Int)) = -1 := by unfold wrap64; decide
    rw [e2, hd]
    show IntKind.i64.wrap ((BitVec.ofInt 64 ((x / 2 : Nat) : Int) ^^^ BitVec.ofInt 64 (-1)).toNat : Int) = _
    have h1 : BitVec.ofInt 64 (-1) = BitVec.allOnes 64 := by decide
    rw [h1, BitVec.xor_allOnes, BitVec.toNat_not, ofInt_u64 _ (by omega), IntKind.wrap_i64]
    omega
def GiPost (r : Nat × Nat × Nat) (w : World) (e : Ending) (w' : World) : Prop := e = .returned (.tuple #[.int .i64 (un r.1), .int .i64 (r.2.1 : Int), .int .i64 (r.2.2 : Int)]) ∧ w = w'

set_option maxHeartbeats 400000 in
theorem getint_any (A : Option Addr) (n c : Nat) (l : List Nat) (at_ : Nat) (w : World) (B : Nat) (hl : l.length = n) (ha : At w B A (bv l)) (hn : n ≤ 1099511627776) (h8 : ∀ x ∈ l, x < 256) (hat : at_ ≤ n) :
    Calls Try.prog 83 #[.slice A n c, .int .i64 (at_ : Int)] w (GiPost (gu l at_) w) := by
  obtain ⟨hu, h0⟩ : (gu l at_).1 < 18446744073709551616 ∧ ((gu l at_).2.2 ≠ 0 → (gu l at_).1 = 0 ∧ (gu l at_).2.1 = 0) := by
    have := gu_bounds l at_ (by omega)
    exact ⟨this.1, this.2.1⟩
  go_enter Try.func83, Try.ntmps83
  go_wp2_with fail
  refine (getuint_any A n c l at_ w B hl ha hn h8 hat).mono ?_
  rintro e w1 ⟨rfl, rfl⟩
  generalize gu l at_ = r at *
  obtain ⟨x, k, e⟩ := r
  dsimp only at *
  by_cases he : e = 0
  · subst he
    go_wp2
    go_ret3
    exact ⟨ret3 (congrArg (Value.int .i64) (un_walk x hu)) rfl rfl, rfl⟩
  · obtain ⟨rfl, rfl⟩ := h0 he
    have hz : ((e : Int) == 0) = false := by simp; omega
    have hz' : ((e : Int) != 0) = true := by simp; omega
    clear he h0
    go_wp2
    go_ret3
    exact ⟨ret3 (congrArg (Value.int .i64) (by simp [un])) rfl rfl, rfl⟩
end Go.Proofs.Ytjcefnlidophoaa
namespace Go.Proofs.Ytjcefnlidophoaa
open Go.RowKit

/-- GetBlob's answer at a place that may be. -/
def gb (l : List Nat) (at_ : Nat) (most : Int) : List Nat × Nat × Nat :=
  if (gu l at_).2.2 ≠ 0 then ([], 0, (gu l at_).2.2)
  else if most < 0 ∨ most < ((gu l at_).1 : Int) then ([], 0, 3)
  else if l.length - (gu l at_).2.1 < (gu l at_).1 then ([], 0, 11)
  else ((l.drop (gu l at_).2.1).take (gu l at_).1, (gu l at_).2.1 + (gu l at_).1, 0)
def GbPost (r : List Nat × Nat × Nat) (w : World) (e : Ending) (w' : World) : Prop := ∃ v, e = .returned (.tuple #[v, .int .i64 (r.2.1 : Int), .int .i64 (r.2.2 : Int)]) ∧ Own w' w.heap.size v r.1 ∧ Below w.heap.size w w'

theorem At.mid {w : World} {B : Nat} {A : Option Addr} {l : List Nat} (h : At w B A (bv l)) (k x : Nat) : At w B (A.map (·.add k)) (bv ((l.drop k).take x)) := by
  have := (h.cut k (l.length + k + 1) (by simp [bv_length]; omega)).take x
  rw [if_neg (by omega), ← bv_drop, ← bv_take] at this
  exact this
theorem At.past {w : World} {B : Nat} {A : Option Addr} {l : List Nat} {k x : Nat} (h : l.length ≤ k) : At w B A (bv ((l.drop k).take x)) := by
  rw [List.drop_eq_nil_of_le h, List.take_nil]
  exact At.nil _ _ _

set_option maxRecDepth 100000 in
set_option maxHeartbeats 1000000 in
theorem getblob_any (A : Option Addr) (n c : Nat) (l : List Nat) (at_ : Nat) (most : Int) (w : World) (B : Nat) (hl : l.length = n) (ha : At w B A (bv l)) (hB : B ≤ w.heap.size) (hc : n ≤ c) (hn : n ≤ 1099511627776) (h8 : ∀ x ∈ l, x < 256) (hat : at_ ≤ n)
    (hm : -9223372036854775808 ≤ most) (hm' : most ≤ 9223372036854775807) :
    Calls Try.prog 89 #[.slice A n c, .int .i64 (at_ : Int), .int .i64 most] w (GbPost (gb l at_ most) w) := by
  subst hl
  have HR : Hid (gb l at_ most = if (gu l at_).2.2 ≠ 0 then ([], 0, (gu l at_).2.2)
    else if most < 0 ∨ most < ((gu l at_).1 : Int) then ([], 0, 3)
    else if l.length - (gu l at_).2.1 < (gu l at_).1 then ([], 0, 11)
    else ((l.drop (gu l at_).2.1).take (gu l at_).1, (gu l at_).2.1 + (gu l at_).1, 0)) := rfl
  obtain ⟨hu, h0, h1⟩ := gu_bounds l at_ hat
  generalize gb l at_ most = R at *
  go_enter Try.func89, Try.ntmps89
  go_wp2_with fail
  refine (getuint_any A l.length c l at_ w B rfl ha hn h8 hat).mono ?_
  rintro e w1 ⟨rfl, rfl⟩
  generalize gu l at_ = r at *
  obtain ⟨x, k, e⟩ := r
  dsimp only at *
  by_cases he : e = 0
  · subst he
    obtain ⟨hk1, hk2⟩ := h1 rfl
    clear h0 h1
    by_cases hlong : most < 0 ∨ most < (x : Int)
    · have HF : Hid (R = ([], 0, 3)) := by rw [HR.out, if_neg (by simp), if_pos hlong]; rfl
      clear HR
      by_cases hneg : most < 0
      · clear hlong
        go_wp2
        go_ret3
        exact ⟨.slice none 0 0, by rw [HF.out]; rfl, by rw [HF.out]; exact Own.nil _ _, Below.refl _ _⟩
      · have hx : most < (x : Int) := by omega
        clear hlong
        go_wp2
        go_ret3
        exact ⟨.slice none 0 0, by rw [HF.out]; rfl, by rw [HF.out]; exact Own.nil _ _, Below.refl _ _⟩
    · have hm0 : 0 ≤ most := by omega
      have hx : (x : Int) ≤ most := by omega
      by_cases hs : l.length - k < x
      · have HF : Hid (R = ([], 0, 11)) := by rw [HR.out, if_neg (by simp), if_neg hlong, if_pos hs]; rfl
        clear HR hlong
        go_wp2
        go_ret3
        exact ⟨.slice none 0 0, by rw [HF.out]; rfl, by rw [HF.out]; exact Own.nil _ _, Below.refl _ _⟩
      · have HF : Hid (R = ((l.drop k).take x, k + x, 0)) := by rw [HR.out, if_neg (by simp), if_neg hlong, if_neg hs]; rfl
        have hx2 : (x : Int) ≤ (l.length : Int) - k := by omega
        clear HR hlong
        have hmid := ha.mid k x
        have hpast : c = k → At w B A (bv ((l.drop k).take x)) := fun _ => At.past (by omega)
        have hlen : ((l.drop k).take x).length = x := by simp; omega
        have HF := Lib.hid HF
        generalize (l.drop k).take x = ys at *
        have Hlen := Lib.hid hlen
        clear hlen
        by_cases hck : c = k
        · have hx0 : x = 0 := by omega
          have hp := hpast hck
          subst hx0
          clear hpast hmid
          go_wp2_with fail
          refine (own_any A 0 _ ys 0 w B Hlen.out hp (by omega) hB).mono ?_
          rintro e w2 ⟨v, rfl, hown, hb⟩
          go_wp2
          go_ret3
          exact ⟨v, by rw [HF.out.out]; exact ret3 rfl (congrArg (Value.int .i64) (by simp)) rfl, by rw [HF.out.out]; exact hown, hb⟩
        · clear hpast
          go_wp2_with fail
          refine (own_any (Option.map (fun x => x.add k) A) x (c - k) ys 0 w B Hlen.out hmid (by omega) hB).mono ?_
          rintro e w2 ⟨v, rfl, hown, hb⟩
          go_wp2
          go_ret3
          exact ⟨v, by rw [HF.out.out]; exact ret3 rfl (congrArg (Value.int .i64) (by simp)) rfl, by rw [HF.out.out]; exact hown, hb⟩
  · obtain ⟨rfl, rfl⟩ := h0 he
    have hz : ((e : Int) == 0) = false := by simp; omega
    have hz' : ((e : Int) != 0) = true := by simp; omega
    have HF : Hid (R = ([], 0, e)) := by rw [HR.out, if_pos he]; rfl
    clear he h0 HR h1
    go_wp2
    go_ret3
    exact ⟨.slice none 0 0, by rw [HF.out]; rfl, by rw [HF.out]; exact Own.nil _ _, Below.refl _ _⟩
end Go.Proofs.Ytjcefnlidophoaa
namespace Go.Proofs.Ytjcefnlidophoaa
open Go.RowKit

/-- The value v is a slice of bytes that reads as l in w. -/
def Bs (w : World) (v : Value) (l : List Nat) : Prop := (∃ A c, v = .slice A l.length c ∧ l.length ≤ c ∧ At w w.heap.size A (bv l)) ∧ (∀ x ∈ l, x < 256)

section
variable {w w' : World} {v : Value} {l : List Nat}
theorem Bs.below (h : Bs w v l) (hb : Below w.heap.size w w') : Bs w' v l := by
  obtain ⟨⟨A, c, e, hc, ha⟩, h8⟩ := h
  exact ⟨⟨A, c, e, hc, (ha.below hb).more hb.size⟩, h8⟩
theorem Bs.keep {B : Nat} (h : Bs w v l) (hb : Below B w w') (hB : w.heap.size ≤ B) : Bs w' v l := h.below (hb.mono hB)
theorem Bs.alloc (h : Bs w v l) (o : Obj) : Bs (w.alloc o) v l := h.below ((Below.refl _ _).alloc (Nat.le_refl _) o)
theorem Bs.drew (h : Bs w v l) : Bs w.drew v l := h
theorem Bs.drewN (h : Bs w v l) (k : Nat) : Bs (w.drewN k) v l := h
theorem Bs.nil (w : World) : Bs w (.slice none 0 0) [] := ⟨⟨none, 0, rfl, by simp, At.nil _ _ _⟩, by simp⟩
theorem Bs.of_own {base : Nat} (h : Own w base v l) (h8 : ∀ x ∈ l, x < 256) : Bs w v l := by
  obtain ⟨A, c, e, hc, _, ha, _⟩ := h.form
  exact ⟨⟨A, c, e, hc, ha⟩, h8⟩
theorem Bs.of_at {A : Option Addr} {n c : Nat} (ha : At w w.heap.size A (bv l)) (hl : l.length = n) (hc : n ≤ c) (h8 : ∀ x ∈ l, x < 256) : Bs w (.slice A n c) l := by
  subst hl
  exact ⟨⟨A, c, rfl, hc, ha⟩, h8⟩
theorem Bs.made' (w : World) (arr : Array Value) (t : TypeId) (l : List Nat) (n g : Nat) (hg : g = w.heap.size) (he : arr.toList = bv l) (hn : l.length = n) (h8 : ∀ x ∈ l, x < 256) (fr : Nat × Nat := (0, 0)) : Bs (w.alloc (.cells arr t fr)) (.slice (some ⟨g, 0, none⟩) n n) l := by
  subst hg
  refine Bs.of_at ?_ hn (Nat.le_refl _) h8
  have := At.made w arr t fr
  rw [he] at this
  simpa using this
theorem Bs.parts {A : Option Addr} {n c : Nat} (h : Bs w (.slice A n c) l) : l.length = n ∧ n ≤ c ∧ At w w.heap.size A (bv l) ∧ (∀ x ∈ l, x < 256) := by
  obtain ⟨⟨A', c', e, hc, ha⟩, h8⟩ := h
  injection e with e1 e2 e3
  subst e1
  subst e2
  subst e3
  exact ⟨rfl, hc, ha, h8⟩
/-- 's[:i]'. -/
theorem Bs.pre {A : Option Addr} {n c : Nat} (h : Bs w (.slice A n c) l) (i : Nat) (hi : i ≤ n) : Bs w (.slice A i c) (l.take i) := by
  obtain ⟨h1, h2, h3, h4⟩ := h.parts
  refine Bs.of_at ?_ (by simp; omega) (by omega) (fun x hx => h4 x (List.mem_of_mem_take hx))
  rw [bv_take]
  exact h3.take i
/-- What was just made of bytes. -/
theorem Bs.made (w : World) (arr : Array Value) (t : TypeId) (l : List Nat) (n : Nat) (he : arr.toList = bv l) (hn : l.length = n) (h8 : ∀ x ∈ l, x < 256) : Bs (w.alloc (.cells arr t)) (.slice (some ⟨w.heap.size, 0, none⟩) n n) l := by
  refine Bs.of_at ?_ hn (Nat.le_refl _) h8
  have := At.made w arr t
  rw [he] at this
  simpa using this
end

theorem uint_bs (v : Value) (l : List Nat) (x : Nat) (w : World) (h : Bs w v l) (hn : l.length ≤ 1099511627776) (hx : x < 18446744073709551616) :
    Calls Try.prog 78 #[v, .int .u64 (x : Int)] w fun e w' => ∃ v', e = .returned v' ∧ Own w' w.heap.size v' (l ++ varint x) ∧ Bs w' v' (l ++ varint x) ∧ Below w.heap.size w w' := by
  obtain ⟨⟨A, c, rfl, hc, ha⟩, h8⟩ := h
  refine (uint_any A _ c l x w _ rfl ha hn (Nat.le_refl _) hx).mono ?_
  rintro e w' ⟨v', rfl, ho, hb⟩
  refine ⟨v', rfl, ho, Bs.of_own ho ?_, hb⟩
  intro y hy
  rcases List.mem_append.1 hy with hy | hy
  · exact h8 y hy
  · exact varint_bytes x (by omega) y hy
theorem int_bs (v : Value) (l : List Nat) (m : Int) (w : World) (h : Bs w v l) (hn : l.length ≤ 1099511627776) (h0 : -9223372036854775808 ≤ m) (h1 : m ≤ 9223372036854775807) :
    Calls Try.prog 147 #[v, .int .i64 m] w fun e w' => ∃ v', e = .returned v' ∧ Own w' w.heap.size v' (l ++ varint (zz m)) ∧ Bs w' v' (l ++ varint (zz m)) ∧ Below w.heap.size w w' := by
  obtain ⟨⟨A, c, rfl, hc, ha⟩, h8⟩ := h
  refine (int_any A _ c l m w _ rfl ha hn (Nat.le_refl _) h0 h1).mono ?_
  rintro e w' ⟨v', rfl, ho, hb⟩
  refine ⟨v', rfl, ho, Bs.of_own ho ?_, hb⟩
  intro y hy
  rcases List.mem_append.1 hy with hy | hy
  · exact h8 y hy
  · exact varint_bytes (zz m) (zz_lt m h0 h1) y hy
theorem blob_bs (v : Value) (l : List Nat) (v' : Value) (l' : List Nat) (w : World) (h : Bs w v l) (h' : Bs w v' l') (hn : l.length ≤ 1099511627776) (hn' : l'.length ≤ 1099511627776) :
    Calls Try.prog 79 #[v, v'] w fun e w' => ∃ u, e = .returned u ∧ Own w' w.heap.size u (l ++ varint l'.length ++ l') ∧ Bs w' u (l ++ varint l'.length ++ l') ∧ Below w.heap.size w w' := by
  obtain ⟨⟨A, c, rfl, hc, ha⟩, h8⟩ := h
  obtain ⟨⟨A', c', rfl, hc', ha'⟩, h8'⟩ := h'
  refine (blob_any A _ c l A' _ c' l' w _ rfl ha hn rfl ha' hn' (Nat.le_refl _)).mono ?_
  rintro e w' ⟨u, rfl, ho, hb⟩
  refine ⟨u, rfl, ho, Bs.of_own ho ?_, hb⟩
  intro y hy
  rcases List.mem_append.1 hy with hy | hy
  · rcases List.mem_append.1 hy with hy | hy
    · exact h8 y hy
    · exact varint_bytes _ (by omega) y hy
  · exact h8' y hy
theorem getuint_bs (v : Value) (l : List Nat) (at_ : Nat) (w : World) (h : Bs w v l) (hn : l.length ≤ 1099511627776) (hat : at_ ≤ l.length) :
    Calls Try.prog 157 #[v, .int .i64 (at_ : Int)] w (GuPost (gu l at_) w) := by
  obtain ⟨⟨A, c, rfl, hc, ha⟩, h8⟩ := h
  exact getuint_any A _ c l at_ w _ rfl ha hn h8 hat
theorem getint_bs (v : Value) (l : List Nat) (at_ : Nat) (w : World) (h : Bs w v l) (hn : l.length ≤ 1099511627776) (hat : at_ ≤ l.length) :
    Calls Try.prog 83 #[v, .int .i64 (at_ : Int)] w (GiPost (gu l at_) w) := by
  obtain ⟨⟨A, c, rfl, hc, ha⟩, h8⟩ := h
  exact getint_any A _ c l at_ w _ rfl ha hn h8 hat
theorem gus_mem (r : List Nat) (l : List Nat) (at_ : Nat) (most : Int) (h8 : ∀ x ∈ l, x < 256) (h : (gb l at_ most).1 = r) : ∀ x ∈ r, x < 256 := by
  subst h
  intro x hx
  unfold gb at hx
  split at hx
  · simp at hx
  · split at hx
    · simp at hx
    · split at hx
      · simp at hx
      · exact h8 x (List.mem_of_mem_drop (List.mem_of_mem_take hx))
def GbsPost (r : List Nat × Nat × Nat) (w : World) (e : Ending) (w' : World) : Prop := ∃ v, e = .returned (.tuple #[v, .int .i64 (r.2.1 : Int), .int .i64 (r.2.2 : Int)]) ∧ Own w' w.heap.size v r.1 ∧ Bs w' v r.1 ∧ Below w.heap.size w w'
theorem getblob_bs (v : Value) (l : List Nat) (at_ : Nat) (most : Int) (w : World) (h : Bs w v l) (hn : l.length ≤ 1099511627776) (hat : at_ ≤ l.length) (hm : -9223372036854775808 ≤ most) (hm' : most ≤ 9223372036854775807) :
    Calls Try.prog 89 #[v, .int .i64 (at_ : Int), .int .i64 most] w (GbsPost (gb l at_ most) w) := by
  obtain ⟨⟨A, c, rfl, hc, ha⟩, h8⟩ := h
  refine (getblob_any A _ c l at_ most w _ rfl ha (Nat.le_refl _) hc hn h8 hat hm hm').mono ?_
  rintro e w' ⟨u, rfl, ho, hb⟩
  exact ⟨u, rfl, ho, Bs.of_own ho (gus_mem _ l at_ most h8 rfl), hb⟩
theorem crc_bs (v : Value) (l : List Nat) (w : World) (h : Bs w v l) (hn : l.length ≤ 1099511627776) :
    Calls Try.prog 153 #[v] w fun e w' => e = .returned (.int .u32 (crcN l : Nat)) ∧ w = w' := by
  obtain ⟨⟨A, c, rfl, hc, ha⟩, h8⟩ := h
  exact crc_any A _ c l w _ rfl ha hn h8
theorem be4_bytes (s : Nat) (hs : s < 4294967296) : ∀ x ∈ be4 s, x < 256 := by
  intro x hx
  simp [be4] at hx
  omega
theorem crcN_lt (l : List Nat) : crcN l < 4294967296 := by unfold crcN; omega
theorem seal_bs (v : Value) (l : List Nat) (w : World) (h : Bs w v l) (hn : l.length ≤ 1099511627776) :
    Calls Try.prog 76 #[v] w fun e w' => ∃ u, e = .returned u ∧ Own w' w.heap.size u (l ++ be4 (crcN l)) ∧ Bs w' u (l ++ be4 (crcN l)) ∧ Below w.heap.size w w' := by
  obtain ⟨⟨A, c, rfl, hc, ha⟩, h8⟩ := h
  refine (seal_any A _ c l w _ rfl ha (Nat.le_refl _) hn h8).mono ?_
  rintro e w' ⟨u, rfl, ho, hb⟩
  refine ⟨u, rfl, ho, Bs.of_own ho ?_, hb⟩
  intro y hy
  rcases List.mem_append.1 hy with hy | hy
  · exact h8 y hy
  · exact be4_bytes _ (crcN_lt l) y hy
def UssPost (r : List Nat × Nat) (w : World) (e : Ending) (w' : World) : Prop := ∃ v, e = .returned (.tuple #[v, .int .i64 (r.2 : Int)]) ∧ Own w' w.heap.size v r.1 ∧ Bs w' v r.1 ∧ Below w.heap.size w w'
theorem unseal_bs (v : Value) (l : List Nat) (w : World) (h : Bs w v l) (hn : l.length ≤ 1099511627776) :
    Calls Try.prog 156 #[v] w (UssPost (us l) w) := by
  obtain ⟨⟨A, c, rfl, hc, ha⟩, h8⟩ := h
  refine (unseal_any A _ c l w _ rfl ha (Nat.le_refl _) hc hn h8).mono ?_
  rintro e w' ⟨u, rfl, ho, hb⟩
  refine ⟨u, rfl, ho, Bs.of_own ho ?_, hb⟩
  intro y hy
  unfold us at hy
  split at hy
  · simp at hy
  · split at hy
    · exact h8 y (List.mem_of_mem_take hy)
    · simp at hy
theorem same_bs (v v' : Value) (l l' : List Nat) (r : Bool) (w : World) (h : Bs w v l) (h' : Bs w v' l') (hr : decide (l = l') = r) :
    Calls Try.prog 14 #[v, v'] w fun e w' => e = .returned (.bool r) ∧ w = w' := by
  obtain ⟨⟨A, c, rfl, hc, ha⟩, h8⟩ := h
  obtain ⟨⟨A', c', rfl, hc', ha'⟩, h8'⟩ := h'
  exact same_any A A' _ _ c c' l l' r w _ rfl rfl ha ha' h8 h8' hr
theorem copy_bs (v : Value) (l : List Nat) (w : World) (h : Bs w v l) (hn : l.length ≤ 1099511627776) :
    Calls Try.prog 24 #[v] w fun e w' => ∃ u, e = .returned u ∧ Own w' w.heap.size u l ∧ Bs w' u l ∧ Below w.heap.size w w' := by
  obtain ⟨⟨A, c, rfl, hc, ha⟩, h8⟩ := h
  refine (copy_any A _ c l w _ rfl ha hn).mono ?_
  rintro e w' ⟨u, rfl, ho, hb⟩
  exact ⟨u, rfl, ho, Bs.of_own ho h8, hb⟩
end Go.Proofs.Ytjcefnlidophoaa
namespace Go.Proofs.Ytjcefnlidophoaa
open Go.RowKit

/-- append onto a slice of bytes of the call's own, in a region that draws its order. -/
theorem step_app {w : World} {ops : Array Oper} {o : Oper} {a : Act} {K : Act → World → Prop} {Q : Exit → Act → World → Prop} {E : Prop} (hgd : o.guard = none) (s x : Operand)
    (ho : o.op = .call { callee := .builtin .append, args := #[s, x], argTypes := #[27, 27] })
    {base : Nat} {v : Value} {l : List Nat} (hs : a.eval s = v) (hown : Own w base v l) {B : Nat} {A : Option Addr} {m c : Nat} {news : List Nat} (hx : a.eval x = .slice A m c)
    (hr : At w B A (bv news)) (hm : news.length = m) (hn : l.length + m ≤ 8796093022208) (hbase : base ≤ w.heap.size)
    (h : ∀ v' w', Own w' base v' (l ++ news) → Below base w w' → K (a.put o.dst v') w') :
    if Region.wanted o (yielded ops a.tmps) = true then Oper.wp Try.prog o a w K Q else E := by
  have hw : Region.wanted o (yielded ops a.tmps) = true := by simp [Region.wanted, hgd]
  rw [if_pos hw]
  obtain ⟨i0, hi0, hz0, hz1, hz2⟩ := info_parts u8_info
  subst hm
  refine wp_append_at w s x 27 ho base 5 i0 _ 1 1 Try.underlying27 hi0 hz0 hz1 hz2 rfl (by omega) v l.length (bv l) hs hown B A news.length c (bv news) hx hr
    (by simp [bv]) (bv_one news) (by unfold maxLen; omega) (by omega) hbase ?_
  intro v' w' h1 h2 h3
  refine h v' w' ?_ ((Below.refl _ _).grown h2 hbase (fun k hk => (World.ownsRow.lt hown k hk).1))
  unfold Own
  rw [List.length_append, bv_append]
  exact h1
theorem of_drew {w w' : World} (h : Below w.drew.heap.size w.drew w') : Below w.heap.size w w' := ⟨h.os, h.tape, h.output, h.size, h.block⟩
theorem of_drewN {w w' : World} {k : Nat} (h : Below (w.drewN k).heap.size (w.drewN k) w') : Below w.heap.size w w' := ⟨h.os, h.tape, h.output, h.size, h.block⟩
theorem below_drewN {B : Nat} {a w : World} (h : Below B a w) (k : Nat) : Below B a (w.drewN k) := ⟨h.os, h.tape, h.output, h.size, h.block⟩
theorem Own.head {w : World} {base : Nat} {v : Value} {l : List Nat} (h : Own w base v l) (hn : l ≠ []) : ∃ g c, v = .slice (some ⟨g, 0, none⟩) l.length c ∧ base ≤ g ∧ l.length ≤ c := by
  rcases h.2 with ⟨_, h2⟩ | ⟨g, cap, cur, h1, h2, h3, h4, h5, _⟩
  · exact absurd (List.eq_nil_of_length_eq_zero h2) hn
  · exact ⟨g, cap, h1, h2, h4⟩
theorem Own.cellAt {w : World} {base g c : Nat} {l : List Nat} (h : Own w base (.slice (some ⟨g, 0, none⟩) l.length c) l) (j : Nat) (hj : j < l.length) : w.cell? ⟨g, j, none⟩ = some (.int .u8 ((l.getD j 0 : Nat) : Int)) := by
  rw [World.ownsRow.cellAt h j (by omega)]
  simp [bv, hj]
theorem Own.frozenAt {w : World} {base g n c : Nat} {l : List Nat} (h : Own w base (.slice (some ⟨g, 0, none⟩) n c) l) (j : Nat) (hn : l.length = n) : w.frozen? ⟨g, j, none⟩ = false := by
  subst hn
  exact World.ownsRow.frozenAt h j
theorem bv_set (l : List Nat) (j x : Nat) : bv (l.set j x) = (bv l).set j (.int .u8 (x : Int)) := by simp [bv]
theorem Own.stored {w : World} {base g c : Nat} {l : List Nat} (h : Own w base (.slice (some ⟨g, 0, none⟩) l.length c) l) (j x : Nat) :
    Own (w.setCell ⟨g, j, none⟩ (.int .u8 (x : Int))) base (.slice (some ⟨g, 0, none⟩) l.length c) (l.set j x) ∧ w.grownBy (w.setCell ⟨g, j, none⟩ (.int .u8 (x : Int))) (some g) := by
  have := World.ownsRow.stored h j (.int .u8 (x : Int))
  refine ⟨?_, this.2⟩
  unfold Own
  rw [List.length_set, bv_set]
  exact this.1

theorem un_zz (m : Int) : un (zz m) = m := by
  unfold un zz
  by_cases h : 0 ≤ m
  · rw [if_pos h, if_pos (by omega)]
    omega
  · rw [if_neg h, if_neg (by omega)]
    omega
/-- A number that was put among others. -/
theorem gu_at (p : List Nat) (n : Nat) (r : List Nat) (hn : n < 18446744073709551616) (at_ : Nat) (hat : at_ = p.length) : gu (p ++ varint n ++ r) at_ = (n, at_ + (varint n).length, 0) := by
  subst hat
  refine gu_ok _ _ n (varint n).length ?_
  rw [List.append_assoc, List.drop_left]
  exact gus_varint n hn r
/-- A blob that was put among others. -/
theorem gb_at (p l r : List Nat) (most : Int) (hm : (l.length : Int) ≤ most) (hl : l.length < 18446744073709551616) (at_ : Nat) (hat : at_ = p.length) :
    gb (p ++ varint l.length ++ l ++ r) at_ most = (l, at_ + (varint l.length).length + l.length, 0) := by
  have h := gu_at p l.length (l ++ r) hl at_ hat
  rw [show p ++ varint l.length ++ l ++ r = p ++ varint l.length ++ (l ++ r) by simp]
  unfold gb
  rw [h]
  dsimp only
  rw [if_neg (by simp), if_neg (by omega), if_neg (by simp; omega)]
  subst hat
  have e : (p ++ varint l.length ++ (l ++ r)).drop (p.length + (varint l.length).length) = l ++ r := by
    rw [← List.length_append, List.drop_left]
  rw [e, List.take_left]
/-- What is got of any bytes, put again, is the same bytes. -/
theorem gu_again (l : List Nat) (h8 : ∀ x ∈ l, x < 256) (n k : Nat) (h : gu l 0 = (n, k, 0)) : 1 ≤ k ∧ k ≤ l.length ∧ l.take k = varint n ∧ n < 18446744073709551616 := by
  have hb := gu_bounds l 0 (by omega)
  rw [h] at hb
  have h1 : gus 0 0 l = (n, k, 0) := by
    unfold gu at h
    rw [List.drop_zero] at h
    simp only [Prod.mk.injEq] at h
    obtain ⟨h2, h3, h4⟩ := h
    rw [if_pos h4] at h3
    have : gus 0 0 l = ((gus 0 0 l).1, (gus 0 0 l).2.1, (gus 0 0 l).2.2) := rfl
    rw [this, h2, h4, show (gus 0 0 l).2.1 = k by omega]
  have := gu_back l h8 n k h1
  exact ⟨this.1, this.2.1, this.2.2, hb.1⟩
/-- A sealed byte that is another one. -/
theorem us_turned (l : List Nat) (h8 : ∀ x ∈ l, x < 256) (j x : Nat) (hj : j < l.length + 4) (hx : x < 256) (hne : x ≠ (l ++ be4 (crcN l)).getD j 0) :
    us ((l ++ be4 (crcN l)).set j x) = ([], 12) := by
  have hs : crcN l < 4294967296 := by unfold crcN; omega
  have hlen : ((l ++ be4 (crcN l)).set j x).length = l.length + 4 := by simp [be4_length]
  unfold us
  rw [if_neg (by omega), hlen, show l.length + 4 - 4 = l.length by omega]
  refine if_neg ?_
  by_cases h : j < l.length
  · have e1 : ((l ++ be4 (crcN l)).set j x).drop l.length = be4 (crcN l) := by
      rw [List.set_append_left _ _ h]
      have : (l.set j x).length = l.length := by simp
      rw [← this, List.drop_left]
    have e2 : ((l ++ be4 (crcN l)).set j x).take l.length = l.set j x := by
      rw [List.set_append_left _ _ h]
      have : (l.set j x).length = l.length := by simp
      rw [← this, List.take_left]
    rw [e1, e2, beN_be4 _ hs]
    have hne' : x ≠ l.getD j 0 := by
      have e : (l ++ be4 (crcN l)).getD j 0 = l.getD j 0 := by simp only [List.getD, List.getElem?_append_left h]
      rw [e] at hne
      exact hne
    have hset8 : ∀ y ∈ l.set j x, y < 256 := by
      intro y hy
      rcases List.mem_or_eq_of_mem_set hy with h1 | h1
      · exact h8 y h1
      · omega
    refine crcN_burst l (l.set j x) j (l.length - j - 1) [l.getD j 0 ^^^ x] h8 hset8 (by simp) (by simp) ?_ ?_ (lxor_set l j x h)
    · intro y hy
      simp only [List.mem_singleton] at hy
      subst hy
      refine Nat.xor_lt_two_pow (n := 8) ?_ (by omega)
      have := h8 (l[j]) (List.getElem_mem h)
      simpa [h] using this
    · exact ⟨_, by simp, fun h0 => hne' (xor_eq_zero _ _ h0).symm⟩
  · have e1 : ((l ++ be4 (crcN l)).set j x).drop l.length = (be4 (crcN l)).set (j - l.length) x := by
      rw [List.set_append_right _ _ (by omega), List.drop_left]
    have e2 : ((l ++ be4 (crcN l)).set j x).take l.length = l := by
      rw [List.set_append_right _ _ (by omega), List.take_left]
    rw [e1, e2]
    have hne' : x ≠ (be4 (crcN l)).getD (j - l.length) 0 := by
      have e : (l ++ be4 (crcN l)).getD j 0 = (be4 (crcN l)).getD (j - l.length) 0 := by simp only [List.getD, List.getElem?_append_right (show l.length ≤ j by omega)]
      rw [e] at hne
      exact hne
    generalize crcN l = s at *
    have hj4 : j - l.length < 4 := by omega
    generalize j - l.length = i at *
    rcases i with _ | _ | _ | _ | i
    · simp [be4, beN] at hne' ⊢
      omega
    · simp [be4, beN] at hne' ⊢
      omega
    · simp [be4, beN] at hne' ⊢
      omega
    · simp [be4, beN] at hne' ⊢
      omega
    · omega
end Go.Proofs.Ytjcefnlidophoaa
