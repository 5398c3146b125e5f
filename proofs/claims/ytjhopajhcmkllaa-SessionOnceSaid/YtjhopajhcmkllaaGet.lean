/- drover/bytes.GetUint: the walk. -/
import Derived.Test.YtjhopajhcmkllaaOwn
import Derived.Test.YtjhopajhcmkllaaNum
import Derived.BigGuardPart
namespace Go.Proofs.Ytjhopajhcmkllaa
open Go.RowKit

theorem shl_walk (acc k x : Nat) (hacc : acc < 128 ^ k) (hx : x < 256) (hk : k ≤ 9) (h9 : k = 9 → x ≤ 1) :
    bits BinOp.or IntKind.u64 (acc : Int) (IntKind.u64.wrap (IntKind.u64.wrap (bits BinOp.and IntKind.u8 (x : Int) 127) * 2 ^ (7 * k))) = ((acc + x % 128 * 128 ^ k : Nat) : Int) := by
  have e1 : bits BinOp.and IntKind.u8 (x : Int) 127 = ((x % 128 : Nat) : Int) := by
    have := u8_and_nat x 127 hx (by omega)
    rw [nat_mask7] at this
    exact this
  have e2 : IntKind.u64.wrap ((x % 128 : Nat) : Int) = ((x % 128 : Nat) : Int) := by rw [IntKind.wrap_u64]; omega
  have hp : (2 : Nat) ^ (7 * k) = 128 ^ k := by rw [Nat.pow_mul]
  have e3 : (((x % 128 : Nat) : Int) * 2 ^ (7 * k)) = ((x % 128 * 128 ^ k : Nat) : Int) := by
    rw [← hp]
    simp
  have hlt : x % 128 * 128 ^ k < 18446744073709551616 ∧ acc < 18446744073709551616 := by
    have hm : (128 : Nat) ^ k ≤ 128 ^ 9 := Nat.pow_le_pow_right (by omega) hk
    by_cases h : k = 9
    · have := h9 h
      subst h
      refine ⟨?_, by omega⟩
      have := Nat.mul_le_mul_right (128 ^ 9) (show x % 128 ≤ 1 by omega)
      omega
    · have hm : (128 : Nat) ^ k ≤ 128 ^ 8 := Nat.pow_le_pow_right (by omega) (by omega)
      have := Nat.mul_le_mul (show x % 128 ≤ 127 by omega) hm
      exact ⟨by omega, by omega⟩
  have e4 : IntKind.u64.wrap ((x % 128 * 128 ^ k : Nat) : Int) = ((x % 128 * 128 ^ k : Nat) : Int) := by rw [IntKind.wrap_u64]; omega
  rw [e1, e2, e3, e4, u64_or_nat _ _ hlt.2 hlt.1]
  have := nat_join (7 * k) (x % 128 * 128 ^ k) acc (by rw [hp]; exact Nat.mul_mod_left _ _) (by rw [hp]; exact hacc)
  rw [Nat.or_comm, this, Nat.add_comm]

theorem shl_last (acc : Nat) (hacc : acc < 128 ^ 9) : bits BinOp.or IntKind.u64 (acc : Int) (bits BinOp.and IntKind.u8 1 127 * 9223372036854775808) = ((acc + 1 % 128 * 128 ^ 9 : Nat) : Int) := by
  have h := shl_walk acc 9 1 hacc (by omega) (by omega) (by omega)
  rw [← h]
  congr 1
theorem ret3 {a b c a' b' c' : Value} (h1 : a = a') (h2 : b = b') (h3 : c = c') : Ending.returned (.tuple #[a, b, c]) = Ending.returned (.tuple #[a', b', c']) := by
  rw [h1, h2, h3]

def GuPost (r : Nat × Nat × Nat) (w : World) (e : Ending) (w' : World) : Prop := e = .returned (.tuple #[.int .u64 (r.1 : Int), .int .i64 (r.2.1 : Int), .int .i64 (r.2.2 : Int)]) ∧ w = w'

set_option maxRecDepth 100000 in
set_option maxHeartbeats 1000000 in
theorem getuint_any (A : Option Addr) (n c : Nat) (l : List Nat) (at_ : Nat) (w : World) (B : Nat) (hl : l.length = n) (ha : At w B A (bv l)) (hn : n ≤ 1099511627776) (h8 : ∀ x ∈ l, x < 256) (hat : at_ ≤ n) :
    Calls Try.prog 73 #[.slice A n c, .int .i64 (at_ : Int)] w (GuPost (gu l at_) w) := by
  subst hl
  have hlt : decide ((l.length : Int) < (at_ : Int)) = false := by simp; omega
  go_enter Try.func73, Try.ntmps73
  go_wp2
  all_goals
    go_loop [7, 23] (fun nn i => ∃ (k acc : Nat), k ≤ 9 ∧ at_ + k ≤ l.length ∧ i = .int .i64 (k : Int) ∧ nn = .int .u64 (acc : Int) ∧ acc < 128 ^ k ∧ Hid (gus k acc (l.drop (at_ + k)) = gus 0 0 (l.drop at_))) (fun _ i => 10 - (intOf i).toNat)
    case atStart => exact ⟨0, 0, by omega, by omega, rfl, rfl, by simp, by simp [Hid]⟩
    case round =>
      obtain ⟨k, acc, hk9, hkl, rfl, rfl, hacc, hgus⟩ := hrel
      by_cases hlt : at_ + k < l.length
      · have hne : l ≠ [] := by intro h0; subst h0; simp at hlt
        obtain ⟨b, o, rfl, hb, hc⟩ := ha.byte hne
        have hck := hc (at_ + k) hlt
        have hx8 : l.getD (at_ + k) 0 < 256 := by
          have := h8 (l[at_ + k]) (List.getElem_mem hlt)
          simpa [hlt] using this
        have HD := Lib.hid (gus_drop l (at_ + k) k acc hlt)
        generalize l.getD (at_ + k) 0 = x at *
        clear hc ha h8
        have hkt : decide ((k : Int) < 10) = true := by simp; omega
        by_cases hbad : (0 < k ∧ x = 0) ∨ (k = 9 ∧ 1 < x)
        · have HF : Hid (gu l at_ = (0, 0, 10)) := gu_err l at_ 10 (by omega) (by rw [← hgus.out, HD.out, if_pos hbad])
          by_cases hx0 : x = 0
          · have hk1 : 0 < k := by omega
            subst hx0
            clear hbad
            go_wp2
            go_ret3
            exact ⟨by rw [HF.out]; rfl, rfl⟩
          · obtain ⟨rfl, hx1⟩ : k = 9 ∧ 1 < x := by omega
            have hx2 : ((x : Int) == 0) = false := by simp; omega
            have hx3 : (1 : Int) < x := by omega
            clear hbad hx0 hx1
            go_wp2
            go_ret3
            exact ⟨by rw [HF.out]; rfl, rfl⟩
        · have HS := Lib.hid (shl_walk acc k x hacc hx8 hk9 (by omega))
          have hacc' := acc_step acc k x hacc
          have HG : Hid (gus 0 0 (l.drop at_) = if x < 128 then (acc + x % 128 * 128 ^ k, k + 1, 0) else gus (k + 1) (acc + x % 128 * 128 ^ k) (l.drop (at_ + k + 1))) := by rw [← hgus.out, HD.out, if_neg hbad]; rfl
          have h9 : k = 9 → x ≤ 1 := by omega
          by_cases hk0 : k = 0
          · have hk1 : decide (0 < k) = false := by simp; omega
            have hk2 : ((k : Int) == 9) = false := by simp; omega
            have hk8 : k ≤ 8 := by omega
            clear hk0 hbad
            go_wp2
            · go_ret3
              have hx : x < 128 := by omega
              refine ⟨?_, rfl⟩
              rw [gu_ok l at_ _ _ (HG.out.trans (if_pos hx))]
              exact ret3 (congrArg (Value.int .u64) HS.out) (congrArg (Value.int .i64) (by dsimp only; omega)) rfl
            · have hx : ¬ x < 128 := by omega
              exact ⟨⟨k + 1, _, by omega, by omega, by go_num, congrArg (Value.int .u64) HS.out, hacc', (HG.out.trans (if_neg hx)).symm⟩, by simp [intOf]; omega⟩
          · have hk1 : 0 < k := by omega
            have hx2 : ((x : Int) == 0) = false := by simp; omega
            by_cases hk9' : k = 9
            · obtain rfl : x = 1 := by omega
              subst hk9'
              clear hk0 hbad h9
              go_wp2
              go_ret3
              refine ⟨?_, rfl⟩
              rw [gu_ok l at_ _ _ (HG.out.trans (if_pos (by omega)))]
              exact ret3 (congrArg (Value.int .u64) (shl_last acc hacc)) (congrArg (Value.int .i64) (by dsimp only; omega)) rfl
            · have hk2 : ((k : Int) == 9) = false := by simp; omega
              have hk8 : k ≤ 8 := by omega
              clear hk9' hk0 hbad
              go_wp2
              · go_ret3
                have hx : x < 128 := by omega
                refine ⟨?_, rfl⟩
                rw [gu_ok l at_ _ _ (HG.out.trans (if_pos hx))]
                exact ret3 (congrArg (Value.int .u64) HS.out) (congrArg (Value.int .i64) (by dsimp only; omega)) rfl
              · have hx : ¬ x < 128 := by omega
                exact ⟨⟨k + 1, _, by omega, by omega, by go_num, congrArg (Value.int .u64) HS.out, hacc', (HG.out.trans (if_neg hx)).symm⟩, by simp [intOf]; omega⟩
      · have HE : Hid (gu l at_ = (0, 0, 11)) := gu_err l at_ 11 (by omega) (by
          rw [← hgus.out, List.drop_eq_nil_of_le (by omega)]
          rfl)
        go_wp2
        all_goals go_ret3
        all_goals exact ⟨by rw [HE.out]; rfl, rfl⟩
end Go.Proofs.Ytjhopajhcmkllaa
