/- drover/droverref01.Crc, Seal: the walks. -/
import Derived.Test.YtcmopnkldplngaaBs
namespace Go.Proofs.Ytcmopnkldplngaa
open Go.RowKit

theorem crc1_odd (r : Nat) (h : r % 2 = 1) : crc1 r = (r / 2) ^^^ 3988292384 := by
  unfold crc1
  rw [if_pos h]
theorem crc1_even (r : Nat) (h : r % 2 ≠ 1) : crc1 r = r / 2 := by
  unfold crc1
  rw [if_neg h, Nat.xor_zero]
set_option maxHeartbeats 800000 in
theorem refcrc_any (A : Option Addr) (n c : Nat) (l : List Nat) (w : World) (B : Nat) (hl : l.length = n) (ha : At w B A (bv l)) (hn : n ≤ 1099511627776) (h8 : ∀ x ∈ l, x < 256) :
    Calls Try.prog 19 #[.slice A n c] w fun e w' => e = .returned (.int .u32 (crcN l : Nat)) ∧ w = w' := by
  subst hl
  go_enter Try.func19, Try.ntmps19
  go_wp2
  go_loop [3, 4] (fun x i => ∃ k : Nat, k ≤ l.length ∧ i = .int .i64 k ∧ x = .int .u32 (crcS 4294967295 (l.take k) : Nat)) (fun _ i => l.length - (intOf i).toNat)
  case atStart => exact ⟨0, Nat.zero_le _, rfl, rfl⟩
  case round =>
    obtain ⟨k, hk, rfl, rfl⟩ := hrel
    by_cases hlt : k < l.length
    · obtain ⟨b, o, rfl, hb, hc⟩ := ha.byte (by intro h0; subst h0; simp at hlt)
      have hck := hc k hlt
      have hb1 : l.getD k 0 < 256 := by
        have := h8 (l[k]) (List.getElem_mem hlt)
        simpa [hlt] using this
      have hs : crcS 4294967295 (l.take k) < 4294967296 := crcS_lt _ (fun x hx => h8 x (List.mem_of_mem_take hx)) _ (by omega)
      have H : Hid (crcS 4294967295 (l.take (k + 1)) = crcB (crcS 4294967295 (l.take k)) (l.getD k 0)) := crcS_snoc _ _ _ hlt
      generalize crcS 4294967295 (l.take k) = s at *
      generalize l.getD k 0 = x at *
      clear hc h8 ha
      go_wp2
      go_loop [3, 5] (fun y i => ∃ j : Nat, j ≤ 8 ∧ i = .int .i64 j ∧ y = .int .u32 (crcK j (s ^^^ x) : Nat)) (fun _ i => 8 - (intOf i).toNat)
      case atStart => exact ⟨0, by omega, rfl, congrArg (Value.int .u32) (u32_xor_nat s x hs (by omega))⟩
      case round =>
        obtain ⟨j, hj, rfl, rfl⟩ := hrel
        have hr := crcK_lt j (c := s ^^^ x) (Nat.xor_lt_two_pow (n := 32) hs (by omega))
        have H2 : Hid (crcK (j + 1) (s ^^^ x) = crc1 (crcK j (s ^^^ x))) := rfl
        have H3 : Hid (j = 8 → crcB s x = crcK j (s ^^^ x)) := fun h => by subst h; rfl
        generalize crcK j (s ^^^ x) = r at *
        by_cases hj8 : j < 8
        · by_cases hr2 : r % 2 = 1
          · have H4 := Lib.hid (crc1_odd r hr2)
            have g1 : ((r : Int) % 2 == 1) = true := by rw [beq_iff_eq]; omega
            go_wp2
            go_round
            case rel =>
              refine ⟨j + 1, by omega, by go_num, congrArg (Value.int .u32) ?_⟩
              rw [H2.out, H4.out]
              exact u32_xor_nat (r / 2) 3988292384 (by omega) (by omega)
            case measure => simp [intOf]; omega
          · have H4 := Lib.hid (crc1_even r hr2)
            have g1 : ((r : Int) % 2 == 1) = false := by rw [beq_eq_false_iff_ne]; omega
            go_wp2
            go_round
            case rel =>
              refine ⟨j + 1, by omega, by go_num, congrArg (Value.int .u32) ?_⟩
              rw [H2.out, H4.out]
              omega
            case measure => simp [intOf]; omega
        · go_wp2
          go_round
          case rel =>
            exact ⟨k + 1, by omega, by go_num, congrArg (Value.int .u32) (by rw [H.out, H3.out (by omega)])⟩
          case measure => simp [intOf]; omega
    · go_wp2
      go_ret
      have hs : crcS 4294967295 (l.take k) < 4294967296 := crcS_lt _ (fun x hx => h8 x (List.mem_of_mem_take hx)) _ (by omega)
      have e : l.take k = l := List.take_of_length_le (by omega)
      rw [e] at hs ⊢
      refine ⟨congrArg Ending.returned (congrArg (Value.int .u32) ?_), rfl⟩
      unfold crcN
      omega
end Go.Proofs.Ytcmopnkldplngaa
