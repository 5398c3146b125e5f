/- drover/bytes.Seal, Unseal: the walks. -/
import Derived.Test.YtjhopajhcmkllaaCrc
import Derived.Test.YtjhopajhcmkllaaNum
namespace Go.Proofs.Ytjhopajhcmkllaa
open Go.RowKit

def be4 (s : Nat) : List Nat := [s / 16777216, s / 65536 % 256, s / 256 % 256, s % 256]

theorem At.be4 (w : World) (s : Nat) (t : TypeId) : At (w.alloc (.cells #[.int .u8 ((s : Int) / 16777216), .int .u8 ((s : Int) / 65536 % 256), .int .u8 ((s : Int) / 256 % 256), .int .u8 ((s : Int) % 256)] t)) (w.heap.size + 1) (some ⟨w.heap.size, 0, none⟩) (bv (be4 s)) := by
  have := At.made w #[.int .u8 ((s : Int) / 16777216), .int .u8 ((s : Int) / 65536 % 256), .int .u8 ((s : Int) / 256 % 256), .int .u8 ((s : Int) % 256)] t
  have e : bv (Go.Proofs.Ytjhopajhcmkllaa.be4 s) = [.int .u8 ((s : Int) / 16777216), .int .u8 ((s : Int) / 65536 % 256), .int .u8 ((s : Int) / 256 % 256), .int .u8 ((s : Int) % 256)] := by
    simp [bv, Go.Proofs.Ytjhopajhcmkllaa.be4]
  rw [e]
  exact this

set_option maxHeartbeats 400000 in
theorem seal_any (A : Option Addr) (n c : Nat) (l : List Nat) (w : World) (B : Nat) (hl : l.length = n) (ha : At w B A (bv l)) (hB : B ≤ w.heap.size) (hn : n ≤ 1099511627776) (h8 : ∀ x ∈ l, x < 256) :
    Calls Try.prog 76 #[.slice A n c] w fun e w' => ∃ v, e = .returned v ∧ Own w' w.heap.size v (l ++ be4 (crcN l)) ∧ Below w.heap.size w w' := by
  have hs : crcN l < 4294967296 := by unfold crcN; omega
  go_enter Try.func76, Try.ntmps76
  go_wp2_with fail
  refine (crc_any A n c l w B hl ha hn h8).mono ?_
  rintro e w1 ⟨rfl, rfl⟩
  generalize hs' : crcN l = s at *
  have HS := Lib.hid hs'
  clear hs'
  go_wp2_with fail
  refine (own_any A n c l 4 w B hl ha (by omega) hB).mono ?_
  rintro e w1 ⟨v1, rfl, hown1, hb1⟩
  go_wp2_with (at_builtin
               refine wpList_app rfl (.tmp 7) (.tmp 19) rfl rfl (hown1.alloc _) rfl (At.be4 w1 s _) rfl (by omega) (by simp; have := hb1.size; omega) ?_
               intro v2 w2 hown2 hb2 _ _)
  go_ret
  exact ⟨v2, rfl, by rw [HS.out]; exact hown2, (hb1.alloc hb1.size _).trans hb2⟩
/-- The number of bytes, the highest first. -/
def beN (l : List Nat) : Nat := l.foldl (fun a x => a * 256 + x) 0
theorem beN_lt (l : List Nat) (h8 : ∀ x ∈ l, x < 256) : beN l < 256 ^ l.length := by
  have all : ∀ (l : List Nat) (a : Nat), (∀ x ∈ l, x < 256) → l.foldl (fun a x => a * 256 + x) a < (a + 1) * 256 ^ l.length := by
    intro l
    induction l with
    | nil => intro a _; simp
    | cons x l ih =>
      intro a h
      have hx := h x (by simp)
      have := ih (a * 256 + x) (fun y hy => h y (List.mem_cons_of_mem _ hy))
      rw [List.foldl_cons, List.length_cons, Nat.pow_succ]
      refine Nat.lt_of_lt_of_le this ?_
      rw [Nat.mul_comm (256 ^ l.length) 256, ← Nat.mul_assoc]
      exact Nat.mul_le_mul_right _ (by omega)
  have := all l 0 h8
  simpa [beN] using this
theorem beN_step (l : List Nat) (k : Nat) (h : 4 ≤ l.length) (hk : k < 4) : beN ((l.drop (l.length - 4)).take (k + 1)) = beN ((l.drop (l.length - 4)).take k) * 256 + l.getD (l.length - 4 + k) 0 := by
  have h1 : k < (l.drop (l.length - 4)).length := by simp; omega
  rw [List.take_succ_eq_append_getElem h1]
  unfold beN
  rw [List.foldl_append]
  simp [show l.length - 4 + k < l.length by omega]
/-- Unseal's answer. -/
def us (l : List Nat) : List Nat × Nat := if l.length < 4 then ([], 11) else if beN (l.drop (l.length - 4)) = crcN (l.take (l.length - 4)) then (l.take (l.length - 4), 0) else ([], 12)
def UsPost (r : List Nat × Nat) (w : World) (e : Ending) (w' : World) : Prop := ∃ v, e = .returned (.tuple #[v, .int .i64 (r.2 : Int)]) ∧ Own w' w.heap.size v r.1 ∧ Below w.heap.size w w'

set_option maxHeartbeats 400000 in
theorem unseal_any (A : Option Addr) (n c : Nat) (l : List Nat) (w : World) (B : Nat) (hl : l.length = n) (ha : At w B A (bv l)) (hB : B ≤ w.heap.size) (hc : n ≤ c) (hn : n ≤ 1099511627776) (h8 : ∀ x ∈ l, x < 256) :
    Calls Try.prog 72 #[.slice A n c] w (UsPost (us l) w) := by
  subst hl
  by_cases h4 : l.length < 4
  · have HF : Hid (us l = ([], 11)) := if_pos h4
    generalize us l = R at *
    go_enter Try.func72, Try.ntmps72
    go_wp2
    go_ret2
    exact ⟨.slice none 0 0, by rw [HF.out]; rfl, by rw [HF.out]; exact Own.nil _ _, Below.refl _ _⟩
  · have h4' : 4 ≤ l.length := by omega
    have HR : Hid (us l = if beN (l.drop (l.length - 4)) = crcN (l.take (l.length - 4)) then (l.take (l.length - 4), 0) else ([], 12)) := if_neg h4
    generalize us l = R at *
    obtain ⟨b, o, rfl, hb, hcell⟩ := ha.byte (by intro h0; subst h0; simp at h4)
    have hat := ha.take (l.length - 4)
    rw [← bv_take] at hat
    go_enter Try.func72, Try.ntmps72
    go_wp2
    go_loop [5, 12] (fun t i => ∃ k : Nat, k ≤ 4 ∧ i = .int .i64 (k : Int) ∧ t = .int .u32 (beN ((l.drop (l.length - 4)).take k) : Nat)) (fun _ i => 4 - (intOf i).toNat)
    case atStart => exact ⟨0, by omega, rfl, by simp [beN]⟩
    case round =>
      obtain ⟨k, hk, rfl, rfl⟩ := hrel
      by_cases hk4 : k < 4
      · have hck := hcell (l.length - 4 + k) (by omega)
        have hx8 : l.getD (l.length - 4 + k) 0 < 256 := by
          have := h8 (l[l.length - 4 + k]) (List.getElem_mem (by omega))
          simpa [show l.length - 4 + k < l.length by omega] using this
        have HS := Lib.hid (beN_step l k (by omega) (by omega))
        have hlt := beN_lt ((l.drop (l.length - 4)).take k) (fun x hx => h8 x (List.mem_of_mem_drop (List.mem_of_mem_take hx)))
        have hlt' : beN ((l.drop (l.length - 4)).take k) < 16777216 := Nat.lt_of_lt_of_le hlt (by
          have : ((l.drop (l.length - 4)).take k).length ≤ 3 := by simp; omega
          exact Nat.pow_le_pow_right (n := 256) (by omega) this)
        clear hlt hcell h8 ha
        generalize l.getD (l.length - 4 + k) 0 = x at *
        generalize beN ((l.drop (l.length - 4)).take k) = t at *
        go_wp2
        go_round
        case rel =>
          refine ⟨k + 1, by omega, by go_num, congrArg (Value.int .u32) ?_⟩
          rw [HS.out]
          have h := u32_or_nat (t * 256) x (by omega) (by omega)
          rw [nat_join 8 (t * 256) x (by omega) (by omega)] at h
          exact h
        case measure => simp [intOf]; omega
      · obtain rfl : k = 4 := by omega
        have e4 : (l.drop (l.length - 4)).take 4 = l.drop (l.length - 4) := List.take_of_length_le (by simp; omega)
        rw [e4]
        clear e4 hcell
        have hsl : (l.take (l.length - 4)).length = l.length - 4 := by simp
        have hp8 : ∀ x ∈ l.take (l.length - 4), x < 256 := fun x hx => h8 x (List.mem_of_mem_take hx)
        generalize l.take (l.length - 4) = pre at *
        generalize beN (l.drop (l.length - 4)) = t at *
        have hpre8 : ∀ x ∈ pre, x < 256 := hp8
        go_wp2_with fail
        refine (crc_any _ (l.length - 4) c pre w B hsl hat (by omega) hpre8).mono ?_
        rintro e w1 ⟨rfl, rfl⟩
        have hs4 : crcN pre < 4294967296 := by unfold crcN; omega
        generalize crcN pre = s at *
        by_cases hts : t = s
        · subst hts
          have HF : Hid (R = (pre, 0)) := by rw [HR.out, if_pos rfl]; rfl
          have Hsl := Lib.hid hsl
          clear HR hsl
          go_wp2_with fail
          refine (own_any _ (l.length - 4) c pre 0 w B Hsl.out hat (by omega) hB).mono ?_
          rintro e w2 ⟨v, rfl, hown, hbw⟩
          go_wp2
          go_ret2
          exact ⟨v, by rw [HF.out]; rfl, by rw [HF.out]; exact hown, hbw⟩
        · have HF : Hid (R = ([], 12)) := by rw [HR.out, if_neg hts]; rfl
          have hne : ((t : Int) == (s : Int)) = false := by simp; omega
          have hne' : ((t : Int) != (s : Int)) = true := by simp; omega
          clear HR hts hsl
          go_wp2
          go_ret2
          exact ⟨.slice none 0 0, by rw [HF.out]; rfl, by rw [HF.out]; exact Own.nil _ _, Below.refl _ _⟩
end Go.Proofs.Ytjhopajhcmkllaa
