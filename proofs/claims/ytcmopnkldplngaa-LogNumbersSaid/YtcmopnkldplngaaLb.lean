/- drover/log.number, putNumber, record, first: the walks. -/
import Derived.Test.YtcmopnkldplngaaBs
import Derived.Test.YtcmopnkldplngaaLa
import Derived.BigQuiet
import Derived.Deep.QuietTactic
namespace Go.Proofs.Ytcmopnkldplngaa
open Go.RowKit

theorem beN_take (l : List Nat) (k : Nat) (h : k < l.length) : beN (l.take (k + 1)) = beN (l.take k) * 256 + l.getD k 0 := by
  rw [List.take_succ_eq_append_getElem h]
  unfold beN
  rw [List.foldl_append]
  simp [h]
theorem Bs.drop {w : World} {A : Option Addr} {n c : Nat} {l : List Nat} (h : Bs w (.slice A n c) l) (k : Nat) (hk : k ≤ n) : Bs w (.slice (if c = k then A else A.map (·.add k)) (n - k) (c - k)) (l.drop k) := by
  obtain ⟨h1, h2, h3, h4⟩ := h.parts
  refine Bs.of_at ?_ (by simp; omega) (by omega) (fun x hx => h4 x (List.mem_of_mem_drop hx))
  rw [bv_drop]
  exact h3.cut k c (by rw [bv_length]; omega)
set_option maxHeartbeats 400000 in
theorem number_any (v : Value) (l : List Nat) (w : World) (h : Bs w v l) (h4 : 4 ≤ l.length) :
    Calls Try.prog 40 #[v] w fun e w' => e = .returned (.int .u32 (beN (l.take 4) : Nat)) ∧ w = w' := by
  obtain ⟨⟨A, c, rfl, hc, ha⟩, h8⟩ := h
  obtain ⟨b, o, rfl, hb, hcell⟩ := ha.byte (by intro h0; subst h0; simp at h4)
  clear ha
  go_enter Try.func40, Try.ntmps40
  go_wp2_with fail
  go_loop [3, 9] (fun t i => ∃ k : Nat, k ≤ 4 ∧ i = .int .i64 (k : Int) ∧ t = .int .u32 (beN (l.take k) : Nat)) (fun _ i => 4 - (intOf i).toNat)
  case atStart => exact ⟨0, by omega, rfl, by simp [beN]⟩
  case round =>
    obtain ⟨k, hk, rfl, rfl⟩ := hrel
    by_cases hk4 : k < 4
    · have hck := hcell k (by omega)
      have hx8 : l.getD k 0 < 256 := by
        have := h8 (l[k]) (List.getElem_mem (by omega))
        simpa [show k < l.length by omega] using this
      have HS := Lib.hid (beN_take l k (by omega))
      have hlt := beN_lt (l.take k) (fun x hx => h8 x (List.mem_of_mem_take hx))
      have hlt' : beN (l.take k) < 16777216 := Nat.lt_of_lt_of_le hlt (by
        have : (l.take k).length ≤ 3 := by simp; omega
        exact Nat.pow_le_pow_right (n := 256) (by omega) this)
      clear hlt hcell h8
      generalize l.getD k 0 = x at *
      generalize beN (l.take k) = t at *
      go_wp2
      go_round
      case rel =>
        refine ⟨k + 1, by omega, by go_num, congrArg (Value.int .u32) ?_⟩
        rw [HS.out]
        have h := u32_or_nat (t * 256) x (by omega) (by omega)
        rw [nat_join 8 (t * 256) x (by omega) (by omega)] at h
        exact h
      case measure => simp [intOf]; omega
    · obtain rfl : k = 4 := by omega
      go_wp2
      go_ret
      exact ⟨rfl, rfl⟩
theorem putNumber_any (base : Nat) (v : Value) (l : List Nat) (s : Nat) (w : World) (h : Own w base v l) (hl : l.length ≤ 1099511627776) (hbase : base ≤ w.heap.size) (hs : s < 4294967296) :
    Calls Try.prog 37 #[v, .int .u32 (s : Int)] w fun e w' => ∃ u, e = .returned u ∧ Own w' base u (l ++ be4 s) ∧ Below base w w' := by
  go_enter Try.func37, Try.ntmps37
  go_wp2_with (at_builtin
               refine wpList_app rfl (.tmp 5) (.tmp 17) rfl rfl (h.alloc _) rfl (At.be4 w s _) rfl (by omega) (by simp; omega) ?_
               intro v2 w2 hown2 hb2 _ _)
  go_ret
  exact ⟨v2, rfl, hown2, ((Below.refl base w).alloc hbase _).trans hb2⟩
set_option maxHeartbeats 800000 in
theorem record_any (v : Value) (x : List Nat) (w : World) (h : Bs w v x) (hx : lgood x) :
    Calls Try.prog 28 #[v] w fun e w' => ∃ u, e = .returned u ∧ Own w' w.heap.size u (lrec x) ∧ Below w.heap.size w w' := by
  have hv := Lib.hid h
  obtain ⟨⟨A, c, rfl, hc, ha⟩, h8⟩ := h
  have hl := hx.2.1
  have hs := crcN_lt x
  have he : Hid (lrec x = [] ++ be4 x.length ++ be4 (crcN x) ++ x) := rfl
  obtain ⟨i0, hi0, hz0, hz1, hz2⟩ := info_parts u8_info
  have hwr : IntKind.u32.wrap (x.length : Int) = (x.length : Int) := by rw [show IntKind.u32.wrap (x.length : Int) = (x.length : Int) % 4294967296 from rfl]; omega
  have hwi : IntKind.i64.wrap (8 + (x.length : Int)) = ((8 + x.length : Nat) : Int) := by rw [IntKind.wrap_i64]; omega
  have hcr := Lib.hid (fun w' hb => crc_bs _ x w' (hv.out.below hb) (by omega))
  generalize hs' : crcN x = s at *
  clear hs'
  go_enter Try.func28, Try.ntmps28
  go_wp2_with (first
    | (at_make
       refine wpList_make_own _ rfl _ _ 22 rfl w.heap.size 5 i0 _ 1 Try.underlying22 hi0 hz0 hz1 .i64 .i64 _ (8 + x.length) rfl rfl (by omega) (by rw [hz2]; omega) (by unfold maxLen; omega) (Nat.le_refl _) ?_
       intro w1 hown1 hg1
       have hown1 : Own w1 w.heap.size _ [] := hown1
       have hb1 : Below w.heap.size w w1 := (Below.refl _ _).grown hg1 (Nat.le_refl _) (by simp)
       clear hg1)
    | (fail))
  refine (putNumber_any w.heap.size _ [] x.length w1 hown1 (by simp) hb1.size (by omega)).mono ?_
  rintro e w2 ⟨u2, rfl, ho2, hb2⟩
  have hb2 := hb1.trans hb2
  clear hown1 hb1
  go_wp2_with fail
  refine (hcr.out w2 hb2).mono ?_
  rintro e wx ⟨rfl, rfl⟩
  go_wp2_with fail
  refine (putNumber_any w.heap.size _ _ s w2 ho2 (by simp [be4_length]) hb2.size hs).mono ?_
  rintro e w3 ⟨u3, rfl, ho3, hb3⟩
  have hb3 := hb2.trans hb3
  have ha3 := ha.below hb3
  clear ho2 hb2 ha
  go_wp2_with (at_builtin
               refine wpList_app rfl (.tmp 17) (.tmp 18) rfl rfl ho3 rfl ha3 rfl (by simp [be4_length]; omega) hb3.size ?_
               intro v4 w4 hown4 hb4 _ _)
  go_ret
  rw [he.out]
  exact ⟨v4, rfl, hown4, hb3.trans hb4⟩
end Go.Proofs.Ytcmopnkldplngaa
