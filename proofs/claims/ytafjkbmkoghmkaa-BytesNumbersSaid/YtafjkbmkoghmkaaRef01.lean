/- droverref01.Varint, Uint, Int: the walks of the document's answer. -/
import Derived.Test.YtafjkbmkoghmkaaBs
namespace Go.Proofs.Ytafjkbmkoghmkaa
open Go.RowKit

theorem vi_step (f m : Nat) (h : 128 ≤ m) : vi (f + 1) m = (m % 128 + 128) :: vi f (m / 128) := by
  show (if m < 128 then [m] else (m % 128 + 128) :: vi f (m / 128)) = _
  rw [if_neg (by omega)]
theorem vi_last (f m : Nat) (h : m < 128) : vi f m = [m] := by
  rcases f with _ | f
  · rfl
  · show (if m < 128 then [m] else (m % 128 + 128) :: vi f (m / 128)) = _
    rw [if_pos h]

set_option maxRecDepth 20000 in
set_option maxHeartbeats 400000 in
theorem refvarint_any (n : Nat) (w : World) (hn : n < 18446744073709551616) :
    Calls Try.prog 29 #[.int .u64 (n : Int)] w fun e w' => ∃ v, e = .returned v ∧ Own w' w.heap.size v (varint n) ∧ Bs w' v (varint n) ∧ Below w.heap.size w w' := by
  have h8 := varint_bytes n (by omega)
  have H8 := Lib.hid h8
  go_enter Try.func29, Try.ntmps29
  go_wp2
  go_loopw [0, 3] (fun nn v wr => ∃ (f m : Nat) (done : List Nat), nn = .int .u64 (m : Int) ∧ m < 18446744073709551616 ∧ m < 128 ^ (f + 1) ∧ f ≤ 9 ∧ done.length + f ≤ 9 ∧ Own wr w.heap.size v done ∧ Below w.heap.size w wr ∧ Hid (done ++ vi f m = varint n)) (fun nn _ _ => (intOf nn).toNat)
  case atStart => exact ⟨9, n, [], rfl, hn, by omega, by omega, by simp, Own.nil _ _, Below.refl _ _, rfl⟩
  case round =>
    obtain ⟨f, m, done, rfl, hm, hmf, hf, hdl, hown, hbw, hdone⟩ := hrel
    by_cases h : 128 ≤ m
    · obtain ⟨f, rfl⟩ : ∃ f', f = f' + 1 := by
        rcases f with _ | f
        · omega
        · exact ⟨f, rfl⟩
      have hst := vi_step f m h
      have HS := Lib.hid hst
      have hdiv : m / 128 < 128 ^ (f + 1) := by
        rw [Nat.pow_succ] at hmf
        omega
      have HD := Lib.hid hdiv
      have hlt : (128 : Int) ≤ (m : Int) := by omega
      clear hst hmf hdiv
      go_wp2_with (at_builtin
                   refine wpList_app rfl (.tmp 6) (.tmp 11) rfl rfl (hown.alloc _) rfl (At.one _ _ _ (m % 128 + 128) (by omega)) rfl (by omega) (by simp; have := hbw.size; omega) ?_
                   intro v2 w2 hown2 hb2 _ _)
      go_roundw
      case rel => exact ⟨f, m / 128, done ++ [m % 128 + 128], by simp, by omega, HD.out, by omega, by simp; omega, hown2, (hbw.alloc hbw.size _).trans hb2, by show _ = _; rw [← hdone.out, HS.out]; simp⟩
      case measure => simp [intOf]; omega
    · have hl := vi_last f m (by omega)
      have HL := Lib.hid hl
      have hlt : (m : Int) < 128 := by omega
      clear hl hmf hm hn h8
      go_wp2_with (at_builtin
                   refine wpList_app rfl (.tmp 15) (.tmp 18) rfl rfl (hown.alloc _) rfl (At.one _ _ _ m (by omega)) rfl (by omega) (by simp; have := hbw.size; omega) ?_
                   intro v2 w2 hown2 hb2 _ _)
      go_ret
      have e : done ++ [m] = varint n := by rw [← hdone.out, HL.out]
      rw [e] at hown2
      exact ⟨v2, rfl, hown2, Bs.of_own hown2 H8.out, (hbw.alloc hbw.size _).trans hb2⟩

set_option maxHeartbeats 1000000 in
theorem refuint_bs (v : Value) (l : List Nat) (x : Nat) (w : World) (h : Bs w v l) (hn : l.length ≤ 1099511627776) (hx : x < 18446744073709551616) :
    Calls Try.prog 26 #[v, .int .u64 (x : Int)] w fun e w' => ∃ v', e = .returned v' ∧ Own w' w.heap.size v' (l ++ varint x) ∧ Bs w' v' (l ++ varint x) ∧ Below w.heap.size w w' := by
  obtain ⟨⟨A, c, rfl, hc, ha⟩, h8⟩ := h
  have hvl := varint_length x
  have hv8 := varint_bytes x (by omega)
  go_enter Try.func26, Try.ntmps26
  go_wp2_with (at_builtin
               refine wpList_app rfl (.tmp 6) (.tmp 7) rfl rfl (Own.nil w w.heap.size) rfl ha rfl (by simp; omega) (Nat.le_refl _) ?_
               intro v2 w2 hown2 hb2 _ _)
  refine (refvarint_any x _ hx).mono ?_
  rintro e w3 ⟨v3, rfl, ho3, hv3, hb3⟩
  obtain ⟨⟨A3, c3, rfl, hc3, ha3⟩, _⟩ := hv3
  go_wp2_with (at_builtin
               refine wpList_app rfl (.tmp 9) (.tmp 11) rfl rfl (hown2.below hb3 (Nat.le_refl _)) rfl ha3 rfl (by simp; omega) (nxt hb2 hb3).size ?_
               intro v4 w4 hown4 hb4 _ _)
  go_ret
  rw [List.nil_append] at hown4
  refine ⟨v4, rfl, hown4, Bs.of_own hown4 (fun b hb => (List.mem_append.1 hb).elim (h8 b) (hv8 b)), (nxt hb2 hb3).trans hb4⟩

set_option maxHeartbeats 1000000 in
theorem refint_bs (v : Value) (l : List Nat) (m : Int) (w : World) (h : Bs w v l) (hn : l.length ≤ 1099511627776) (h0 : -9223372036854775808 ≤ m) (h1 : m ≤ 9223372036854775807) :
    Calls Try.prog 13 #[v, .int .i64 m] w fun e w' => ∃ v', e = .returned v' ∧ Own w' w.heap.size v' (l ++ varint (zz m)) ∧ Bs w' v' (l ++ varint (zz m)) ∧ Below w.heap.size w w' := by
  have hz := zz_lt m h0 h1
  by_cases hm : m < 0
  · have e : 2 * -(m + 1) + 1 = ((zz m : Nat) : Int) := by
      unfold zz
      rw [if_neg (by omega)]
      omega
    have HE := Lib.hid e
    clear e
    go_enter Try.func13, Try.ntmps13
    go_wp2_with fail
    rw [HE.out]
    refine (refuint_bs v l (zz m) _ h hn hz).mono ?_
    rintro e w1 ⟨v1, rfl, ho1, hv1, hb1⟩
    go_wp2
    go_ret
    exact ⟨v1, rfl, ho1, hv1, hb1⟩
  · have e : 2 * m = ((zz m : Nat) : Int) := by
      unfold zz
      rw [if_pos (by omega)]
      omega
    have HE := Lib.hid e
    clear e
    go_enter Try.func13, Try.ntmps13
    go_wp2_with fail
    rw [HE.out]
    refine (refuint_bs v l (zz m) _ h hn hz).mono ?_
    rintro e w1 ⟨v1, rfl, ho1, hv1, hb1⟩
    go_wp2
    go_ret
    exact ⟨v1, rfl, ho1, hv1, hb1⟩
end Go.Proofs.Ytafjkbmkoghmkaa
