/- droverlaw01.BytesLength returns true whatever its arguments: a varint has a byte for each seven bits, and of a greater number it is never shorter. For every input, without conditions. -/
import Derived.Test.YtafjkbmkoghmkaaRow
import Derived.Test.YtafjkbmkoghmkaaAwake
namespace Go.Proofs.Ytafjkbmkoghmkaa.bytesLength
open Go.ChangeShapes Go.WideShapes Go.ChangeAt Go.RowKit
set_option linter.unusedVariables false

/-- How many bytes the rest of a number still has. -/
def restLen (x : Nat) : Nat := if x = 0 then 0 else (varint x).length
theorem restLen_first (n : Nat) (h : n < 18446744073709551616) : 1 + restLen (n / 128) = (varint n).length := by
  unfold restLen
  by_cases hs : n < 128
  · rw [if_pos (by omega), varint_small n hs]
    rfl
  · rw [if_neg (by omega), varint_len_step n (by omega) h]
theorem restLen_step (x : Nat) (h0 : 0 < x) (h : x < 18446744073709551616) : restLen x = 1 + restLen (x / 128) := by
  rw [restLen_first x h]
  unfold restLen
  rw [if_neg (by omega)]
theorem zz_len (m : Int) (h0 : -9223372036854775808 ≤ m) (h1 : m ≤ 9223372036854775807) : (varint (zz m)).length = (varint (zz (-1 - m))).length := by
  unfold zz
  by_cases h : 0 ≤ m
  · rw [if_pos h, if_neg (by omega)]
    have := varint_even m.toNat (by omega)
    rw [show (2 * m).toNat = 2 * m.toNat by omega, show (-2 * (-1 - m) - 1).toNat = 2 * m.toNat + 1 by omega]
    exact this
  · rw [if_neg h, if_pos (by omega)]
    have := varint_even (-1 - m).toNat (by omega)
    rw [show (-2 * m - 1).toNat = 2 * (-1 - m).toNat + 1 by omega, show (2 * (-1 - m)).toNat = 2 * (-1 - m).toNat by omega]
    exact this.symm

set_option maxRecDepth 100000 in
set_option maxHeartbeats 1000000 in
theorem walk (w : World) (a0 : Int) (a1 : Int) (a2 : Int) (w0 : (Lit.int .u64 a0).wf = true) (w1 : (Lit.int .u64 a1).wf = true) (w2 : (Lit.int .i64 a2).wf = true) :
    Calls Try.prog 5 #[.int .u64 a0, .int .u64 a1, .int .i64 a2] w fun e w' => e = .returned (.bool true) ∧ Below w.heap.size w w' := by
  obtain ⟨n, rfl, hn⟩ := wf_u64 w0
  obtain ⟨k, rfl, hk⟩ := wf_u64 w1
  obtain ⟨hm0, hm1⟩ := wf_i64 w2
  clear w0 w1 w2
  have HM := Lib.hid (varint_mono n k)
  have HZ := Lib.hid (zz_len a2 hm0 hm1)
  have HF := Lib.hid (restLen_first n hn)
  go_enter Try.func5, Try.ntmps5
  go_wp2
  go_loop [7, 8] (fun c x => ∃ (cn xn : Nat), c = .int .i64 (cn : Int) ∧ x = .int .u64 (xn : Int) ∧ xn < 18446744073709551616 ∧ cn ≤ 10 ∧ Hid (cn + restLen xn = (varint n).length)) (fun _ x => (intOf x).toNat)
  case atStart => exact ⟨1, n / 128, rfl, by simp, by omega, by omega, HF⟩
  case round =>
    obtain ⟨cn, xn, rfl, rfl, hx, hc, hrest⟩ := hrel
    by_cases h0 : 0 < xn
    · have hle := varint_length n
      have hst := restLen_step xn h0 hx
      have hcn : cn + 1 ≤ 10 := by have := hrest.out; omega
      have HS := Lib.hid hst
      clear hst hle
      go_wp2
      go_round
      case rel => exact ⟨cn + 1, xn / 128, by go_num, by simp, by omega, by omega, by have := hrest.out; have := HS.out; show _ = _; omega⟩
      case measure => simp [intOf]; omega
    · obtain rfl : xn = 0 := by omega
      have hL : cn = (varint n).length := by have := hrest.out; simpa [restLen] using this
      clear hrest h0
      subst hL
      clear HF
      have hz0 : -9223372036854775808 ≤ -1 - a2 := by omega
      have hz1 : -1 - a2 ≤ 9223372036854775807 := by omega
      by_cases hnk : k < n
      all_goals
        go_wp2_with fail
        refine (uint_bs _ [] n _ (Bs.nil _) (by simp) hn).mono ?_
        rintro e w1 ⟨v1, rfl, _, hv1, hb1⟩
        obtain ⟨⟨A1, c1, rfl, -, -⟩, -⟩ := hv1
        rw [List.nil_append]
        go_wp2_with fail
        refine (uint_bs _ [] k _ (Bs.nil _) (by simp) hk).mono ?_
        rintro e w2 ⟨v2, rfl, _, hv2, hb2⟩
        obtain ⟨⟨A2, c2, rfl, -, -⟩, -⟩ := hv2
        rw [List.nil_append]
        first
          | (have hnk' : n ≤ k := by omega
             have hle := HM.out hnk' hk)
          | skip
        generalize (varint n).length = ln at *
        generalize (varint k).length = lk at *
        go_wp2_with fail
        refine (int_bs _ [] a2 _ (Bs.nil _) (by simp) hm0 hm1).mono ?_
        rintro e w3 ⟨v3, rfl, _, hv3, hb3⟩
        obtain ⟨⟨A3, c3, rfl, -, -⟩, -⟩ := hv3
        rw [List.nil_append]
        go_wp2_with fail
        refine (int_bs _ [] (-1 - a2) _ (Bs.nil _) (by simp) hz0 hz1).mono ?_
        rintro e w4 ⟨v4, rfl, _, hv4, hb4⟩
        obtain ⟨⟨A4, c4, rfl, -, -⟩, -⟩ := hv4
        rw [List.nil_append, ← HZ.out]
        go_wp2_with fail
        refine (awake_any _).mono ?_
        rintro e w5 ⟨rfl, hb5⟩
        go_wp2
        go_ret
        exact ⟨rfl, nxt (nxt (nxt (nxt hb1 hb2) hb3) hb4) hb5⟩

set_option maxRecDepth 100000 in
theorem lifted (os : Os) (started : os.Started) (H : Type) (enc : TypeId × Value → H) :
    ReturnsInHanded {} Try.checked os 5 .any (Rows.bytesLengthSpec.pre6 enc Try.prog Try.f5 Rows.bytesLengthRow.domain false) (Rows.bytesLengthSpec.post enc Try.prog Try.f5 false true false false) := by
  refine returnsInHanded_of_change (C := Try.checked) knob_own started (by kernel_rfl) Try.func5
    (ChangeSpec.witness6 (enc := enc) (C := Try.checked) false ⟨#[], #[.int .u64 0, .int .u64 0, .int .i64 0], []⟩ 8 (by kernel_rfl) (by kernel_rfl) (by kernel_rfl) (by kernel_rfl)) ?_
  intro W base args ds gs before hval0 hW hcnd _
  have hval : ∀ (j : Nat) t v, Try.f5.params[j]? = some t → args[j]? = some v → Value.okWide Try.prog W .any base t v := hval0
  have hW' := hW
  obtain ⟨p, q, hA0, hV, rfl, hfz, hnd⟩ := hW
  have hA : DataW.TrodAll enc Try.prog W 0 (fun _ => true) true Try.f5.params.toList args.toList ds p := hA0
  rw [Try.params5] at hA hval
  obtain ⟨v0, vs0, d0, ds0, p0, q0, hargs, rfl, rfl, h0, r0⟩ := trodAll_cons hA
  obtain ⟨v1, vs1, d1, ds1, p1, q1, rfl, rfl, rfl, h1, r1⟩ := trodAll_cons r0
  obtain ⟨v2, vs2, d2, ds2, p2, q2, rfl, rfl, rfl, h2, r2⟩ := trodAll_cons r1
  obtain ⟨rfl, rfl, rfl⟩ := trodAll_nil r2
  obtain rfl : args = #[v0, v1, v2] := by cases args; simp_all
  obtain ⟨rfl, rfl⟩ := trodVars_none hV
  have lt0 : ∀ x ∈ p0, x.block < W.heap.size := by obtain ⟨m, hm⟩ := h0; exact DataW.trod_lt m _ _ _ hm
  have k0 := h0
  obtain ⟨a0, rfl, _, _, w0⟩ := open_int Try.underlying29 (hval 0 29 v0 rfl rfl) h0
  have lt1 : ∀ x ∈ p1, x.block < W.heap.size := by obtain ⟨m, hm⟩ := h1; exact DataW.trod_lt m _ _ _ hm
  have k1 := h1
  obtain ⟨a1, rfl, _, _, w1⟩ := open_int Try.underlying29 (hval 1 29 v1 rfl rfl) h1
  have lt2 : ∀ x ∈ p2, x.block < W.heap.size := by obtain ⟨m, hm⟩ := h2; exact DataW.trod_lt m _ _ _ hm
  have k2 := h2
  obtain ⟨a2, rfl, _, _, w2⟩ := open_int Try.underlying2 (hval 2 2 v2 rfl rfl) h2
  clear hA0 hval0
  refine (walk W a0 a1 a2 w0 w1 w2).mono fun e W' ⟨he, bel⟩ => ?_
  subst he
  exact ⟨_, rfl, _, _, _, [], _, [], hW', trodAll_mk1 (shut_bool Try.underlying4 _), (trodAll_cons_mk (Below.trod laid_out (by kernel_rfl) (of_decide_eq_true (by kernel_rfl)) k0 bel lt0) (trodAll_cons_mk (Below.trod laid_out (by kernel_rfl) (of_decide_eq_true (by kernel_rfl)) k1 bel lt1) (trodAll_cons_mk (Below.trod laid_out (by kernel_rfl) (of_decide_eq_true (by kernel_rfl)) k2 bel lt2) (trodAll_mk0)))), rfl, bel.frame _, fun h => by cases h⟩

theorem over : Rows.bytesLengthRow.holds Try.pinned (OpenSpec.ofChange Rows.bytesLengthSpec) :=
  OpenClaim.holds_of_wide 5 Try.f5 rfl rfl rfl rfl rfl rfl rfl ⟨rfl, rfl, rfl, rfl, rfl⟩ rfl rfl rfl rfl rfl (by kernel_rfl) Try.func5 (by kernel_rfl)
    (of_decide_eq_true (by kernel_rfl)) (by unfold Func.isWrapper; first | (rw [if_pos (by decide +kernel)]; kernel_rfl) | (rw [if_neg (by decide +kernel)]; exact ⟨rfl, rfl⟩))
    (fun os started H enc _ => lifted os started H enc)

theorem proved : Rows.BytesLengthSaid := over
end Go.Proofs.Ytafjkbmkoghmkaa.bytesLength
