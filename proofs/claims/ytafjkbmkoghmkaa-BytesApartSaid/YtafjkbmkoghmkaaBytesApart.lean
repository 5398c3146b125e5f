/- droverlaw01.BytesApart returns true whatever its arguments: no varint is the begin of another one. For every input, without conditions. -/
import Derived.Test.YtafjkbmkoghmkaaRow
import Derived.Test.YtafjkbmkoghmkaaAwake
namespace Go.Proofs.Ytafjkbmkoghmkaa.bytesApart
open Go.ChangeShapes Go.WideShapes Go.ChangeAt Go.RowKit
set_option linter.unusedVariables false

theorem apart_cut (n k : Nat) (hn : n < 18446744073709551616) (hk : k < (varint n).length) : gu ((varint n).take k) 0 = (0, 0, 11) :=
  gu_err _ 0 11 (by omega) (by rw [List.drop_zero]; exact gus_short n k hn hk)
theorem apart_get (n : Nat) (r : List Nat) (hn : n < 18446744073709551616) : gu (varint n ++ r) 0 = (n, (varint n).length, 0) := by
  have := gu_ok (varint n ++ r) 0 n (varint n).length (by rw [List.drop_zero]; exact gus_varint n hn r)
  simpa using this

set_option maxRecDepth 100000 in
set_option maxHeartbeats 2000000 in
theorem walk (w : World) (a0 : Int) (a1 : Int) (a2 : Option Addr) (n2 c2 : Nat) (w0 : (Lit.int .u64 a0).wf = true) (w1 : (Lit.int .u64 a1).wf = true) (w2 : ∃ l : List Nat, l.length = n2 ∧ n2 ≤ c2 ∧ At w w.heap.size a2 (bv l) ∧ (∀ x ∈ l, x < 256)) :
    Calls Try.prog 6 #[.int .u64 a0, .int .u64 a1, .slice a2 n2 c2] w fun e w' => e = .returned (.bool true) ∧ Below w.heap.size w w' := by
  obtain ⟨n, rfl, hn⟩ := wf_u64 w0
  obtain ⟨k, rfl, hk⟩ := wf_u64 w1
  obtain ⟨l, hl, hc, hat, h8⟩ := w2
  clear w0 w1
  by_cases hbig : 500 < n2
  · go_enter Try.func6, Try.ntmps6
    go_wp2_with fail
    refine (awake_any _).mono ?_
    rintro e w5 ⟨rfl, hb5⟩
    go_wp2
    go_ret
    exact ⟨rfl, hb5⟩
  · have hbl := Bs.of_at hat hl hc h8
    have hlv := varint_length n
    have HI := Lib.hid (varint_inj n k hn hk)
    have HC : Hid (∀ i, i < (varint n).length → gu ((varint n).take i) 0 = (0, 0, 11)) := fun i hi => apart_cut n i hn hi
    have HG := Lib.hid (apart_get n l hn)
    subst hl
    go_enter Try.func6, Try.ntmps6
    go_wp2_with fail
    refine (uint_bs _ [] n _ (Bs.nil _) (by simp) hn).mono ?_
    rintro e w1 ⟨v1, rfl, _, hv1, hb1⟩
    rw [List.nil_append] at hv1
    have hbl1 := hbl.below hb1
    obtain ⟨⟨A1, c1, rfl, -, -⟩, -⟩ := id hv1
    have hv1c := (Bs.parts hv1).2.1
    generalize hV : varint n = V at *
    have HV := Lib.hid hV
    clear hV
    go_wp2_with fail
    go_loop [8] (fun i => ∃ j : Nat, j ≤ V.length ∧ i = .int .i64 (j : Int)) (fun i => V.length - (intOf i).toNat)
    case atStart => exact ⟨0, by omega, rfl⟩
    case round =>
      obtain ⟨j, hj, rfl⟩ := hrel
      by_cases hlt : j < V.length
      · go_wp2_with fail
        refine (getuint_bs _ _ 0 _ (hv1.pre j hj) (by simp; omega) (by omega)).mono ?_
        rintro e w2 ⟨rfl, rfl⟩
        rw [HC.out j hlt]
        go_wp2
        go_round
        case rel => exact ⟨j + 1, by omega, by go_num⟩
        case measure => simp [intOf]; omega
      · obtain rfl : j = V.length := by omega
        have hV10 : V.length ≤ 10 := hlv.2
        go_wp2_with fail
        refine (copy_bs _ V _ hv1 (by omega)).mono ?_
        rintro e w2 ⟨u, rfl, hu, hbu, hb2⟩
        have hbl2 := hbl1.below hb2
        go_wp2_with (at_builtin
                     refine wpList_app rfl (.tmp 42) (.tmp 43) rfl rfl hu rfl (Bs.parts hbl2).2.2.1 rfl (by omega) hb2.size ?_
                     intro v3 w3 hown3 hb3 _ _)
        have hbs3 : Bs w3 v3 (V ++ l) := Bs.of_own hown3 (fun x hx => (List.mem_append.1 hx).elim (fun h => (Bs.parts hv1).2.2.2 x h) (fun h => h8 x h))
        have hb23 := hb2.trans hb3
        have hv3 := hv1.below hb23
        have hbw3 := nxt hb1 hb23
        refine (getuint_bs _ (V ++ l) 0 _ hbs3 (by simp; omega) (by omega)).mono ?_
        rintro e w4 ⟨rfl, rfl⟩
        rw [HG.out]
        by_cases hnk : n = k
        · subst hnk
          have hnn : ((n : Int) == (n : Int)) = true := by simp
          go_wp2_with fail
          refine (uint_bs _ [] n _ (Bs.nil _) (by simp) hn).mono ?_
          rintro e w4 ⟨v4, rfl, _, hv4, hb4⟩
          rw [List.nil_append, HV.out] at hv4
          go_wp2_with fail
          refine (same_bs _ _ V V true _ (hv3.below hb4) hv4 (by simp)).mono ?_
          rintro e w5 ⟨rfl, rfl⟩
          go_wp2_with fail
          refine (awake_any _).mono ?_
          rintro e w5 ⟨rfl, hb5⟩
          go_wp2
          go_ret
          exact ⟨rfl, nxt (nxt hbw3 hb4) hb5⟩
        · have hne : ((n : Int) == (k : Int)) = false := by simp; omega
          have hVk : decide (V = varint k) = false := by
            rw [decide_eq_false_iff_not]
            intro h
            exact hnk (HI.out h)
          clear hnk
          go_wp2_with fail
          refine (uint_bs _ [] k _ (Bs.nil _) (by simp) hk).mono ?_
          rintro e w4 ⟨v4, rfl, _, hv4, hb4⟩
          rw [List.nil_append] at hv4
          go_wp2_with fail
          refine (same_bs _ _ V (varint k) false _ (hv3.below hb4) hv4 hVk).mono ?_
          rintro e w5 ⟨rfl, rfl⟩
          go_wp2_with fail
          refine (awake_any _).mono ?_
          rintro e w5 ⟨rfl, hb5⟩
          go_wp2
          go_ret
          exact ⟨rfl, nxt (nxt hbw3 hb4) hb5⟩

set_option maxRecDepth 100000 in
theorem lifted (os : Os) (started : os.Started) (H : Type) (enc : TypeId × Value → H) :
    ReturnsInHanded {} Try.checked os 6 .any (Rows.bytesApartSpec.pre6 enc Try.prog Try.f6 Rows.bytesApartRow.domain false) (Rows.bytesApartSpec.post enc Try.prog Try.f6 false true false false) := by
  refine returnsInHanded_of_change (C := Try.checked) knob_own started (by kernel_rfl) Try.func6
    (ChangeSpec.witness6 (enc := enc) (C := Try.checked) false ⟨#[], #[.int .u64 0, .int .u64 0, .slice none 0 0], []⟩ 8 (by kernel_rfl) (by kernel_rfl) (by kernel_rfl) (by kernel_rfl)) ?_
  intro W base args ds gs before hval0 hW hcnd _
  have hval : ∀ (j : Nat) t v, Try.f6.params[j]? = some t → args[j]? = some v → Value.okWide Try.prog W .any base t v := hval0
  have hW' := hW
  obtain ⟨p, q, hA0, hV, rfl, hfz, hnd⟩ := hW
  have hA : DataW.TrodAll enc Try.prog W 0 (fun _ => true) true Try.f6.params.toList args.toList ds p := hA0
  rw [Try.params6] at hA hval
  obtain ⟨v0, vs0, d0, ds0, p0, q0, hargs, rfl, rfl, h0, r0⟩ := trodAll_cons hA
  obtain ⟨v1, vs1, d1, ds1, p1, q1, rfl, rfl, rfl, h1, r1⟩ := trodAll_cons r0
  obtain ⟨v2, vs2, d2, ds2, p2, q2, rfl, rfl, rfl, h2, r2⟩ := trodAll_cons r1
  obtain ⟨rfl, rfl, rfl⟩ := trodAll_nil r2
  obtain rfl : args = #[v0, v1, v2] := by cases args; simp_all
  obtain ⟨rfl, rfl⟩ := trodVars_none hV
  have lt0 : ∀ x ∈ p0, x.block < W.heap.size := by obtain ⟨m, hm⟩ := h0; exact DataW.trod_lt m _ _ _ hm
  have k0 := h0
  obtain ⟨a0, rfl, _, _, w0⟩ := open_int Try.underlying29 (hval 0 29 v0 rfl rfl) h0
  have lt1 : ∀ x ∈ p1, x.block < W.heap.size := by obtain ⟨m, hm⟩ := h1; exact DataW.trod_lt m _ _ _ hm
  have k1 := h1
  obtain ⟨a1, rfl, _, _, w1⟩ := open_int Try.underlying29 (hval 1 29 v1 rfl rfl) h1
  obtain ⟨a2, n2, c2, rfl⟩ := okWide_slice Try.underlying23 (hval 2 23 v2 rfl rfl)
  have k2 := h2
  have lt2 : ∀ x ∈ p2, x.block < W.heap.size := by obtain ⟨m, hm⟩ := k2; exact DataW.trod_lt m _ _ _ hm
  have z2 : ∃ zs, Ints .u8 W a2 n2 c2 zs := by
    obtain ⟨fuel, hf⟩ := h2
    rcases open_ints Try.underlying23 Try.underlying5 (by kernel_rfl) hf with ⟨hcs, _⟩ | ⟨x, l, c, zs, hcs, _, hl, hm, hz, _, hcell, hwz⟩
    · simp [Value.cells] at hcs
      obtain ⟨rfl, rfl, rfl⟩ := hcs
      exact ⟨[], ints_nil _ _⟩
    · simp [Value.cells] at hcs
      obtain ⟨rfl, rfl, rfl⟩ := hcs
      exact ⟨_, ints_some .u8 W x _ _ zs hl hm (by simpa using hz) hcell hwz⟩
  have w2 := z2.elim fun _ h => h.bytes
  clear hA0 hval0
  refine (walk W a0 a1 a2 n2 c2 w0 w1 w2).mono fun e W' ⟨he, bel⟩ => ?_
  subst he
  exact ⟨_, rfl, _, _, _, [], _, [], hW', trodAll_mk1 (shut_bool Try.underlying4 _), (trodAll_cons_mk (Below.trod laid_out (by kernel_rfl) (of_decide_eq_true (by kernel_rfl)) k0 bel lt0) (trodAll_cons_mk (Below.trod laid_out (by kernel_rfl) (of_decide_eq_true (by kernel_rfl)) k1 bel lt1) (trodAll_cons_mk (Below.trod laid_out (by kernel_rfl) (of_decide_eq_true (by kernel_rfl)) k2 bel lt2) (trodAll_mk0)))), rfl, bel.frame _, fun h => by cases h⟩

theorem over : Rows.bytesApartRow.holds Try.pinned (OpenSpec.ofChange Rows.bytesApartSpec) :=
  OpenClaim.holds_of_wide 6 Try.f6 rfl rfl rfl rfl rfl rfl rfl ⟨rfl, rfl, rfl, rfl, rfl⟩ rfl rfl rfl rfl rfl (by kernel_rfl) Try.func6 (by kernel_rfl)
    (of_decide_eq_true (by kernel_rfl)) (by unfold Func.isWrapper; first | (rw [if_pos (by decide +kernel)]; kernel_rfl) | (rw [if_neg (by decide +kernel)]; exact ⟨rfl, rfl⟩))
    (fun os started H enc _ => lifted os started H enc)

theorem proved : Rows.BytesApartSaid := over
end Go.Proofs.Ytafjkbmkoghmkaa.bytesApart
