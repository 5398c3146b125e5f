/- droverlaw08.WordsQuotes returns true whatever its arguments: a text that says two, one behind the other, is said as both but for the signs between. For every input, without conditions. -/
import Derived.Test.YtndppffaijcjdaaDoorRow
import Derived.Test.YtndppffaijcjdaaDoorWl
import Derived.Test.YtndppffaijcjdaaDoorDoor08
import Derived.Test.YtndppffaijcjdaaDoorCards
import Derived.SevenTiedAt
import Derived.Test.YtndppffaijcjdaaDoorWm
import Derived.Deep.QuietTactic
import Derived.BigQuiet
import Derived.IntWalk
namespace Go.Proofs.YtndppffaijcjdaaDoor.wordsQuotes
open Go.ChangeShapes Go.WideShapes Go.ChangeAt Go.RowKit
set_option linter.unusedVariables false

theorem nxt_quo (s : List Nat) (h : ∀ x ∈ s, x < 256) (hn : s.length ≤ 8000) : nxtV (quoW s) 0 = ansV 2 (strOf s) 0 1 0 (quoW s).length 0 0 := by
  have h1 := tok_quo s h
  have h2 := quoW_len s
  have e : atW (quoW s) 0 = 0 := by unfold atW; rw [List.drop_zero, h1.2]
  have e2 : lnW (quoW s) 0 = 1 := by unfold lnW; rw [e]; rfl
  unfold nxtV
  rw [if_neg (by omega), if_neg (by omega)]
  simp only [Int.toNat_zero]
  rw [e, e2, List.drop_zero, h1.1]
  simp [ansV, wrdV, flt]
theorem quote_str {T : List Nat} {A Q : ByteArray} (hA : strOf T = A) (hQ : strOf (quoW T) = Q) (h8 : ∀ x ∈ T, x < 256) (hn : T.length ≤ 1099511627776) (w : World) : Calls Tryd.prog 12 #[.string A] w fun e w' => e = .returned (.string Q) ∧ Below w.heap.size w w' := by
  subst hA hQ
  exact quote_any T h8 hn w

set_option maxRecDepth 100000 in
set_option maxHeartbeats 4000000 in
theorem walk (w : World) (htab : Wt w) (S0 : ByteArray) (S1 : ByteArray) (w0 : S0.size ≤ maxLen) (w1 : S1.size ≤ maxLen) :
    Calls Tryd.prog 9 #[.string S0, .string S1] w fun e w' => e = .returned (.bool true) ∧ Below w.heap.size w w' := by
  obtain ⟨T, rfl, h8, hT⟩ := str_open S0
  obtain ⟨M, rfl, h8m, hM⟩ := str_open S1
  have HW0 := Lib.hid htab
  have HAW := Lib.hid (fun w hw => awake08_any w hw)
  clear htab
  by_cases hbig : 1000 < T.length ∨ 1000 < M.length
  · generalize strOf T = S at *
    generalize strOf M = S' at *
    clear h8 h8m
    rw [hT, hM] at hbig
    clear hT hM
    by_cases h1 : 1000 < S.size
    · have d1 : decide ((1000 : Int) < (S.size : Int)) = true := decide_eq_true (by omega)
      have d1' : decide (1000 < S.size) = true := decide_eq_true (by omega)
      go_enter Tryd.func9, Tryd.ntmps9
      go_wp2_with (go_at_call 14; refine (HAW.out _ HW0.out).mono ?_; rintro e w1 ⟨he, hb⟩; subst he; have HB := Lib.hid hb; clear hb)
      go_ret
      exact ⟨rfl, HB.out⟩
    · have d1 : decide ((1000 : Int) < (S.size : Int)) = false := decide_eq_false (by omega)
      have d1' : decide (1000 < S.size) = false := decide_eq_false (by omega)
      have d2 : decide ((1000 : Int) < (S'.size : Int)) = true := decide_eq_true (by omega)
      have d2' : decide (1000 < S'.size) = true := decide_eq_true (by omega)
      go_enter Tryd.func9, Tryd.ntmps9
      go_wp2_with (go_at_call 14; refine (HAW.out _ HW0.out).mono ?_; rintro e w1 ⟨he, hb⟩; subst he; have HB := Lib.hid hb; clear hb)
      go_ret
      exact ⟨rfl, HB.out⟩
  · have h8a : ∀ x ∈ T ++ M, x < 256 := fun x hx => (List.mem_append.1 hx).elim (h8 x) (h8m x)
    have hla : (T ++ M).length ≤ 2000 := by rw [List.length_append]; omega
    have lT := quoW_len T
    have lM := quoW_len M
    have lA := quoW_len (T ++ M)
    have HN := Lib.hid (fun w hw => next_ans (nxt_quo (T ++ M) h8a (by omega)) (fun x hx => by have := quoW_bytes _ h8a x hx; omega) (by omega) w hw)
    unfold ansV at HN
    obtain ⟨Sa, hSa⟩ : ∃ S, Hid (strOf T = S) := ⟨_, Lib.hid rfl⟩
    obtain ⟨Sb, hSb⟩ : ∃ S, Hid (strOf M = S) := ⟨_, Lib.hid rfl⟩
    obtain ⟨Sc, hSc⟩ : ∃ S, Hid (strOf (T ++ M) = S) := ⟨_, Lib.hid rfl⟩
    obtain ⟨Qa, hQa⟩ : ∃ S, Hid (strOf (quoW T) = S) := ⟨_, Lib.hid rfl⟩
    obtain ⟨Qb, hQb⟩ : ∃ S, Hid (strOf (quoW M) = S) := ⟨_, Lib.hid rfl⟩
    obtain ⟨Qc, hQc⟩ : ∃ S, Hid (strOf (quoW (T ++ M)) = S) := ⟨_, Lib.hid rfl⟩
    have HQa := Lib.hid (fun w => quote_str hSa.out hQa.out h8 (by omega) w)
    have HQb := Lib.hid (fun w => quote_str hSb.out hQb.out h8m (by omega) w)
    have HQc := Lib.hid (fun w => quote_str hSc.out hQc.out h8a (by omega) w)
    have hadd := add_strs T M (by omega)
    rw [hSa.out, hSb.out, hSc.out] at hadd
    have zA : Qa.size = (quoW T).length := by rw [← hQa.out]; exact strOf_size _
    have zB : Qb.size = (quoW M).length := by rw [← hQb.out]; exact strOf_size _
    have zC : Qc.size = (quoW (T ++ M)).length := by rw [← hQc.out]; exact strOf_size _
    obtain ⟨p, hp⟩ : ∃ p, Hid ((quoW T).length - 1 = p) := ⟨_, Lib.hid rfl⟩
    have x1 : Qa.extract 0 p = strOf ((quoW T).take p) := by rw [← hQa.out, strOf_extract, List.drop_zero]
    have x2 : Qb.extract 1 Qb.size = strOf ((quoW M).drop 1) := by rw [zB, ← hQb.out, strOf_extract, List.take_length]
    have hadd2 := add_strs ((quoW T).take p) ((quoW M).drop 1) (by rw [List.length_take, List.length_drop]; omega)
    rw [← hp.out, ← quoW_app, hQc.out, hp.out] at hadd2
    rw [← x1, ← x2] at hadd2
    have hps : (Qa.size : Int) - 1 = ((p : Nat) : Int) := by rw [zA, ← hp.out]; omega
    have hpl : p ≤ Qa.size := by rw [zA, ← hp.out]; omega
    have hbl : 1 ≤ Qb.size := by omega
    have hpw : IntKind.i64.wrap ((p : Nat) : Int) = ((p : Nat) : Int) := IntWalk.i64_in _ (by omega)
    have HPW := Lib.hid hpw
    clear hpw
    have ea : ((Qa.size : Int) == 0) = false := beq_eq_false_iff_ne.2 (by omega)
    have eb : ((Qb.size : Int) == 0) = false := beq_eq_false_iff_ne.2 (by omega)
    have ea' : (Qa.size == 0) = false := beq_eq_false_iff_ne.2 (by omega)
    have eb' : (Qb.size == 0) = false := beq_eq_false_iff_ne.2 (by omega)
    have HSt := Lib.hid (strIs (quoW (T ++ M)) (fun x hx => by have := quoW_bytes _ h8a x hx; omega))
    have HQ8 := Lib.hid (quoW_bytes _ h8a)
    rw [hQc.out] at HSt HN
    rw [hSc.out] at HN
    rw [← zC] at HN lA
    obtain ⟨L, hL⟩ : ∃ L, Hid (quoW (T ++ M) = L) := ⟨_, Lib.hid rfl⟩
    rw [hL.out] at HSt HQ8 zC
    have hcl : Qc.size ≤ 9000 := by omega
    rw [hSa.out] at hT ⊢
    rw [hSb.out] at hM ⊢
    have d1 : decide ((1000 : Int) < (Sa.size : Int)) = false := decide_eq_false (by omega)
    have d1' : decide (1000 < Sa.size) = false := decide_eq_false (by omega)
    have d2 : decide ((1000 : Int) < (Sb.size : Int)) = false := decide_eq_false (by omega)
    have d2' : decide (1000 < Sb.size) = false := decide_eq_false (by omega)
    have ZC := Lib.hid zC
    clear hbig w0 w1 lT lM lA zA zB zC hT hM h8 h8m h8a hla x1 x2
    go_enter Tryd.func9, Tryd.ntmps9
    go_wp2_with fail
    refine (HQa.out _).mono ?_
    rintro e w1 ⟨he, hb⟩
    subst he
    have HB1 := Lib.hid hb
    clear hb
    go_wp2_with fail
    refine (HQb.out _).mono ?_
    rintro e w2 ⟨he, hb⟩
    subst he
    have HB2 := Lib.hid (HB1.out.trans (hb.mono HB1.out.size))
    clear hb
    go_wp2_with fail
    refine (HQc.out _).mono ?_
    rintro e w3 ⟨he, hb⟩
    subst he
    have HB3 := Lib.hid (HB2.out.trans (hb.mono HB2.out.size))
    have HW3 := Lib.hid (HW0.out.below HB3.out)
    clear hb
    go_wp2_with fail
    have hpw := HPW.out
    go_quiet (fail)
    clear hpw
    have HB4 := Lib.hid (below_drewN HB3.out nq)
    have HW4 := Lib.hid (HW3.out.below (below_drewN (Below.refl w3.heap.size w3) nq))
    obtain ⟨w4, hw4⟩ : ∃ w4, w4 = w3.drewN nq := ⟨_, rfl⟩
    rw [← hw4] at HB4 HW4 ⊢
    clear hw4 HB3 HW3 hps hpl hbl ea eb ea' eb' hadd2
    go_wp2_with fail
    go_loopw [50] (fun i wr => ∃ j : Nat, j ≤ Qc.size ∧ i = .int .i64 (j : Int) ∧ wr = w4) (fun i _ => Qc.size - (intOf i).toNat)
    case atStart => exact ⟨0, by omega, rfl, rfl⟩
    case round =>
      obtain ⟨j, hj, rfl, rfl⟩ := hrel
      by_cases hlt : j < Qc.size
      · have hjL : j < L.length := by have := ZC.out; omega
        have hxS := HSt.out.2 j hjL hlt
        have hb := HQ8.out L[j] (List.getElem_mem hjL)
        generalize L[j] = x at *
        have d3 : decide ((x : Int) < 32) = false := decide_eq_false (by omega)
        have d4 : decide ((126 : Int) < (x : Int)) = false := decide_eq_false (by omega)
        have d3' : decide (x < 32) = false := decide_eq_false (by omega)
        have d4' : decide (126 < x) = false := decide_eq_false (by omega)
        go_wp2_with fail
        go_roundw
        case rel => exact ⟨j + 1, by omega, by go_num, trivial⟩
        case measure => simp [intOf]; omega
      · obtain rfl : j = Qc.size := by omega
        go_wp2_with fail
        refine (HN.out _ HW4.out).mono ?_
        rintro e w5 ⟨he, hb⟩
        subst he
        have HB5 := Lib.hid (HB4.out.trans (hb.mono HB4.out.size))
        have HW5 := Lib.hid (HW4.out.below hb)
        clear hb
        have HX := Lib.hid (HB5.out.trans ((two w5 (.cells #[.int .u8 2, .string Sc, .int .i64 0, .int .i64 1, .int .i64 0, .int .i64 (Qc.size : Int)] 24) (.cells #[.int .i64 0, .int .i64 0] 27)).mono HB5.out.size))
        have HY := Lib.hid (HW5.out.below (two w5 (.cells #[.int .u8 2, .string Sc, .int .i64 0, .int .i64 1, .int .i64 0, .int .i64 (Qc.size : Int)] 24) (.cells #[.int .i64 0, .int .i64 0] 27)))
        go_wp2_with fail
        refine (HAW.out _ HY.out).mono ?_
        rintro e w6 ⟨he, hb⟩
        subst he
        have HB6 := Lib.hid (HX.out.trans (hb.mono HX.out.size))
        clear hb
        go_wp2_with fail
        go_ret
        exact ⟨rfl, HB6.out⟩

set_option maxRecDepth 100000 in
theorem lifted (os : Os) (started : os.Started) (H : Type) (enc : TypeId × Value → H) :
    ReturnsInHanded {} Tryd.checked os 9 .any (fun w args => (Rows.wordsQuotesSpec.pre enc Tryd.prog Tryd.f9 [] false w args ∧ laidMetH Tryd.prog laidW w) ∧ sizedMet enc Tryd.prog Tryd.f9 (OpenSpec.ofChange Rows.wordsQuotesSpec) false w args) (Rows.wordsQuotesSpec.post enc Tryd.prog Tryd.f9 false true false false) := by
  refine returnsInHanded_of_change_and (C := Tryd.checked) (X := fun w _ => laidMetH Tryd.prog laidW w) (fun _ _ _ hh h => h.of_heap hh) knob_own started (by kernel_rfl) Tryd.func9
    (ChangeSpec.witness_shaped (enc := enc) (C := Tryd.checked) (os := os) (X := fun w _ => laidMetH Tryd.prog laidW w) false (World.doorLaid Tryd.prog 400 os) #[.string ⟨#[]⟩, .string ⟨#[]⟩] 8 rfl (World.shaped_of_RefB (by kernel_rfl) (by kernel_rfl)) (by kernel_rfl) (by kernel_rfl) (by kernel_rfl) (doorW_met os _)) ?_
  intro W base args ds gs before hval0 hW _ _ hL _
  have hval : ∀ (j : Nat) t v, Tryd.f9.params[j]? = some t → args[j]? = some v → Value.okWide Tryd.prog W .any base t v := hval0
  have hW' := hW
  obtain ⟨p, q, hA0, hV, rfl, hfz, hnd⟩ := hW
  have hA : DataW.TrodAll enc Tryd.prog W 0 (fun _ => true) true Tryd.f9.params.toList args.toList ds p := hA0
  rw [Tryd.params9] at hA hval
  obtain ⟨v0, vs0, d0, ds0, p0, q0, hargs, rfl, rfl, h0, r0⟩ := trodAll_cons hA
  obtain ⟨v1, vs1, d1, ds1, p1, q1, rfl, rfl, rfl, h1, r1⟩ := trodAll_cons r0
  obtain ⟨rfl, rfl, rfl⟩ := trodAll_nil r1
  obtain rfl : args = #[v0, v1] := by cases args; simp_all
  obtain ⟨rfl, rfl⟩ := trodVars_none hV
  have k0 := h0
  have lt0 : ∀ x ∈ p0, x.block < W.heap.size := by obtain ⟨m, hm⟩ := k0; exact DataW.trod_lt m _ _ _ hm
  obtain ⟨S0, rfl, _, _, w0⟩ := Go.ChangeMaps.open_string Tryd.underlying9 (hval 0 9 v0 rfl rfl) h0
  have k1 := h1
  have lt1 : ∀ x ∈ p1, x.block < W.heap.size := by obtain ⟨m, hm⟩ := k1; exact DataW.trod_lt m _ _ _ hm
  obtain ⟨S1, rfl, _, _, w1⟩ := Go.ChangeMaps.open_string Tryd.underlying9 (hval 1 9 v1 rfl rfl) h1
  clear hA0 hval0
  refine (walk W (wt_laid hL) S0 S1 w0 w1).mono fun e W' ⟨he, bel⟩ => ?_
  subst he
  exact ⟨_, rfl, _, _, _, [], _, [], hW', trodAll_mk1 (shut_bool Tryd.underlying4 _), (trodAll_cons_mk (Below.trod laid_out (by kernel_rfl) (of_decide_eq_true (by kernel_rfl)) k0 bel lt0) (trodAll_cons_mk (Below.trod laid_out (by kernel_rfl) (of_decide_eq_true (by kernel_rfl)) k1 bel lt1) (trodAll_mk0))), rfl, bel.frame _, fun h => by cases h⟩

theorem over : Rows.wordsQuotesRow.holds Tryd.pinned (OpenSpec.ofChange Rows.wordsQuotesSpec) :=
  OpenClaim.holds_of_wide 9 Tryd.f9 rfl rfl rfl rfl rfl rfl rfl ⟨rfl, rfl, rfl, rfl, rfl⟩ rfl rfl rfl rfl rfl (by kernel_rfl) Tryd.func9 (by kernel_rfl)
    (of_decide_eq_true (by kernel_rfl)) (by unfold Func.isWrapper; first | (rw [if_pos (by decide +kernel)]; kernel_rfl) | (rw [if_neg (by decide +kernel)]; exact ⟨rfl, rfl⟩))
    (fun os started H enc _ => lifted os started H enc)

theorem proved : Rows.WordsQuotesCardSaid :=
  Claim7.holds_tied_plain_at .later [] [.data, .data, .data, .sentinel, .sentinel, .data] true Rows.wordsQuotesCard.stood.harness Rows.wordsQuotesCard.stood.looks
    over (fun _ h => by cases h) (by kernel_rfl) (fun _ h => by cases h) wordsQuotes_row_tie rfl ⟨rfl, rfl⟩ (by kernel_rfl) rfl
    (fun f fn hf hfn => by
      obtain rfl : f = 9 := Option.some.inj ((show Tryd.prog.funcNamed "drover/droverlaw08.WordsQuotes" = some 9 by kernel_rfl).symm.trans hf) |>.symm
      obtain rfl : fn = Tryd.f9 := (Option.some.inj (Tryd.func9.symm.trans hfn)).symm
      exact ⟨by kernel_rfl, fun j t ht => by
        have hall : (Tryd.f9.params.toList.all fun u => !Tryd.prog.wantsStandIn u) = true := by kernel_rfl
        have hm : t ∈ Tryd.f9.params.toList := Array.mem_toList_iff.2 (Array.mem_of_getElem? ht)
        exact (show Tryd.prog.wantsStandIn t = false by simpa using List.all_eq_true.1 hall t hm)⟩)
    (by kernel_rfl)
end Go.Proofs.YtndppffaijcjdaaDoor.wordsQuotes
