/- droverlaw08.WordsNear returns true whatever its arguments: a token that ends ahead of the end of a text hangs not on what stands behind the byte behind it. For every input, without conditions. -/
import Derived.Test.YtndppffaijcjdaaDoorRow
import Derived.Test.YtndppffaijcjdaaDoorWl
import Derived.Test.YtndppffaijcjdaaDoorDoor08
import Derived.Test.YtndppffaijcjdaaDoorCards
import Derived.SevenTiedAt
import Derived.Test.YtndppffaijcjdaaDoorWm
namespace Go.Proofs.YtndppffaijcjdaaDoor.wordsNear
open Go.ChangeShapes Go.WideShapes Go.ChangeAt Go.RowKit
set_option linter.unusedVariables false



set_option maxRecDepth 100000 in
set_option maxHeartbeats 4000000 in
theorem walk (w : World) (htab : Wt w) (S0 : ByteArray) (a1 : Int) (S2 : ByteArray) (w0 : S0.size ≤ maxLen) (w1 : (Lit.int .i64 a1).wf = true) (w2 : S2.size ≤ maxLen) :
    Calls Tryd.prog 8 #[.string S0, .int .i64 a1, .string S2] w fun e w' => e = .returned (.bool true) ∧ Below w.heap.size w w' := by
  obtain ⟨T, rfl, h8, hT⟩ := str_open S0
  obtain ⟨M, rfl, h8m, hM⟩ := str_open S2
  have HW0 := Lib.hid htab
  have HAW := Lib.hid (fun w hw => awake08_any w hw)
  clear htab
  by_cases hbig : 500 < T.length ∨ 500 < M.length
  · generalize strOf T = S at *
    generalize strOf M = S' at *
    clear h8 h8m
    rw [hT, hM] at hbig
    clear hT hM
    by_cases h1 : 500 < S.size
    · have d1 : decide ((500 : Int) < (S.size : Int)) = true := decide_eq_true (by omega)
      have d1' : decide (500 < S.size) = true := decide_eq_true (by omega)
      go_enter Tryd.func8, Tryd.ntmps8
      go_wp2_with (go_at_call 14; refine (HAW.out _ HW0.out).mono ?_; rintro e w1 ⟨he, hb⟩; subst he; have HB := Lib.hid hb; clear hb)
      go_ret
      exact ⟨rfl, HB.out⟩
    · have d1 : decide ((500 : Int) < (S.size : Int)) = false := decide_eq_false (by omega)
      have d1' : decide (500 < S.size) = false := decide_eq_false (by omega)
      have d2 : decide ((500 : Int) < (S'.size : Int)) = true := decide_eq_true (by omega)
      have d2' : decide (500 < S'.size) = true := decide_eq_true (by omega)
      go_enter Tryd.func8, Tryd.ntmps8
      go_wp2_with (go_at_call 14; refine (HAW.out _ HW0.out).mono ?_; rintro e w1 ⟨he, hb⟩; subst he; have HB := Lib.hid hb; clear hb)
      go_ret
      exact ⟨rfl, HB.out⟩
  · obtain ⟨k, DS, n, ln, m, ee, er, fl, hV, hf, -⟩ := nxt_form T a1
    have HN := Lib.hid (fun w hw => next_ans hV h8 (by omega) w hw)
    have hnear := nxt_near (M := M) hV hf
    have HN2 := Lib.hid (fun (h0 : er = 0) (h6 : k ≠ 6) (he : ee < T.length) w hw => next_ans (hnear h0 h6 he (by omega)) (fun x hx => (List.mem_append.1 hx).elim (h8 x) (h8m x)) (by rw [List.length_append]; omega) w hw)
    have hadd := add_strs T M (by omega)
    rw [hT] at hbig HN2
    rw [hM] at hbig
    clear hf hnear hV h8 h8m hT hM
    unfold ansV at HN HN2
    generalize strOf (T ++ M) = SM at *
    generalize strOf T = S at *
    generalize strOf M = S' at *
    have d1 : decide ((500 : Int) < (S.size : Int)) = false := decide_eq_false (by omega)
    have d1' : decide (500 < S.size) = false := decide_eq_false (by omega)
    have d2 : decide ((500 : Int) < (S'.size : Int)) = false := decide_eq_false (by omega)
    have d2' : decide (500 < S'.size) = false := decide_eq_false (by omega)
    clear hbig w0 w2
    go_enter Tryd.func8, Tryd.ntmps8
    go_wp2_with fail
    refine (HN.out _ HW0.out).mono ?_
    rintro e w1 ⟨he, hb⟩
    subst he
    have HB1 := Lib.hid hb
    have HW1 := Lib.hid (HW0.out.below hb)
    clear hb
    have HX := Lib.hid (HB1.out.trans ((two w1 (.cells #[.int .u8 (k : Int), .string DS, .int .i64 (n : Int), .int .i64 (ln : Int), .int .i64 (m : Int), .int .i64 (ee : Int)] 24) (.cells #[.int .i64 (er : Int), .int .i64 (fl : Int)] 27)).mono HB1.out.size))
    have HY := Lib.hid (HW1.out.below (two w1 (.cells #[.int .u8 (k : Int), .string DS, .int .i64 (n : Int), .int .i64 (ln : Int), .int .i64 (m : Int), .int .i64 (ee : Int)] 24) (.cells #[.int .i64 (er : Int), .int .i64 (fl : Int)] 27)))
    by_cases h0 : er = 0
    · have e0 : ((er : Int) != 0) = false := by rw [h0]; rfl
      have e0' : ((er : Int) == 0) = true := by rw [h0]; rfl
      by_cases h6 : k = 6
      · have e6 : ((k : Int) == 6) = true := by rw [h6]; rfl
        clear h0 h6 HN2
        go_wp2_with (go_at_call 14; refine (HAW.out _ HY.out).mono ?_; rintro e w2 ⟨he, hb⟩; subst he; have HB := Lib.hid (HX.out.trans (hb.mono HX.out.size)); clear hb)
        go_ret
        exact ⟨rfl, HB.out⟩
      · have e6 : ((k : Int) == 6) = false := beq_eq_false_iff_ne.2 (by omega)
        by_cases he : ee < S.size
        · have d3 : decide ((S.size : Int) ≤ (ee : Int)) = false := decide_eq_false (by omega)
          have d3' : decide (S.size ≤ ee) = false := decide_eq_false (by omega)
          have HN3 := Lib.hid (HN2.out h0 h6 he)
          clear HN2 h0 h6 he
          have HP := Lib.hid (show ((w1.alloc (.cells #[.int .u8 (k : Int), .string DS, .int .i64 (n : Int), .int .i64 (ln : Int), .int .i64 (m : Int), .int .i64 (ee : Int)] 24)).alloc (.cells #[.int .i64 (er : Int), .int .i64 (fl : Int)] 27)).heap[w1.heap.size]? = some (.cells #[.int .u8 (k : Int), .string DS, .int .i64 (n : Int), .int .i64 (ln : Int), .int .i64 (m : Int), .int .i64 (ee : Int)] 24) from heap_old (heap_new _ _) _)
          go_wp2_with fail
          refine (HN3.out _ HY.out).mono ?_
          rintro e w2 ⟨he, hb⟩
          subst he
          have HB2 := Lib.hid (HX.out.trans (hb.mono HX.out.size))
          have HW2 := Lib.hid (HY.out.below hb)
          have HP2 := Lib.hid (heap_below HP.out hb)
          clear hb
          obtain ⟨c0, c1, c2, c3, c4, c5, -⟩ := box6 HP2.out
          have l1 := lt_heap HP2.out
          have HX2 := Lib.hid (HB2.out.trans ((two w2 (.cells #[.int .u8 (k : Int), .string DS, .int .i64 (n : Int), .int .i64 (ln : Int), .int .i64 (m : Int), .int .i64 (ee : Int)] 24) (.cells #[.int .i64 (er : Int), .int .i64 (fl : Int)] 27)).mono HB2.out.size))
          have HY2 := Lib.hid (HW2.out.below (two w2 (.cells #[.int .u8 (k : Int), .string DS, .int .i64 (n : Int), .int .i64 (ln : Int), .int .i64 (m : Int), .int .i64 (ee : Int)] 24) (.cells #[.int .i64 (er : Int), .int .i64 (fl : Int)] 27)))
          go_wp2_with fail
          refine (HAW.out _ HY2.out).mono ?_
          rintro e w3 ⟨he, hb⟩
          subst he
          have HB := Lib.hid (HX2.out.trans (hb.mono HX2.out.size))
          clear hb
          go_wp2_with fail
          go_ret
          exact ⟨rfl, HB.out⟩
        · have d3 : decide ((S.size : Int) ≤ (ee : Int)) = true := decide_eq_true (by omega)
          have d3' : decide (S.size ≤ ee) = true := decide_eq_true (by omega)
          clear h0 h6 HN2 he
          go_wp2_with (go_at_call 14; refine (HAW.out _ HY.out).mono ?_; rintro e w2 ⟨he, hb⟩; subst he; have HB := Lib.hid (HX.out.trans (hb.mono HX.out.size)); clear hb)
          go_ret
          exact ⟨rfl, HB.out⟩
    · have e0 : ((er : Int) != 0) = true := bne_iff_ne.2 (by omega)
      clear h0 HN2
      go_wp2_with (go_at_call 14; refine (HAW.out _ HY.out).mono ?_; rintro e w2 ⟨he, hb⟩; subst he; have HB := Lib.hid (HX.out.trans (hb.mono HX.out.size)); clear hb)
      go_ret
      exact ⟨rfl, HB.out⟩

set_option maxRecDepth 100000 in
theorem lifted (os : Os) (started : os.Started) (H : Type) (enc : TypeId × Value → H) :
    ReturnsInHanded {} Tryd.checked os 8 .any (fun w args => (Rows.wordsNearSpec.pre enc Tryd.prog Tryd.f8 [] false w args ∧ laidMetH Tryd.prog laidW w) ∧ sizedMet enc Tryd.prog Tryd.f8 (OpenSpec.ofChange Rows.wordsNearSpec) false w args) (Rows.wordsNearSpec.post enc Tryd.prog Tryd.f8 false true false false) := by
  refine returnsInHanded_of_change_and (C := Tryd.checked) (X := fun w _ => laidMetH Tryd.prog laidW w) (fun _ _ _ hh h => h.of_heap hh) knob_own started (by kernel_rfl) Tryd.func8
    (ChangeSpec.witness_shaped (enc := enc) (C := Tryd.checked) (os := os) (X := fun w _ => laidMetH Tryd.prog laidW w) false (World.doorLaid Tryd.prog 400 os) #[.string ⟨#[]⟩, .int .i64 0, .string ⟨#[]⟩] 8 rfl (World.shaped_of_RefB (by kernel_rfl) (by kernel_rfl)) (by kernel_rfl) (by kernel_rfl) (by kernel_rfl) (doorW_met os _)) ?_
  intro W base args ds gs before hval0 hW _ _ hL _
  have hval : ∀ (j : Nat) t v, Tryd.f8.params[j]? = some t → args[j]? = some v → Value.okWide Tryd.prog W .any base t v := hval0
  have hW' := hW
  obtain ⟨p, q, hA0, hV, rfl, hfz, hnd⟩ := hW
  have hA : DataW.TrodAll enc Tryd.prog W 0 (fun _ => true) true Tryd.f8.params.toList args.toList ds p := hA0
  rw [Tryd.params8] at hA hval
  obtain ⟨v0, vs0, d0, ds0, p0, q0, hargs, rfl, rfl, h0, r0⟩ := trodAll_cons hA
  obtain ⟨v1, vs1, d1, ds1, p1, q1, rfl, rfl, rfl, h1, r1⟩ := trodAll_cons r0
  obtain ⟨v2, vs2, d2, ds2, p2, q2, rfl, rfl, rfl, h2, r2⟩ := trodAll_cons r1
  obtain ⟨rfl, rfl, rfl⟩ := trodAll_nil r2
  obtain rfl : args = #[v0, v1, v2] := by cases args; simp_all
  obtain ⟨rfl, rfl⟩ := trodVars_none hV
  have k0 := h0
  have lt0 : ∀ x ∈ p0, x.block < W.heap.size := by obtain ⟨m, hm⟩ := k0; exact DataW.trod_lt m _ _ _ hm
  obtain ⟨S0, rfl, _, _, w0⟩ := Go.ChangeMaps.open_string Tryd.underlying9 (hval 0 9 v0 rfl rfl) h0
  have lt1 : ∀ x ∈ p1, x.block < W.heap.size := by obtain ⟨m, hm⟩ := h1; exact DataW.trod_lt m _ _ _ hm
  have k1 := h1
  obtain ⟨a1, rfl, _, _, w1⟩ := open_int Tryd.underlying3 (hval 1 3 v1 rfl rfl) h1
  have k2 := h2
  have lt2 : ∀ x ∈ p2, x.block < W.heap.size := by obtain ⟨m, hm⟩ := k2; exact DataW.trod_lt m _ _ _ hm
  obtain ⟨S2, rfl, _, _, w2⟩ := Go.ChangeMaps.open_string Tryd.underlying9 (hval 2 9 v2 rfl rfl) h2
  clear hA0 hval0
  refine (walk W (wt_laid hL) S0 a1 S2 w0 w1 w2).mono fun e W' ⟨he, bel⟩ => ?_
  subst he
  exact ⟨_, rfl, _, _, _, [], _, [], hW', trodAll_mk1 (shut_bool Tryd.underlying4 _), (trodAll_cons_mk (Below.trod laid_out (by kernel_rfl) (of_decide_eq_true (by kernel_rfl)) k0 bel lt0) (trodAll_cons_mk (Below.trod laid_out (by kernel_rfl) (of_decide_eq_true (by kernel_rfl)) k1 bel lt1) (trodAll_cons_mk (Below.trod laid_out (by kernel_rfl) (of_decide_eq_true (by kernel_rfl)) k2 bel lt2) (trodAll_mk0)))), rfl, bel.frame _, fun h => by cases h⟩

theorem over : Rows.wordsNearRow.holds Tryd.pinned (OpenSpec.ofChange Rows.wordsNearSpec) :=
  OpenClaim.holds_of_wide 8 Tryd.f8 rfl rfl rfl rfl rfl rfl rfl ⟨rfl, rfl, rfl, rfl, rfl⟩ rfl rfl rfl rfl rfl (by kernel_rfl) Tryd.func8 (by kernel_rfl)
    (of_decide_eq_true (by kernel_rfl)) (by unfold Func.isWrapper; first | (rw [if_pos (by decide +kernel)]; kernel_rfl) | (rw [if_neg (by decide +kernel)]; exact ⟨rfl, rfl⟩))
    (fun os started H enc _ => lifted os started H enc)

theorem proved : Rows.WordsNearCardSaid :=
  Claim7.holds_tied_plain_at .later [] [.data, .data, .data, .sentinel, .sentinel, .data] true Rows.wordsNearCard.stood.harness Rows.wordsNearCard.stood.looks
    over (fun _ h => by cases h) (by kernel_rfl) (fun _ h => by cases h) wordsNear_row_tie rfl ⟨rfl, rfl⟩ (by kernel_rfl) rfl
    (fun f fn hf hfn => by
      obtain rfl : f = 8 := Option.some.inj ((show Tryd.prog.funcNamed "drover/droverlaw08.WordsNear" = some 8 by kernel_rfl).symm.trans hf) |>.symm
      obtain rfl : fn = Tryd.f8 := (Option.some.inj (Tryd.func8.symm.trans hfn)).symm
      exact ⟨by kernel_rfl, fun j t ht => by
        have hall : (Tryd.f8.params.toList.all fun u => !Tryd.prog.wantsStandIn u) = true := by kernel_rfl
        have hm : t ∈ Tryd.f8.params.toList := Array.mem_toList_iff.2 (Array.mem_of_getElem? ht)
        exact (show Tryd.prog.wantsStandIn t = false by simpa using List.all_eq_true.1 hall t hm)⟩)
    (by kernel_rfl)
end Go.Proofs.YtndppffaijcjdaaDoor.wordsNear
