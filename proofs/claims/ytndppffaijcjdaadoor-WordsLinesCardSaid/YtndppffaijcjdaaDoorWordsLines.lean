/- droverlaw08.WordsLines returns true whatever its argument: the line of a token is one, and one more for each end of a line ahead of it. For every input, without conditions. -/
import Derived.Test.YtndppffaijcjdaaDoorRow
import Derived.Test.YtndppffaijcjdaaDoorWl
import Derived.Test.YtndppffaijcjdaaDoorDoor08
import Derived.Test.YtndppffaijcjdaaDoorCards
import Derived.SevenTiedAt
import Derived.Test.YtndppffaijcjdaaDoorWm
import Derived.Deep.QuietTactic
import Derived.BigQuiet
import Derived.IntWalk
import Derived.Deep.RegionHeld3
namespace Go.Proofs.YtndppffaijcjdaaDoor.wordsLines
open Go.ChangeShapes Go.WideShapes Go.ChangeAt Go.RowKit
set_option linter.unusedVariables false

def CutU (s : Value) : Prop := ∃ U : List Nat, (∀ x ∈ U, x < 256) ∧ U.length ≤ 1000 ∧ s = .string (strOf U)
theorem lines_str {T : List Nat} {A : ByteArray} {c : Nat} (hA : strOf T = A) (hc : T.count 10 = c) (h8 : ∀ x ∈ T, x < 256) (w : World) : Calls Tryd.prog 15 #[.string A, .string ⟨#[10]⟩] w fun e w' => e = .returned (.int .i64 (c : Int)) ∧ w' = w := by
  subst hA hc
  exact lines_any T h8 w
theorem tok_six {l : List Nat} {t : Tk} (h : tok l = some t) (h6 : t.k = 6) : l = [] ∧ t.e = 0 := by
  have h1 := ((tok_pos h).2.1).1 h6
  subst h1
  rw [tok_nil] at h
  cases h
  exact ⟨rfl, rfl⟩

set_option maxRecDepth 100000 in
set_option maxHeartbeats 4000000 in
theorem walk (w : World) (htab : Wt w) (S0 : ByteArray) (w0 : S0.size ≤ maxLen) :
    Calls Tryd.prog 5 #[.string S0] w fun e w' => e = .returned (.bool true) ∧ Below w.heap.size w w' := by
  obtain ⟨T, rfl, h8, hT⟩ := str_open S0
  have HW0 := Lib.hid htab
  have HAW := Lib.hid (fun w hw => awake08_any w hw)
  have HX := Lib.hid (fun a b => strOf_extract T a b)
  have H8 := Lib.hid h8
  have HTT := Lib.hid hT
  obtain ⟨S, hS⟩ : ∃ S, Hid (strOf T = S) := ⟨_, Lib.hid rfl⟩
  rw [hS.out] at HX HTT ⊢
  clear htab h8 hT w0
  go_enter Tryd.func5, Tryd.ntmps5
  go_upto_if 9 with (fail)
  go_cut [0] (fun s wx => Hid (CutU s) ∧ w = wx)
  case first =>
    by_cases hb : 1000 < S.size
    · have d1 : decide ((1000 : Int) < (S.size : Int)) = true := decide_eq_true (by omega)
      have d1' : decide (1000 < S.size) = true := decide_eq_true (by omega)
      have hl : 1000 ≤ S.size := by omega
      go_wp2_with fail
      go_meet
      refine ⟨Lib.hid ⟨T.take 1000, fun x hx => H8.out x (List.mem_of_mem_take hx), List.length_take_le _ _, ?_⟩, rfl⟩
      rw [HX.out, List.drop_zero]
    · have d1 : decide ((1000 : Int) < (S.size : Int)) = false := decide_eq_false (by omega)
      have d1' : decide (1000 < S.size) = false := decide_eq_false (by omega)
      go_wp2_with fail
      go_meet
      exact ⟨Lib.hid ⟨T, H8.out, by rw [HTT.out]; omega, by rw [hS.out]⟩, rfl⟩
  case rest =>
    obtain ⟨HC, rfl⟩ := hcut
    obtain ⟨U, hU8, hUl, rfl⟩ := HC.out
    have HU8 := Lib.hid hU8
    have HXU := Lib.hid (fun a b => strOf_extract U a b)
    have hz : (strOf U).size = U.length := strOf_size _
    have HNX := Lib.hid (fun (a : Int) (V : Value) (hV : nxtV U a = V) (w : World) (hw : Wt w) => next_ans hV hU8 (by omega) w hw)
    have HCT := Lib.hid (fun (c : Nat) (hc : U.count 10 = c) (w : World) => lines_str (A := strOf U) rfl hc hU8 w)
    obtain ⟨L, hL⟩ : ∃ L, Hid (strOf U = L) := ⟨_, Lib.hid rfl⟩
    rw [hL.out] at hz HXU HNX HCT ⊢
    have HZ := Lib.hid hz
    clear hz hU8 HC
    go_wp2_with fail
    go_loopw [3, 4] (fun a n wr => ∃ at_ j : Nat, j ≤ at_ ∧ at_ ≤ U.length ∧ a = .int .i64 (at_ : Int) ∧ n = .int .i64 (j : Int) ∧ Hid (Below w.heap.size w wr)) (fun _ n _ => 1100 - (intOf n).toNat)
    case atStart => exact ⟨0, 0, by omega, by omega, rfl, rfl, Lib.hid (Below.refl _ _)⟩
    case round =>
      obtain ⟨at_, j, hja, hau, rfl, rfl, HBr⟩ := hrel
      obtain ⟨k, DS, n, ln, m, ee, er, fl, hV, hf, hg⟩ := nxt_form U (at_ : Int)
      have HN := Lib.hid (HNX.out _ _ hV wr (HW0.out.below HBr.out))
      have HWr := Lib.hid (HW0.out.below HBr.out)
      unfold ansV at HN
      have j1 : decide ((j : Int) < 1100) = true := decide_eq_true (by omega)
      have j1' : decide (j < 1100) = true := decide_eq_true (by omega)
      rw [Int.toNat_natCast] at hf hg
      have hW := atW_le hau
      have hG := lnW_ge hau
      by_cases h0 : er = 0
      · have e0 : ((er : Int) != 0) = false := by rw [h0]; rfl
        obtain ⟨-, -, -, -, t, ht, hk, -, -, hln, hm, hee⟩ := hf h0
        have hle : m ≤ U.length := by omega
        have hext : L.extract 0 m = strOf (U.take m) := by rw [HXU.out, List.drop_zero]
        have HCM := Lib.hid (fun w => lines_str (T := U.take m) rfl rfl (fun x hx => HU8.out x (List.mem_of_mem_take hx)) w)
        have hlnc : 1 + ((U.take m).count 10 : Int) = (ln : Int) := by rw [hln, hm]; unfold lnW; omega
        have hcb : (U.take m).count 10 ≤ U.length := Nat.le_trans List.count_le_length (by rw [List.length_take]; omega)
        have h6 : k = 6 → m = U.length ∧ ee = U.length := by
          intro h6
          have h7 := tok_six ht (by omega)
          have h8 : (U.drop (atW U at_)).length = 0 := by rw [h7.1]; rfl
          rw [List.length_drop] at h8
          omega
        have h7 : k ≠ 6 → at_ < ee ∧ ee ≤ U.length := by
          intro h6
          have h7 := tok_pos ht
          have h8 : U.drop (atW U at_) ≠ [] := fun e => h6 (by rw [hk]; exact h7.2.1.2 e)
          have h9 := h7.2.2.1 h8
          rw [List.length_drop] at h7
          omega
        obtain ⟨D, hD⟩ : ∃ D, Hid (strOf (U.take m) = D) := ⟨_, Lib.hid rfl⟩
        obtain ⟨c, hc⟩ : ∃ c, Hid ((U.take m).count 10 = c) := ⟨_, Lib.hid rfl⟩
        rw [hD.out] at hext HCM
        rw [hc.out] at HCM hlnc hcb
        have hmL : m ≤ L.size := by have := HZ.out; omega
        have hpw : IntKind.i64.wrap (ln : Int) = (ln : Int) := IntWalk.i64_in _ (by omega)
        have HPW := Lib.hid hpw
        have hll : ln ≤ 2000 := by omega
        have HLC := Lib.hid hlnc
        clear hpw hlnc
        clear hf hg hW hG ht hk hln hm hee h0 hV
        go_wp2_with fail
        refine HN.out.mono ?_
        rintro e w1 ⟨he, hb⟩
        subst he
        have HB1 := Lib.hid (HBr.out.trans (hb.mono HBr.out.size))
        have HW1 := Lib.hid (HWr.out.below hb)
        clear hb
        have HX1 := Lib.hid (HB1.out.trans ((two w1 (.cells #[.int .u8 (k : Int), .string DS, .int .i64 (n : Int), .int .i64 (ln : Int), .int .i64 (m : Int), .int .i64 (ee : Int)] 24) (.cells #[.int .i64 (er : Int), .int .i64 (fl : Int)] 27)).mono HB1.out.size))
        have HY1 := Lib.hid (HW1.out.below (two w1 (.cells #[.int .u8 (k : Int), .string DS, .int .i64 (n : Int), .int .i64 (ln : Int), .int .i64 (m : Int), .int .i64 (ee : Int)] 24) (.cells #[.int .i64 (er : Int), .int .i64 (fl : Int)] 27)))
        go_wp2_with fail
        have hlnc := HLC.out
        have hpw := HPW.out
        go_quiet ((go_at_call 15; exact Calls.quiet_of_same (HCM.out _)))
        clear hlnc hpw
        have HX2 := Lib.hid (below_drewN HX1.out nq)
        have HY2 := Lib.hid (HY1.out.below (below_drewN (Below.refl _ _) nq))
        have HP := Lib.hid (show (((w1.alloc (.cells #[.int .u8 (k : Int), .string DS, .int .i64 (n : Int), .int .i64 (ln : Int), .int .i64 (m : Int), .int .i64 (ee : Int)] 24)).alloc (.cells #[.int .i64 (er : Int), .int .i64 (fl : Int)] 27)).drewN nq).heap[w1.heap.size]? = some (.cells #[.int .u8 (k : Int), .string DS, .int .i64 (n : Int), .int .i64 (ln : Int), .int .i64 (m : Int), .int .i64 (ee : Int)] 24) from heap_old (heap_new _ _) _)
        obtain ⟨w2, hw2⟩ : ∃ w2, w2 = ((w1.alloc (.cells #[.int .u8 (k : Int), .string DS, .int .i64 (n : Int), .int .i64 (ln : Int), .int .i64 (m : Int), .int .i64 (ee : Int)] 24)).alloc (.cells #[.int .i64 (er : Int), .int .i64 (fl : Int)] 27)).drewN nq := ⟨_, rfl⟩
        rw [← hw2] at HX2 HY2 HP ⊢
        clear hw2
        obtain ⟨c0, c1, c2, c3, c4, c5, -⟩ := box6 HP.out
        by_cases hk6 : k = 6
        · obtain ⟨ha, hb⟩ := h6 hk6
          have e6 : ((k : Int) == 6) = true := by rw [hk6]; rfl
          have em : m = L.size := by rw [ha]; exact HZ.out.symm
          have ee2 : ee = L.size := by rw [hb]; exact HZ.out.symm
          clear hk6 h6 h7 ha hb
          subst em ee2
          go_wp2_with fail
          refine (HAW.out _ HY2.out).mono ?_
          rintro e w3 ⟨he, hb⟩
          subst he
          have HB3 := Lib.hid (HX2.out.trans (hb.mono HX2.out.size))
          clear hb
          go_wp2_with fail
          go_ret
          exact ⟨rfl, HB3.out⟩
        · obtain ⟨ha, hb⟩ := h7 hk6
          have e6 : ((k : Int) == 6) = false := beq_eq_false_iff_ne.2 (by omega)
          clear hk6 h6 h7
          go_wp2_with fail
          go_roundw
          case rel => exact ⟨ee, j + 1, by omega, hb, rfl, by go_num, HX2⟩
          case measure => simp [intOf]; omega
      · obtain ⟨he1, hfl, -⟩ := hg h0 (by omega) (by omega) (by omega)
        clear hf hg h0
        subst he1
        have hext : L.extract 0 at_ = strOf (U.take at_) := by rw [HXU.out, List.drop_zero]
        have HCM := Lib.hid (fun w => lines_str (T := U.take at_) rfl rfl (fun x hx => HU8.out x (List.mem_of_mem_take hx)) w)
        have HCA := Lib.hid (fun w => HCT.out _ rfl w)
        obtain ⟨D, hD⟩ : ∃ D, Hid (strOf (U.take at_) = D) := ⟨_, Lib.hid rfl⟩
        obtain ⟨c, hc⟩ : ∃ c, Hid ((U.take at_).count 10 = c) := ⟨_, Lib.hid rfl⟩
        obtain ⟨ca, hca⟩ : ∃ c, Hid (U.count 10 = c) := ⟨_, Lib.hid rfl⟩
        rw [hD.out] at hext HCM
        rw [hc.out] at HCM hG
        rw [hca.out] at HCA hG
        rw [← hfl] at hG
        have hca2 : ca ≤ U.length := by rw [← hca.out]; exact List.count_le_length
        have haL : at_ ≤ L.size := by have := HZ.out; omega
        have q1 : decide ((1 : Int) + (c : Int) ≤ (fl : Int)) = true := decide_eq_true (by omega)
        have q2 : decide ((fl : Int) ≤ 1 + (ca : Int)) = true := decide_eq_true (by omega)
        have q3 : IntKind.i64.wrap (1 + (c : Int)) = 1 + (c : Int) := IntWalk.i64_in _ (by omega)
        have q4 : IntKind.i64.wrap (1 + (ca : Int)) = 1 + (ca : Int) := IntWalk.i64_in _ (by omega)
        have Q3 := Lib.hid q3
        have Q4 := Lib.hid q4
        clear q3 q4 hV hfl hW hG
        go_wp2_with fail
        refine HN.out.mono ?_
        rintro e w1 ⟨he, hb⟩
        subst he
        have HB1 := Lib.hid (HBr.out.trans (hb.mono HBr.out.size))
        have HW1 := Lib.hid (HWr.out.below hb)
        clear hb
        have HX1 := Lib.hid (HB1.out.trans ((two w1 (.cells #[.int .u8 (k : Int), .string DS, .int .i64 (n : Int), .int .i64 (ln : Int), .int .i64 (m : Int), .int .i64 (ee : Int)] 24) (.cells #[.int .i64 ((100 : Nat) : Int), .int .i64 (fl : Int)] 27)).mono HB1.out.size))
        have HY1 := Lib.hid (HW1.out.below (two w1 (.cells #[.int .u8 (k : Int), .string DS, .int .i64 (n : Int), .int .i64 (ln : Int), .int .i64 (m : Int), .int .i64 (ee : Int)] 24) (.cells #[.int .i64 ((100 : Nat) : Int), .int .i64 (fl : Int)] 27)))
        go_wp2_with fail
        have q3 := Q3.out
        have q4 := Q4.out
        have HF := Lib.hid (show ((w1.alloc (.cells #[.int .u8 (k : Int), .string DS, .int .i64 (n : Int), .int .i64 (ln : Int), .int .i64 (m : Int), .int .i64 (ee : Int)] 24)).alloc (.cells #[.int .i64 ((100 : Nat) : Int), .int .i64 (fl : Int)] 27)).drew.heap[w1.heap.size + 1]? = some (.cells #[.int .i64 ((100 : Nat) : Int), .int .i64 (fl : Int)] 27) from heap_new' _ _ _ (by simp))
        have HXd := Lib.hid (below_drewN HX1.out 1)
        have HYd := Lib.hid (HY1.out.below (below_drewN (Below.refl _ _) 1))
        obtain ⟨f0, f1, -, -⟩ := box2 HF.out
        go_region_held3 (fun w' => w'.cell? ⟨w1.heap.size + 1, 0, none⟩ = some (.int .i64 100) ∧ w'.cell? ⟨w1.heap.size + 1, 1, none⟩ = some (.int .i64 (fl : Int))) (go_keep)
          (first
            | (go_at_call 15
               ((with_reducible refine (HCM.out _).mono ?_); rintro e w' ⟨he, hw⟩; subst hw; subst he))
            | (go_at_call 15
               ((with_reducible refine (HCA.out _).mono ?_); rintro e w' ⟨he, hw⟩; subst hw; subst he))
            | (go_at_call 14
               refine (HAW.out _ HYd.out).mono ?_
               rintro e w3 ⟨he, hb⟩
               subst he
               have HB3 := Lib.hid (HXd.out.trans (hb.mono HXd.out.size))
               obtain ⟨f2, f3, -, -⟩ := box2 (heap_below HF.out hb)
               clear hb)
            | (fail))
        all_goals
          go_wp2_with fail
          go_ret
          exact ⟨rfl, HB3.out⟩

set_option maxRecDepth 100000 in
theorem lifted (os : Os) (started : os.Started) (H : Type) (enc : TypeId × Value → H) :
    ReturnsInHanded {} Tryd.checked os 5 .any (fun w args => (Rows.wordsLinesSpec.pre enc Tryd.prog Tryd.f5 [] false w args ∧ laidMetH Tryd.prog laidW w) ∧ sizedMet enc Tryd.prog Tryd.f5 (OpenSpec.ofChange Rows.wordsLinesSpec) false w args) (Rows.wordsLinesSpec.post enc Tryd.prog Tryd.f5 false true false false) := by
  refine returnsInHanded_of_change_and (C := Tryd.checked) (X := fun w _ => laidMetH Tryd.prog laidW w) (fun _ _ _ hh h => h.of_heap hh) knob_own started (by kernel_rfl) Tryd.func5
    (ChangeSpec.witness_shaped (enc := enc) (C := Tryd.checked) (os := os) (X := fun w _ => laidMetH Tryd.prog laidW w) false (World.doorLaid Tryd.prog 400 os) #[.string ⟨#[]⟩] 8 rfl (World.shaped_of_RefB (by kernel_rfl) (by kernel_rfl)) (by kernel_rfl) (by kernel_rfl) (by kernel_rfl) (doorW_met os _)) ?_
  intro W base args ds gs before hval0 hW _ _ hL _
  have hval : ∀ (j : Nat) t v, Tryd.f5.params[j]? = some t → args[j]? = some v → Value.okWide Tryd.prog W .any base t v := hval0
  have hW' := hW
  obtain ⟨p, q, hA0, hV, rfl, hfz, hnd⟩ := hW
  have hA : DataW.TrodAll enc Tryd.prog W 0 (fun _ => true) true Tryd.f5.params.toList args.toList ds p := hA0
  rw [Tryd.params5] at hA hval
  obtain ⟨v0, vs0, d0, ds0, p0, q0, hargs, rfl, rfl, h0, r0⟩ := trodAll_cons hA
  obtain ⟨rfl, rfl, rfl⟩ := trodAll_nil r0
  obtain rfl : args = #[v0] := by cases args; simp_all
  obtain ⟨rfl, rfl⟩ := trodVars_none hV
  have k0 := h0
  have lt0 : ∀ x ∈ p0, x.block < W.heap.size := by obtain ⟨m, hm⟩ := k0; exact DataW.trod_lt m _ _ _ hm
  obtain ⟨S0, rfl, _, _, w0⟩ := Go.ChangeMaps.open_string Tryd.underlying9 (hval 0 9 v0 rfl rfl) h0
  clear hA0 hval0
  refine (walk W (wt_laid hL) S0 w0).mono fun e W' ⟨he, bel⟩ => ?_
  subst he
  exact ⟨_, rfl, _, _, _, [], _, [], hW', trodAll_mk1 (shut_bool Tryd.underlying4 _), (trodAll_cons_mk (Below.trod laid_out (by kernel_rfl) (of_decide_eq_true (by kernel_rfl)) k0 bel lt0) (trodAll_mk0)), rfl, bel.frame _, fun h => by cases h⟩

theorem over : Rows.wordsLinesRow.holds Tryd.pinned (OpenSpec.ofChange Rows.wordsLinesSpec) :=
  OpenClaim.holds_of_wide 5 Tryd.f5 rfl rfl rfl rfl rfl rfl rfl ⟨rfl, rfl, rfl, rfl, rfl⟩ rfl rfl rfl rfl rfl (by kernel_rfl) Tryd.func5 (by kernel_rfl)
    (of_decide_eq_true (by kernel_rfl)) (by unfold Func.isWrapper; first | (rw [if_pos (by decide +kernel)]; kernel_rfl) | (rw [if_neg (by decide +kernel)]; exact ⟨rfl, rfl⟩))
    (fun os started H enc _ => lifted os started H enc)

theorem proved : Rows.WordsLinesCardSaid :=
  Claim7.holds_tied_plain_at .later [] [.data, .data, .data, .sentinel, .sentinel, .data] true Rows.wordsLinesCard.stood.harness Rows.wordsLinesCard.stood.looks
    over (fun _ h => by cases h) (by kernel_rfl) (fun _ h => by cases h) wordsLines_row_tie rfl ⟨rfl, rfl⟩ (by kernel_rfl) rfl
    (fun f fn hf hfn => by
      obtain rfl : f = 5 := Option.some.inj ((show Tryd.prog.funcNamed "drover/droverlaw08.WordsLines" = some 5 by kernel_rfl).symm.trans hf) |>.symm
      obtain rfl : fn = Tryd.f5 := (Option.some.inj (Tryd.func5.symm.trans hfn)).symm
      exact ⟨by kernel_rfl, fun j t ht => by
        have hall : (Tryd.f5.params.toList.all fun u => !Tryd.prog.wantsStandIn u) = true := by kernel_rfl
        have hm : t ∈ Tryd.f5.params.toList := Array.mem_toList_iff.2 (Array.mem_of_getElem? ht)
        exact (show Tryd.prog.wantsStandIn t = false by simpa using List.all_eq_true.1 hall t hm)⟩)
    (by kernel_rfl)
end Go.Proofs.YtndppffaijcjdaaDoor.wordsLines
