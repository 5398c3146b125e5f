/- droverlaw08.WordsBlanks returns true whatever its argument: tokens told one behind the other rise and never overlap, are the same with blanks between, and what is quoted is told again. For every input, without conditions. -/
import Derived.Test.YtndppffaijcjdaaDoorRow
import Derived.Test.YtndppffaijcjdaaDoorWl
import Derived.Test.YtndppffaijcjdaaDoorDoor08
import Derived.Test.YtndppffaijcjdaaDoorCards
import Derived.SevenTiedAt
import Derived.Test.YtndppffaijcjdaaDoorWn
import Derived.Deep.QuietTactic
import Derived.BigQuiet
import Derived.IntWalk
namespace Go.Proofs.YtndppffaijcjdaaDoor.wordsBlanks
open Go.ChangeShapes Go.WideShapes Go.ChangeAt Go.RowKit
set_option linter.unusedVariables false

def CutU (s : Value) : Prop := ∃ U : List Nat, (∀ x ∈ U, x < 256) ∧ U.length ≤ 1000 ∧ s = .string (strOf U)

set_option maxRecDepth 100000 in
set_option maxHeartbeats 8000000 in
theorem walk (w : World) (htab : Wt w) (S0 : ByteArray) (w0 : S0.size ≤ maxLen) :
    Calls Tryd.prog 4 #[.string S0] w fun e w' => e = .returned (.bool true) ∧ Below w.heap.size w w' := by
  obtain ⟨T, rfl, h8, hT⟩ := str_open S0
  have HW0 := Lib.hid htab
  have HAW := Lib.hid (fun w hw => awake08_any w hw)
  have HX := Lib.hid (fun a b => strOf_extract T a b)
  have H8 := Lib.hid h8
  have HTT := Lib.hid hT
  obtain ⟨S, hS⟩ : ∃ S, Hid (strOf T = S) := ⟨_, Lib.hid rfl⟩
  rw [hS.out] at HX HTT ⊢
  clear htab h8 hT w0
  go_enter Tryd.func4, Tryd.ntmps4
  go_upto_if 17 with (fail)
  go_cut [0] (fun s wx => Hid (CutU s) ∧ w = wx)
  case first =>
    by_cases hb : 1000 < S.size
    · have d1 : decide ((1000 : Int) < (S.size : Int)) = true := decide_eq_true (by omega)
      have d1' : decide (1000 < S.size) = true := decide_eq_true (by omega)
      have hl : 1000 ≤ S.size := by omega
      go_wp2_with fail
      go_meet
      refine ⟨Lib.hid ⟨T.take 1000, fun x hx => H8.out x (List.mem_of_mem_take hx), List.length_take_le _ _, ?_⟩, rfl⟩
      rw [HX.out, List.drop_zero]
    · have d1 : decide ((1000 : Int) < (S.size : Int)) = false := decide_eq_false (by omega)
      have d1' : decide (1000 < S.size) = false := decide_eq_false (by omega)
      go_wp2_with fail
      go_meet
      exact ⟨Lib.hid ⟨T, H8.out, by rw [HTT.out]; omega, by rw [hS.out]⟩, rfl⟩
  case rest =>
    obtain ⟨HC, rfl⟩ := hcut
    obtain ⟨U, hU8, hUl, rfl⟩ := HC.out
    have HU8 := Lib.hid hU8
    have HXU := Lib.hid (fun a b => strOf_extract U a b)
    have hz : (strOf U).size = U.length := strOf_size _
    have HNX := Lib.hid (fun (a : Int) (V : Value) (hV : nxtV U a = V) (w : World) (hw : Wt w) => next_ans hV hU8 (by omega) w hw)
    have HQU := Lib.hid (fun w => quote_any U hU8 (by omega) w)
    have HQN := Lib.hid (fun w hw => next_ans (nxt_quoted U hU8 (by omega)) (fun x hx => by have := quoW_bytes U hU8 x hx; omega) (by have := quoW_len U; omega) w hw)
    unfold ansV at HQN
    obtain ⟨L, hL⟩ : ∃ L, Hid (strOf U = L) := ⟨_, Lib.hid rfl⟩
    rw [hL.out] at hz HXU HNX HQU HQN ⊢
    obtain ⟨QS, hQS⟩ : ∃ L, Hid (strOf (quoW U) = L) := ⟨_, Lib.hid rfl⟩
    rw [hQS.out] at HQU HQN
    have HZ := Lib.hid hz
    clear hz hU8 HC
    go_wp2_with fail
    refine (HQU.out _).mono ?_
    rintro e wa ⟨he, hb⟩
    subst he
    have HBa := Lib.hid hb
    have HWa := Lib.hid (HW0.out.below hb)
    clear hb
    go_wp2_with fail
    refine (HQN.out _ HWa.out).mono ?_
    rintro e wb ⟨he, hb⟩
    subst he
    have HBb := Lib.hid (HBa.out.trans (hb.mono HBa.out.size))
    have HWb := Lib.hid (HWa.out.below hb)
    clear hb
    go_upto_region 4 with (fail)
    have HPq := Lib.hid (show ((wb.alloc (.cells #[.int .u8 2, .string L, .int .i64 0, .int .i64 1, .int .i64 0, .int .i64 ((quoW U).length : Int)] 24)).alloc (.cells #[.int .i64 0, .int .i64 0] 27)).heap[wb.heap.size]? = some (.cells #[.int .u8 2, .string L, .int .i64 0, .int .i64 1, .int .i64 0, .int .i64 ((quoW U).length : Int)] 24) from heap_old (heap_new _ _) _)
    have HFq := Lib.hid (show ((wb.alloc (.cells #[.int .u8 2, .string L, .int .i64 0, .int .i64 1, .int .i64 0, .int .i64 ((quoW U).length : Int)] 24)).alloc (.cells #[.int .i64 0, .int .i64 0] 27)).heap[wb.heap.size + 1]? = some (.cells #[.int .i64 0, .int .i64 0] 27) from heap_new' _ _ _ (by simp))
    have HBB := Lib.hid (HBb.out.trans ((two wb (.cells #[.int .u8 2, .string L, .int .i64 0, .int .i64 1, .int .i64 0, .int .i64 ((quoW U).length : Int)] 24) (.cells #[.int .i64 0, .int .i64 0] 27)).mono HBb.out.size))
    have HWB := Lib.hid (HWb.out.below (two wb (.cells #[.int .u8 2, .string L, .int .i64 0, .int .i64 1, .int .i64 0, .int .i64 ((quoW U).length : Int)] 24) (.cells #[.int .i64 0, .int .i64 0] 27)))
    obtain ⟨wB, hwB⟩ : ∃ wB, wB = (wb.alloc (.cells #[.int .u8 2, .string L, .int .i64 0, .int .i64 1, .int .i64 0, .int .i64 ((quoW U).length : Int)] 24)).alloc (.cells #[.int .i64 0, .int .i64 0] 27) := ⟨_, rfl⟩
    obtain ⟨gF, hgF⟩ : ∃ g, g = wb.heap.size + 1 := ⟨_, rfl⟩
    rw [← hwB] at HPq HFq HBB HWB ⊢
    rw [← hgF] at HFq ⊢
    have HGF : Hid (w.heap.size ≤ gF ∧ gF < wB.heap.size) := Lib.hid ⟨by have := HBb.out.size; omega, lt_heap HFq.out⟩
    clear hwB hgF
    obtain ⟨y0, y1, y2, y3, y4, y5, -⟩ := box6 HPq.out
    obtain ⟨f0, f1, -, -⟩ := box2 HFq.out
    obtain ⟨Bs, hBs⟩ : ∃ B, Hid (wB.heap.size = B) := ⟨_, Lib.hid rfl⟩
    go_wp2_with fail
    clear y0 y1 y2 y3 y4 y5 f0 f1
    go_loopw [5, 6, 7, 8] (fun lv sv av nv wr => ∃ (ws : List Wd) (a j : Nat), j ≤ a ∧ a ≤ U.length ∧ sv = .string (strOf (says (ws.map Wd.p))) ∧ av = .int .i64 (a : Int) ∧ nv = .int .i64 (j : Int) ∧ Hid (wr.ownsRow Bs 24 6 lv ws.length (wCs ws) ∧ Below Bs wB wr ∧ (∀ x ∈ ws.map Wd.p, Pc x.1 x.2) ∧ (says (ws.map Wd.p)).length ≤ 10 * a ∧ ws.length ≤ a ∧ (∀ y ∈ says (ws.map Wd.p), y < 256))) (fun _ _ _ nv _ => 1100 - (intOf nv).toNat)
    case atStart => exact ⟨[], 0, 0, by omega, by omega, rfl, rfl, rfl, Lib.hid ⟨World.ownsRow_nil _ _ _ 6, Below.refl _ _, by simp, by simp [says], by simp, by simp [says]⟩⟩
    case round =>
      obtain ⟨ws, a, j, hja, hau, rfl, rfl, rfl, HJ⟩ := hrel
      obtain ⟨k, DS, n, ln, m, ee, er, fl, hV, hf, -⟩ := nxt_form U (a : Int)
      have HBr : Hid (Below w.heap.size w wr) := Lib.hid (HBB.out.trans (HJ.out.2.1.mono (by have := hBs.out; have := HBB.out.size; omega)))
      have HWr := Lib.hid (HW0.out.below HBr.out)
      have HN := Lib.hid (HNX.out _ _ hV wr HWr.out)
      unfold ansV at HN
      have j1 : decide ((j : Int) < 1100) = true := decide_eq_true (by omega)
      have j1' : decide (j < 1100) = true := decide_eq_true (by omega)
      rw [Int.toNat_natCast] at hf
      have hW := atW_le hau
      by_cases hgo : er = 0 ∧ k ≠ 6
      · obtain ⟨h0, h6⟩ := hgo
        have e0 : ((er : Int) != 0) = false := by rw [h0]; rfl
        have e6 : ((k : Int) == 6) = false := beq_eq_false_iff_ne.2 (by omega)
        obtain ⟨-, -, -, -, t, ht, hk, hDS, hn, hln, hm, hee⟩ := hf h0
        have hne : U.drop (atW U a) ≠ [] := fun e => h6 (by rw [hk]; exact (tok_pos ht).2.1.2 e)
        have hp1 := tok_pos ht
        have hp2 := hp1.2.2.1 hne
        have hp3 := hp1.1
        rw [List.length_drop] at hp3
        have HPC := Lib.hid (pc_of ht hne)
        have hb : (U.take ee).drop m = (U.drop (atW U a)).take t.e := by rw [hee, hm, List.drop_take, Nat.add_sub_cancel_left]
        have hex : L.extract m ee = strOf ((U.drop (atW U a)).take t.e) := by rw [HXU.out, hb]
        obtain ⟨b, hbb⟩ : ∃ b, Hid ((U.drop (atW U a)).take t.e = b) := ⟨_, Lib.hid rfl⟩
        rw [hbb.out] at hex HPC
        have hbl : b.length = t.e := HPC.out.e.symm
        have hm1 : a ≤ m := by omega
        have hm2 : m < ee := by omega
        have hm3 : ee ≤ U.length := by omega
        have hm4 : m + b.length = ee := by omega
        have c1 : decide ((m : Int) < (a : Int)) = false := decide_eq_false (by omega)
        have c1' : decide (m < a) = false := decide_eq_false (by omega)
        have c2 : decide ((ee : Int) ≤ (m : Int)) = false := decide_eq_false (by omega)
        have c2' : decide (ee ≤ m) = false := decide_eq_false (by omega)
        have hzz := HZ.out
        have c3 : decide ((L.size : Int) < (ee : Int)) = false := decide_eq_false (by omega)
        have c3' : decide (L.size < ee) = false := decide_eq_false (by omega)
        have hm5 : ee ≤ L.size := by omega
        have hm6 : m ≤ ee := by omega
        have ad1 := add_strs b sep (by have : sep.length = 9 := rfl; omega)
        have ad2 := add_strs (says (ws.map Wd.p)) (b ++ sep) (by have := HJ.out.2.2.2.1; rw [List.length_append]; have : sep.length = 9 := rfl; omega)
        rw [show (strOf sep : ByteArray) = ⟨#[32, 35, 32, 120, 32, 34, 40, 10, 9]⟩ from rfl] at ad1
        have HNW : Hid ((∀ x ∈ (ws ++ [(⟨t, b, ln, m, ee⟩ : Wd)]).map Wd.p, Pc x.1 x.2) ∧ says ((ws ++ [(⟨t, b, ln, m, ee⟩ : Wd)]).map Wd.p) = says (ws.map Wd.p) ++ (b ++ sep) ∧ (says (ws.map Wd.p) ++ (b ++ sep)).length ≤ 10 * ee ∧ (ws ++ [(⟨t, b, ln, m, ee⟩ : Wd)]).length ≤ ee ∧ (∀ y ∈ says (ws.map Wd.p) ++ (b ++ sep), y < 256)) := Lib.hid (by
          refine ⟨?_, ?_, ?_, ?_, ?_⟩
          · intro x hx
            rw [List.map_append] at hx
            rcases List.mem_append.1 hx with hx | hx
            · exact HJ.out.2.2.1 x hx
            · simp [Wd.p] at hx
              subst hx
              exact HPC.out
          · rw [List.map_append, List.map_singleton, says_snoc]
            rfl
          · have := HJ.out.2.2.2.1
            have : sep.length = 9 := rfl
            rw [List.length_append, List.length_append]
            omega
          · have := HJ.out.2.2.2.2.1
            rw [List.length_append, List.length_singleton]
            omega
          · intro y hy
            rcases List.mem_append.1 hy with hy | hy
            · exact HJ.out.2.2.2.2.2 y hy
            · rcases List.mem_append.1 hy with hy | hy
              · rw [← hbb.out] at hy
                exact HU8.out y (List.mem_of_mem_drop (List.mem_of_mem_take hy))
              · have h9 : ∀ y ∈ sep, y < 256 := by decide
                exact h9 y hy)
        have HWC : Hid (wC ⟨t, b, ln, m, ee⟩ = [.int .u8 (k : Int), .string DS, .int .i64 (n : Int), .int .i64 (ln : Int), .int .i64 (m : Int), .int .i64 (ee : Int)]) := Lib.hid (by unfold wC; rw [hk, hDS, hn])
        obtain ⟨SS, hSS⟩ : ∃ X, Hid (strOf (says (ws.map Wd.p)) = X) := ⟨_, Lib.hid rfl⟩
        obtain ⟨SB, hSB⟩ : ∃ X, Hid (strOf b = X) := ⟨_, Lib.hid rfl⟩
        obtain ⟨SC, hSC⟩ : ∃ X, Hid (strOf (b ++ sep) = X) := ⟨_, Lib.hid rfl⟩
        obtain ⟨SD, hSD⟩ : ∃ X, Hid (strOf (says (ws.map Wd.p) ++ (b ++ sep)) = X) := ⟨_, Lib.hid rfl⟩
        rw [hSS.out] at ad2 ⊢
        rw [hSB.out] at ad1 hex
        rw [hSC.out] at ad1 ad2
        rw [hSD.out] at ad2
        have HWS := HJ.out.2.2.2.2.1
        clear hf hW ht hk hDS hn hln hm hee hne hp1 hp2 hp3 hb hbl h0 h6 hV hzz hm4
        go_wp2_with fail
        refine HN.out.mono ?_
        rintro e w1 ⟨he, hb⟩
        subst he
        have HB1 := Lib.hid hb
        clear hb
        have HO1 := Lib.hid (wrow_below (wrow_below HJ.out.1 HB1.out) ((two w1 (.cells #[.int .u8 (k : Int), .string DS, .int .i64 (n : Int), .int .i64 (ln : Int), .int .i64 (m : Int), .int .i64 (ee : Int)] 24) (.cells #[.int .i64 (er : Int), .int .i64 (fl : Int)] 27)).alloc (by simp; omega) (.cells #[.int .u8 (k : Int), .string DS, .int .i64 (n : Int), .int .i64 (ln : Int), .int .i64 (m : Int), .int .i64 (ee : Int)] 24)))
        have HP1 := Lib.hid (show (((w1.alloc (.cells #[.int .u8 (k : Int), .string DS, .int .i64 (n : Int), .int .i64 (ln : Int), .int .i64 (m : Int), .int .i64 (ee : Int)] 24)).alloc (.cells #[.int .i64 (er : Int), .int .i64 (fl : Int)] 27)).alloc (.cells #[.int .u8 (k : Int), .string DS, .int .i64 (n : Int), .int .i64 (ln : Int), .int .i64 (m : Int), .int .i64 (ee : Int)] 24)).heap[w1.heap.size]? = some (.cells #[.int .u8 (k : Int), .string DS, .int .i64 (n : Int), .int .i64 (ln : Int), .int .i64 (m : Int), .int .i64 (ee : Int)] 24) from heap_old (heap_old (heap_new _ _) _) _)
        have HX1 := Lib.hid (HJ.out.2.1.trans ((HB1.out.trans (((two w1 (.cells #[.int .u8 (k : Int), .string DS, .int .i64 (n : Int), .int .i64 (ln : Int), .int .i64 (m : Int), .int .i64 (ee : Int)] 24) (.cells #[.int .i64 (er : Int), .int .i64 (fl : Int)] 27)).alloc (by simp; omega) (.cells #[.int .u8 (k : Int), .string DS, .int .i64 (n : Int), .int .i64 (ln : Int), .int .i64 (m : Int), .int .i64 (ee : Int)] 24)).mono HB1.out.size)).mono (by have := HJ.out.2.1.size; have := hBs.out; omega)))
        have HS1 : Hid (Bs ≤ w1.heap.size) := Lib.hid (by have := HJ.out.2.1.size; have := HB1.out.size; have := hBs.out; omega)
        go_wp2_with (first
          | (at_builtin
             refine wpList_wapp rfl (.tmp 78) (.tmp 80) rfl (base := Bs) (v := u5) (L := ws) (y := ⟨t, b, ln, m, ee⟩) (A := some ⟨w1.heap.size + 1 + 1, 0, none⟩) (c := 1) (by simp [Act.eval]) HO1.out (by simp [Act.eval]) (by rw [HWC.out]; exact At.made' _ _ _ _ (by simp)) (by omega) (by have := HS1.out; simp; omega) ?_
             intro v2 w2 ho2 hb2 hg2
             have HO2 := Lib.hid ho2
             have HB2 := Lib.hid (HX1.out.trans hb2)
             have HP2 := Lib.hid ((hg2.block w1.heap.size (by simp; omega) (fun e => by have := (World.ownsRow.lt HJ.out.1 _ e.symm).2; have := HB1.out.size; omega)).trans HP1.out)
             obtain ⟨q0, q1, q2, q3, q4, q5, -⟩ := box6 HP2.out
             clear ho2 hb2 hg2)
          | (fail))
        go_roundw
        case rel => exact ⟨ws ++ [⟨t, b, ln, m, ee⟩], ee, j + 1, by omega, hm3, congrArg Value.string (hSD.out.symm.trans (congrArg strOf HNW.out.2.1.symm)), rfl, by go_num, Lib.hid ⟨HO2.out, HB2.out, HNW.out.1, by rw [HNW.out.2.1]; exact HNW.out.2.2.1, HNW.out.2.2.2.1, by rw [HNW.out.2.1]; exact HNW.out.2.2.2.2⟩⟩
        case measure => simp [intOf]; omega
      · have HFr := Lib.hid ((HJ.out.2.1.block gF (by have := HGF.out.2; have := hBs.out; omega)).trans HFq.out)
        obtain ⟨A, c, hu, hcl, hwa⟩ := wrow_form HJ.out.1
        have HSL := Lib.hid HJ.out.2.2.2.1
        have HNS := Lib.hid (fun (a : Int) (V : Value) (hV : nxtV (says (ws.map Wd.p)) a = V) (w : World) (hw : Wt w) => next_ans hV HJ.out.2.2.2.2.2 (by have := HJ.out.2.2.2.1; omega) w hw)
        subst hu
        by_cases h0 : er = 0
        · have h6 : k = 6 := Decidable.byContradiction fun h => hgo ⟨h0, h⟩
          have e0 : ((er : Int) != 0) = false := by rw [h0]; rfl
          have e6 : ((k : Int) == 6) = true := by rw [h6]; rfl
          clear hf hW hV hgo h0 h6
          go_wp2_with fail
          refine HN.out.mono ?_
          rintro e w1 ⟨he, hb⟩
          subst he
          have HB1 := Lib.hid (hb.trans ((two w1 (.cells #[.int .u8 (k : Int), .string DS, .int .i64 (n : Int), .int .i64 (ln : Int), .int .i64 (m : Int), .int .i64 (ee : Int)] 24) (.cells #[.int .i64 (er : Int), .int .i64 (fl : Int)] 27)).mono hb.size))
          clear hb
          go_upto_region 13 with fail
          have HPw := Lib.hid (show ((w1.alloc (.cells #[.int .u8 (k : Int), .string DS, .int .i64 (n : Int), .int .i64 (ln : Int), .int .i64 (m : Int), .int .i64 (ee : Int)] 24)).alloc (.cells #[.int .i64 (er : Int), .int .i64 (fl : Int)] 27)).heap[w1.heap.size]? = some (.cells #[.int .u8 (k : Int), .string DS, .int .i64 (n : Int), .int .i64 (ln : Int), .int .i64 (m : Int), .int .i64 (ee : Int)] 24) from heap_old (heap_new _ _) _)
          have HPf := Lib.hid (show ((w1.alloc (.cells #[.int .u8 (k : Int), .string DS, .int .i64 (n : Int), .int .i64 (ln : Int), .int .i64 (m : Int), .int .i64 (ee : Int)] 24)).alloc (.cells #[.int .i64 (er : Int), .int .i64 (fl : Int)] 27)).heap[w1.heap.size + 1]? = some (.cells #[.int .i64 (er : Int), .int .i64 (fl : Int)] 27) from heap_new' _ _ _ (by simp))
          obtain ⟨wS, hwS⟩ : ∃ wS, wS = (w1.alloc (.cells #[.int .u8 (k : Int), .string DS, .int .i64 (n : Int), .int .i64 (ln : Int), .int .i64 (m : Int), .int .i64 (ee : Int)] 24)).alloc (.cells #[.int .i64 (er : Int), .int .i64 (fl : Int)] 27) := ⟨_, rfl⟩
          rw [← hwS] at HB1 HPw HPf ⊢
          clear hwS
          have HXS := Lib.hid (HBr.out.trans (HB1.out.mono HBr.out.size))
          have HSA := Lib.hid (hwa.below HB1.out)
          have HFS := Lib.hid (heap_below HFr.out HB1.out)
          obtain ⟨g0, g1, g2, g3, g4, g5, -⟩ := box6 HPw.out
          obtain ⟨h0, h1, -, -⟩ := box2 HPf.out
          go_wp2_with fail
          clear g0 g1 g2 g3 g4 g5 h0 h1
          go_loopw [7, 93] (fun av iv w2 => ∃ i pp : Nat, i ≤ ws.length ∧ iv = .int .i64 (i : Int) ∧ av = .int .i64 (pp : Int) ∧ Hid (plc ((ws.map Wd.p).take i) = pp) ∧ Hid (Below wS.heap.size wS w2)) (fun _ iv _ => ws.length - (intOf iv).toNat)
          case atStart => exact ⟨0, 0, by omega, rfl, rfl, Lib.hid rfl, Lib.hid (Below.refl _ _)⟩
          case round =>
            obtain ⟨i, pp, hi, rfl, rfl, hpp, HBi⟩ := hrel
            have HXi := Lib.hid (HXS.out.trans (HBi.out.mono HXS.out.size))
            by_cases hlt : i < ws.length
            · obtain ⟨x, hx⟩ : ∃ x, ws[i]? = some x := ⟨ws[i], List.getElem?_eq_getElem hlt⟩
              obtain ⟨gA, hA, -, -, -⟩ := HSA.out i x hx
              subst hA
              have hsp : ws.map Wd.p = (ws.map Wd.p).take i ++ x.p :: (ws.map Wd.p).drop (i + 1) := by
                have hlm : i < (ws.map Wd.p).length := by rw [List.length_map]; exact hlt
                have e1 : (ws.map Wd.p)[i] = x.p := by
                  rw [List.getElem_map]
                  exact congrArg Wd.p (List.getElem?_eq_some_iff.1 hx).2
                rw [← e1, ← List.drop_eq_getElem_cons hlm, List.take_append_drop]
              have hqq : ∀ y ∈ (ws.map Wd.p).take i, Pc y.1 y.2 := fun y hy => HJ.out.2.2.1 y (List.mem_of_mem_take hy)
              have hpx : Pc x.p.1 x.p.2 := HJ.out.2.2.1 x.p (List.mem_map.2 ⟨x, List.mem_of_getElem? hx, rfl⟩)
              have hn2 := nxt_says _ _ x.p hqq hpx (by rw [← hsp]; have := HJ.out.2.2.2.1; omega)
              have ht1 : (ws.map Wd.p).take i ++ [x.p] = (ws.map Wd.p).take (i + 1) := by
                have hlm : i < (ws.map Wd.p).length := by rw [List.length_map]; exact hlt
                have e1 : (ws.map Wd.p)[i] = x.p := by
                  rw [List.getElem_map]
                  exact congrArg Wd.p (List.getElem?_eq_some_iff.1 hx).2
                rw [List.take_succ_eq_append_getElem hlm, e1]
              rw [← hsp, hpp.out, ht1, List.length_take, List.length_map, Nat.min_eq_left hi] at hn2
              have hsl := HSL.out
              obtain ⟨k2, hk2⟩ : ∃ v, Hid (x.p.1.k = v) := ⟨_, Lib.hid rfl⟩
              obtain ⟨S2, hS2⟩ : ∃ v, Hid (strOf x.p.1.s = v) := ⟨_, Lib.hid rfl⟩
              obtain ⟨n2, hn3⟩ : ∃ v, Hid (x.p.1.n = v) := ⟨_, Lib.hid rfl⟩
              obtain ⟨l2, hl2⟩ : ∃ v, Hid (i + 1 = v) := ⟨_, Lib.hid rfl⟩
              obtain ⟨a2, ha2⟩ : ∃ v, Hid ((says ((ws.map Wd.p).take i)).length = v) := ⟨_, Lib.hid rfl⟩
              obtain ⟨p2, hp2⟩ : ∃ v, Hid (plc ((ws.map Wd.p).take (i + 1)) = v) := ⟨_, Lib.hid rfl⟩
              rw [hp2.out, ha2.out, hl2.out, hk2.out, hS2.out, hn3.out] at hn2
              have HN2 := Lib.hid (HNS.out _ _ hn2)
              unfold ansV at HN2
              have HRW := Lib.hid (fun (w' : World) (h : Below wS.heap.size wS w') => by
                obtain ⟨g', e', r0, r1, r2⟩ := (HSA.out.below h) i x hx
                cases e'
                have r0' : w'.cell? ⟨gA, i * 6, none⟩ = some (.int .u8 (k2 : Int)) := by rw [← hk2.out]; exact r0
                have r1' : w'.cell? ⟨gA, i * 6 + 1, none⟩ = some (.string S2) := by rw [← hS2.out]; exact r1
                have r2' : w'.cell? ⟨gA, i * 6 + 2, none⟩ = some (.int .i64 (n2 : Int)) := by rw [← hn3.out]; exact r2
                exact (And.intro r0' (And.intro r1' r2')))
              have eL : (i : Int) + 1 = (l2 : Int) := by have := hl2.out; omega
              have wL : IntKind.i64.wrap (l2 : Int) = (l2 : Int) := IntWalk.i64_in _ (by have := hl2.out; have := HJ.out.2.2.2.2.1; omega)
              have HEL := Lib.hid eL
              have HWL := Lib.hid wL
              have hib : i ≤ 1000 := by have := HJ.out.2.2.2.2.1; omega
              have bi0 : (0 : Int) ≤ (i : Int) := by omega
              have bi1 : (i : Int) < (ws.length : Int) := by omega
              clear eL wL hn2 ht1 hsp hqq hpx hx hsl
              go_wp2_with fail
              refine (HN2.out _ (HW0.out.below HXi.out)).mono ?_
              rintro e w3 ⟨he, hb⟩
              subst he
              have HB3 := Lib.hid (HBi.out.trans (hb.mono HBi.out.size))
              have HX3 := Lib.hid (HXi.out.trans (hb.mono HXi.out.size))
              clear hb
              have HB4 := Lib.hid (HB3.out.trans ((two w3 (.cells #[.int .u8 (k2 : Int), .string S2, .int .i64 (n2 : Int), .int .i64 (l2 : Int), .int .i64 (a2 : Int), .int .i64 (p2 : Int)] 24) (.cells #[.int .i64 ((0 : Nat) : Int), .int .i64 ((0 : Nat) : Int)] 27)).mono HB3.out.size))
              obtain ⟨r0, r1, r2⟩ := HRW.out _ HB3.out
              have lA := World.block_lt_of_cell? _ _ r0
              go_wp2_with fail
              have eL := HEL.out
              have wL := HWL.out
              go_quiet (fail)
              clear eL wL
              have HB5 := Lib.hid (below_drewN HB4.out nq)
              go_wp2_with fail
              go_roundw
              case rel => exact ⟨i + 1, p2, by omega, by go_num, rfl, hp2, HB5⟩
              case measure => simp [intOf]; omega
            · obtain rfl : i = ws.length := by omega
              have hall : plc (ws.map Wd.p) = pp := by rw [← hpp.out, List.take_of_length_le (by simp)]
              have hnE := nxt_says_end (ws.map Wd.p) (by have := HJ.out.2.2.2.1; omega)
              obtain ⟨lE, hlE⟩ : ∃ v, Hid (lnW (says (ws.map Wd.p)) (plc (ws.map Wd.p)) = v) := ⟨_, Lib.hid rfl⟩
              obtain ⟨zE, hzE⟩ : ∃ v, Hid ((says (ws.map Wd.p)).length = v) := ⟨_, Lib.hid rfl⟩
              rw [hlE.out, hzE.out, hall] at hnE
              have HNE := Lib.hid (HNS.out _ _ hnE)
              unfold ansV at HNE
              clear hnE hall
              go_wp2_with fail
              refine (HNE.out _ (HW0.out.below HXi.out)).mono ?_
              rintro e w3 ⟨he, hb⟩
              subst he
              have HB3 := Lib.hid (HBi.out.trans (hb.mono HBi.out.size))
              have HX3 := Lib.hid (HXi.out.trans (hb.mono HXi.out.size))
              have HF3 := Lib.hid (heap_below (heap_below HFS.out HBi.out) hb)
              clear hb
              obtain ⟨f0, f1, f2, f3⟩ := box2 HF3.out
              have lF := lt_heap HF3.out
              have HX4 := Lib.hid (((HX3.out.setCell (p := ⟨gF, 0, none⟩) HGF.out.1 (.int .i64 0)).setCell (p := ⟨gF, 1, none⟩) HGF.out.1 (.int .i64 0)).alloc (by have := HX3.out.size; simpa using this) (.cells #[.int .u8 ((6 : Nat) : Int), .string ⟨#[]⟩, .int .i64 ((0 : Nat) : Int), .int .i64 (lE : Int), .int .i64 (zE : Int), .int .i64 (zE : Int)] 24))
              go_wp2_with fail
              refine (HAW.out _ (HW0.out.below HX4.out)).mono ?_
              rintro e w5 ⟨he, hb⟩
              subst he
              have HX5 := Lib.hid (HX4.out.trans (hb.mono HX4.out.size))
              clear hb
              go_wp2_with fail
              go_ret
              exact ⟨rfl, HX5.out⟩
        · have e0 : ((er : Int) != 0) = true := bne_iff_ne.2 (by omega)
          clear hf hW hV hgo h0
          go_wp2_with fail
          refine HN.out.mono ?_
          rintro e w1 ⟨he, hb⟩
          subst he
          have HB1 := Lib.hid (hb.trans ((two w1 (.cells #[.int .u8 (k : Int), .string DS, .int .i64 (n : Int), .int .i64 (ln : Int), .int .i64 (m : Int), .int .i64 (ee : Int)] 24) (.cells #[.int .i64 (er : Int), .int .i64 (fl : Int)] 27)).mono hb.size))
          clear hb
          go_upto_region 13 with fail
          have HPw := Lib.hid (show ((w1.alloc (.cells #[.int .u8 (k : Int), .string DS, .int .i64 (n : Int), .int .i64 (ln : Int), .int .i64 (m : Int), .int .i64 (ee : Int)] 24)).alloc (.cells #[.int .i64 (er : Int), .int .i64 (fl : Int)] 27)).heap[w1.heap.size]? = some (.cells #[.int .u8 (k : Int), .string DS, .int .i64 (n : Int), .int .i64 (ln : Int), .int .i64 (m : Int), .int .i64 (ee : Int)] 24) from heap_old (heap_new _ _) _)
          have HPf := Lib.hid (show ((w1.alloc (.cells #[.int .u8 (k : Int), .string DS, .int .i64 (n : Int), .int .i64 (ln : Int), .int .i64 (m : Int), .int .i64 (ee : Int)] 24)).alloc (.cells #[.int .i64 (er : Int), .int .i64 (fl : Int)] 27)).heap[w1.heap.size + 1]? = some (.cells #[.int .i64 (er : Int), .int .i64 (fl : Int)] 27) from heap_new' _ _ _ (by simp))
          obtain ⟨wS, hwS⟩ : ∃ wS, wS = (w1.alloc (.cells #[.int .u8 (k : Int), .string DS, .int .i64 (n : Int), .int .i64 (ln : Int), .int .i64 (m : Int), .int .i64 (ee : Int)] 24)).alloc (.cells #[.int .i64 (er : Int), .int .i64 (fl : Int)] 27) := ⟨_, rfl⟩
          rw [← hwS] at HB1 HPw HPf ⊢
          clear hwS
          have HXS := Lib.hid (HBr.out.trans (HB1.out.mono HBr.out.size))
          have HSA := Lib.hid (hwa.below HB1.out)
          have HFS := Lib.hid (heap_below HFr.out HB1.out)
          obtain ⟨g0, g1, g2, g3, g4, g5, -⟩ := box6 HPw.out
          obtain ⟨h0, h1, -, -⟩ := box2 HPf.out
          go_wp2_with fail
          clear g0 g1 g2 g3 g4 g5 h0 h1
          go_loopw [7, 93] (fun av iv w2 => ∃ i pp : Nat, i ≤ ws.length ∧ iv = .int .i64 (i : Int) ∧ av = .int .i64 (pp : Int) ∧ Hid (plc ((ws.map Wd.p).take i) = pp) ∧ Hid (Below wS.heap.size wS w2)) (fun _ iv _ => ws.length - (intOf iv).toNat)
          case atStart => exact ⟨0, 0, by omega, rfl, rfl, Lib.hid rfl, Lib.hid (Below.refl _ _)⟩
          case round =>
            obtain ⟨i, pp, hi, rfl, rfl, hpp, HBi⟩ := hrel
            have HXi := Lib.hid (HXS.out.trans (HBi.out.mono HXS.out.size))
            by_cases hlt : i < ws.length
            · obtain ⟨x, hx⟩ : ∃ x, ws[i]? = some x := ⟨ws[i], List.getElem?_eq_getElem hlt⟩
              obtain ⟨gA, hA, -, -, -⟩ := HSA.out i x hx
              subst hA
              have hsp : ws.map Wd.p = (ws.map Wd.p).take i ++ x.p :: (ws.map Wd.p).drop (i + 1) := by
                have hlm : i < (ws.map Wd.p).length := by rw [List.length_map]; exact hlt
                have e1 : (ws.map Wd.p)[i] = x.p := by
                  rw [List.getElem_map]
                  exact congrArg Wd.p (List.getElem?_eq_some_iff.1 hx).2
                rw [← e1, ← List.drop_eq_getElem_cons hlm, List.take_append_drop]
              have hqq : ∀ y ∈ (ws.map Wd.p).take i, Pc y.1 y.2 := fun y hy => HJ.out.2.2.1 y (List.mem_of_mem_take hy)
              have hpx : Pc x.p.1 x.p.2 := HJ.out.2.2.1 x.p (List.mem_map.2 ⟨x, List.mem_of_getElem? hx, rfl⟩)
              have hn2 := nxt_says _ _ x.p hqq hpx (by rw [← hsp]; have := HJ.out.2.2.2.1; omega)
              have ht1 : (ws.map Wd.p).take i ++ [x.p] = (ws.map Wd.p).take (i + 1) := by
                have hlm : i < (ws.map Wd.p).length := by rw [List.length_map]; exact hlt
                have e1 : (ws.map Wd.p)[i] = x.p := by
                  rw [List.getElem_map]
                  exact congrArg Wd.p (List.getElem?_eq_some_iff.1 hx).2
                rw [List.take_succ_eq_append_getElem hlm, e1]
              rw [← hsp, hpp.out, ht1, List.length_take, List.length_map, Nat.min_eq_left hi] at hn2
              have hsl := HSL.out
              obtain ⟨k2, hk2⟩ : ∃ v, Hid (x.p.1.k = v) := ⟨_, Lib.hid rfl⟩
              obtain ⟨S2, hS2⟩ : ∃ v, Hid (strOf x.p.1.s = v) := ⟨_, Lib.hid rfl⟩
              obtain ⟨n2, hn3⟩ : ∃ v, Hid (x.p.1.n = v) := ⟨_, Lib.hid rfl⟩
              obtain ⟨l2, hl2⟩ : ∃ v, Hid (i + 1 = v) := ⟨_, Lib.hid rfl⟩
              obtain ⟨a2, ha2⟩ : ∃ v, Hid ((says ((ws.map Wd.p).take i)).length = v) := ⟨_, Lib.hid rfl⟩
              obtain ⟨p2, hp2⟩ : ∃ v, Hid (plc ((ws.map Wd.p).take (i + 1)) = v) := ⟨_, Lib.hid rfl⟩
              rw [hp2.out, ha2.out, hl2.out, hk2.out, hS2.out, hn3.out] at hn2
              have HN2 := Lib.hid (HNS.out _ _ hn2)
              unfold ansV at HN2
              have HRW := Lib.hid (fun (w' : World) (h : Below wS.heap.size wS w') => by
                obtain ⟨g', e', r0, r1, r2⟩ := (HSA.out.below h) i x hx
                cases e'
                have r0' : w'.cell? ⟨gA, i * 6, none⟩ = some (.int .u8 (k2 : Int)) := by rw [← hk2.out]; exact r0
                have r1' : w'.cell? ⟨gA, i * 6 + 1, none⟩ = some (.string S2) := by rw [← hS2.out]; exact r1
                have r2' : w'.cell? ⟨gA, i * 6 + 2, none⟩ = some (.int .i64 (n2 : Int)) := by rw [← hn3.out]; exact r2
                exact (And.intro r0' (And.intro r1' r2')))
              have eL : (i : Int) + 1 = (l2 : Int) := by have := hl2.out; omega
              have wL : IntKind.i64.wrap (l2 : Int) = (l2 : Int) := IntWalk.i64_in _ (by have := hl2.out; have := HJ.out.2.2.2.2.1; omega)
              have HEL := Lib.hid eL
              have HWL := Lib.hid wL
              have hib : i ≤ 1000 := by have := HJ.out.2.2.2.2.1; omega
              have bi0 : (0 : Int) ≤ (i : Int) := by omega
              have bi1 : (i : Int) < (ws.length : Int) := by omega
              clear eL wL hn2 ht1 hsp hqq hpx hx hsl
              go_wp2_with fail
              refine (HN2.out _ (HW0.out.below HXi.out)).mono ?_
              rintro e w3 ⟨he, hb⟩
              subst he
              have HB3 := Lib.hid (HBi.out.trans (hb.mono HBi.out.size))
              have HX3 := Lib.hid (HXi.out.trans (hb.mono HXi.out.size))
              clear hb
              have HB4 := Lib.hid (HB3.out.trans ((two w3 (.cells #[.int .u8 (k2 : Int), .string S2, .int .i64 (n2 : Int), .int .i64 (l2 : Int), .int .i64 (a2 : Int), .int .i64 (p2 : Int)] 24) (.cells #[.int .i64 ((0 : Nat) : Int), .int .i64 ((0 : Nat) : Int)] 27)).mono HB3.out.size))
              obtain ⟨r0, r1, r2⟩ := HRW.out _ HB3.out
              have lA := World.block_lt_of_cell? _ _ r0
              go_wp2_with fail
              have eL := HEL.out
              have wL := HWL.out
              go_quiet (fail)
              clear eL wL
              have HB5 := Lib.hid (below_drewN HB4.out nq)
              go_wp2_with fail
              go_roundw
              case rel => exact ⟨i + 1, p2, by omega, by go_num, rfl, hp2, HB5⟩
              case measure => simp [intOf]; omega
            · obtain rfl : i = ws.length := by omega
              have hall : plc (ws.map Wd.p) = pp := by rw [← hpp.out, List.take_of_length_le (by simp)]
              have hnE := nxt_says_end (ws.map Wd.p) (by have := HJ.out.2.2.2.1; omega)
              obtain ⟨lE, hlE⟩ : ∃ v, Hid (lnW (says (ws.map Wd.p)) (plc (ws.map Wd.p)) = v) := ⟨_, Lib.hid rfl⟩
              obtain ⟨zE, hzE⟩ : ∃ v, Hid ((says (ws.map Wd.p)).length = v) := ⟨_, Lib.hid rfl⟩
              rw [hlE.out, hzE.out, hall] at hnE
              have HNE := Lib.hid (HNS.out _ _ hnE)
              unfold ansV at HNE
              clear hnE hall
              go_wp2_with fail
              refine (HNE.out _ (HW0.out.below HXi.out)).mono ?_
              rintro e w3 ⟨he, hb⟩
              subst he
              have HB3 := Lib.hid (HBi.out.trans (hb.mono HBi.out.size))
              have HX3 := Lib.hid (HXi.out.trans (hb.mono HXi.out.size))
              have HF3 := Lib.hid (heap_below (heap_below HFS.out HBi.out) hb)
              clear hb
              obtain ⟨f0, f1, f2, f3⟩ := box2 HF3.out
              have lF := lt_heap HF3.out
              have HX4 := Lib.hid (((HX3.out.setCell (p := ⟨gF, 0, none⟩) HGF.out.1 (.int .i64 0)).setCell (p := ⟨gF, 1, none⟩) HGF.out.1 (.int .i64 0)).alloc (by have := HX3.out.size; simpa using this) (.cells #[.int .u8 ((6 : Nat) : Int), .string ⟨#[]⟩, .int .i64 ((0 : Nat) : Int), .int .i64 (lE : Int), .int .i64 (zE : Int), .int .i64 (zE : Int)] 24))
              go_wp2_with fail
              refine (HAW.out _ (HW0.out.below HX4.out)).mono ?_
              rintro e w5 ⟨he, hb⟩
              subst he
              have HX5 := Lib.hid (HX4.out.trans (hb.mono HX4.out.size))
              clear hb
              go_wp2_with fail
              go_ret
              exact ⟨rfl, HX5.out⟩

set_option maxRecDepth 100000 in
theorem lifted (os : Os) (started : os.Started) (H : Type) (enc : TypeId × Value → H) :
    ReturnsInHanded {} Tryd.checked os 4 .any (fun w args => (Rows.wordsBlanksSpec.pre enc Tryd.prog Tryd.f4 [] false w args ∧ laidMetH Tryd.prog laidW w) ∧ sizedMet enc Tryd.prog Tryd.f4 (OpenSpec.ofChange Rows.wordsBlanksSpec) false w args) (Rows.wordsBlanksSpec.post enc Tryd.prog Tryd.f4 false true false false) := by
  refine returnsInHanded_of_change_and (C := Tryd.checked) (X := fun w _ => laidMetH Tryd.prog laidW w) (fun _ _ _ hh h => h.of_heap hh) knob_own started (by kernel_rfl) Tryd.func4
    (ChangeSpec.witness_shaped (enc := enc) (C := Tryd.checked) (os := os) (X := fun w _ => laidMetH Tryd.prog laidW w) false (World.doorLaid Tryd.prog 400 os) #[.string ⟨#[]⟩] 8 rfl (World.shaped_of_RefB (by kernel_rfl) (by kernel_rfl)) (by kernel_rfl) (by kernel_rfl) (by kernel_rfl) (doorW_met os _)) ?_
  intro W base args ds gs before hval0 hW _ _ hL _
  have hval : ∀ (j : Nat) t v, Tryd.f4.params[j]? = some t → args[j]? = some v → Value.okWide Tryd.prog W .any base t v := hval0
  have hW' := hW
  obtain ⟨p, q, hA0, hV, rfl, hfz, hnd⟩ := hW
  have hA : DataW.TrodAll enc Tryd.prog W 0 (fun _ => true) true Tryd.f4.params.toList args.toList ds p := hA0
  rw [Tryd.params4] at hA hval
  obtain ⟨v0, vs0, d0, ds0, p0, q0, hargs, rfl, rfl, h0, r0⟩ := trodAll_cons hA
  obtain ⟨rfl, rfl, rfl⟩ := trodAll_nil r0
  obtain rfl : args = #[v0] := by cases args; simp_all
  obtain ⟨rfl, rfl⟩ := trodVars_none hV
  have k0 := h0
  have lt0 : ∀ x ∈ p0, x.block < W.heap.size := by obtain ⟨m, hm⟩ := k0; exact DataW.trod_lt m _ _ _ hm
  obtain ⟨S0, rfl, _, _, w0⟩ := Go.ChangeMaps.open_string Tryd.underlying9 (hval 0 9 v0 rfl rfl) h0
  clear hA0 hval0
  refine (walk W (wt_laid hL) S0 w0).mono fun e W' ⟨he, bel⟩ => ?_
  subst he
  exact ⟨_, rfl, _, _, _, [], _, [], hW', trodAll_mk1 (shut_bool Tryd.underlying4 _), (trodAll_cons_mk (Below.trod laid_out (by kernel_rfl) (of_decide_eq_true (by kernel_rfl)) k0 bel lt0) (trodAll_mk0)), rfl, bel.frame _, fun h => by cases h⟩

theorem over : Rows.wordsBlanksRow.holds Tryd.pinned (OpenSpec.ofChange Rows.wordsBlanksSpec) :=
  OpenClaim.holds_of_wide 4 Tryd.f4 rfl rfl rfl rfl rfl rfl rfl ⟨rfl, rfl, rfl, rfl, rfl⟩ rfl rfl rfl rfl rfl (by kernel_rfl) Tryd.func4 (by kernel_rfl)
    (of_decide_eq_true (by kernel_rfl)) (by unfold Func.isWrapper; first | (rw [if_pos (by decide +kernel)]; kernel_rfl) | (rw [if_neg (by decide +kernel)]; exact ⟨rfl, rfl⟩))
    (fun os started H enc _ => lifted os started H enc)

theorem proved : Rows.WordsBlanksCardSaid :=
  Claim7.holds_tied_plain_at .later [] [.data, .data, .data, .sentinel, .sentinel, .data] true Rows.wordsBlanksCard.stood.harness Rows.wordsBlanksCard.stood.looks
    over (fun _ h => by cases h) (by kernel_rfl) (fun _ h => by cases h) wordsBlanks_row_tie rfl ⟨rfl, rfl⟩ (by kernel_rfl) rfl
    (fun f fn hf hfn => by
      obtain rfl : f = 4 := Option.some.inj ((show Tryd.prog.funcNamed "drover/droverlaw08.WordsBlanks" = some 4 by kernel_rfl).symm.trans hf) |>.symm
      obtain rfl : fn = Tryd.f4 := (Option.some.inj (Tryd.func4.symm.trans hfn)).symm
      exact ⟨by kernel_rfl, fun j t ht => by
        have hall : (Tryd.f4.params.toList.all fun u => !Tryd.prog.wantsStandIn u) = true := by kernel_rfl
        have hm : t ∈ Tryd.f4.params.toList := Array.mem_toList_iff.2 (Array.mem_of_getElem? ht)
        exact (show Tryd.prog.wantsStandIn t = false by simpa using List.all_eq_true.1 hall t hm)⟩)
    (by kernel_rfl)
end Go.Proofs.YtndppffaijcjdaaDoor.wordsBlanks
