/- droverlaw02.ValueTuples returns true whatever its arguments: a tuple has the bytes, the text and the order of its parts. For every input, without conditions. -/
import Derived.Test.YtfobmlicmbelnaaDoorRow
import Derived.Test.YtfobmlicmbelnaaDoorAwake02
import Derived.Test.YtfobmlicmbelnaaDoorOpen
import Derived.Test.YtfobmlicmbelnaaDoorDoor
import Derived.Test.YtfobmlicmbelnaaDoorSmall
import Derived.Test.YtfobmlicmbelnaaDoorLaw02
import Derived.Test.YtfobmlicmbelnaaDoorRight02
import Derived.Test.YtfobmlicmbelnaaDoorCards
import Derived.SevenTiedAt
import Derived.Test.YtfobmlicmbelnaaDoorTup02
import Derived.Deep.RegionHeld3
import Derived.Deep.DeepCutAuto
import Derived.BigQuiet
namespace Go.Proofs.YtfobmlicmbelnaaDoor.valueTuples
open Go.ChangeShapes Go.WideShapes Go.ChangeAt Go.RowKit
set_option linter.unusedVariables false



set_option maxRecDepth 100000 in
set_option maxHeartbeats 1600000 in
theorem walk (w : World) (htab : Tab w w.heap.size) (a0 : Option Addr) (n0 c0 : Nat) (a1 : Option Addr) (n1 c1 : Nat) (w0 : ∃ l, l.length = n0 ∧ n0 ≤ c0 ∧ c0 ≤ maxLen ∧ Reps w w.heap.size a0 l) (w1 : ∃ l, l.length = n1 ∧ n1 ≤ c1 ∧ c1 ≤ maxLen ∧ Reps w w.heap.size a1 l) :
    Calls Tryd.prog 7 #[.slice a0 n0 c0, .slice a1 n1 c1] w fun e w' => e = .returned (.bool true) ∧ Below w.heap.size w w' := by
  obtain ⟨l, hl, hlc, hcm, hL⟩ := w0
  obtain ⟨m, hm, hmc, hcm', hM⟩ := w1
  unfold maxLen at hcm hcm'
  have tabs : ∀ w', Below w.heap.size w w' → Tab w' w'.heap.size := fun w' h => fun w2 h2 => htab.below h w2 (h2.mono h.size)
  subst hl hm
  obtain ⟨W, hW⟩ : ∃ W : World, W = (w.alloc (.cells #[.int .u8 4, .int .i64 0, .string ⟨#[]⟩, .slice a0 l.length c0] 25)).alloc (.cells #[.int .u8 4, .int .i64 0, .string ⟨#[]⟩, .slice a1 m.length c1] 25) := ⟨_, rfl⟩
  have q1 : W.heap[w.heap.size]? = some (.cells #[.int .u8 4, .int .i64 0, .string ⟨#[]⟩, .slice a0 l.length c0] 25 (0, 0)) := by rw [hW]; exact heap_old (heap_new _ _) _
  have q2 : W.heap[w.heap.size + 1]? = some (.cells #[.int .u8 4, .int .i64 0, .string ⟨#[]⟩, .slice a1 m.length c1] 25 (0, 0)) := by rw [hW]; exact heap_new' _ _ _ (by simp)
  have hb0 : Below w.heap.size w W := by rw [hW]; exact two _ _ _
  have RA : Rep w w.heap.size (.agg #[.int .u8 4, .int .i64 0, .string ⟨#[]⟩, .slice a0 l.length c0]) (.mk 4 0 [] l) := hL.mk (k := 4) (n := 0) (s := []) (by omega) (by omega) (by omega) (by simp) (by simp) hlc (by omega)
  have RB : Rep w w.heap.size (.agg #[.int .u8 4, .int .i64 0, .string ⟨#[]⟩, .slice a1 m.length c1]) (.mk 4 0 [] m) := hM.mk (k := 4) (n := 0) (s := []) (by omega) (by omega) (by omega) (by simp) (by simp) hmc (by omega)
  have QS : ∀ w', Below W.heap.size W w' → ((w'.cell? ⟨w.heap.size, 0, none⟩ = some (.int .u8 4) ∧ w'.cell? ⟨w.heap.size, 1, none⟩ = some (.int .i64 0) ∧ w'.cell? ⟨w.heap.size, 2, none⟩ = some (.string ⟨#[]⟩) ∧ w'.cell? ⟨w.heap.size, 3, none⟩ = some (.slice a0 l.length c0)) ∧
      (w'.cell? ⟨w.heap.size + 1, 0, none⟩ = some (.int .u8 4) ∧ w'.cell? ⟨w.heap.size + 1, 1, none⟩ = some (.int .i64 0) ∧ w'.cell? ⟨w.heap.size + 1, 2, none⟩ = some (.string ⟨#[]⟩) ∧ w'.cell? ⟨w.heap.size + 1, 3, none⟩ = some (.slice a1 m.length c1)) ∧ w.heap.size + 1 < w'.heap.size) := fun w' h =>
    ⟨box4 (heap_below q1 h), box4 (heap_below q2 h), lt_heap (heap_below q2 h)⟩
  have QB : ∀ w', Below W.heap.size W w' → Below w.heap.size w w' := fun w' h => hb0.trans (h.mono hb0.size)
  have HQS := Lib.hid QS
  have HQB := Lib.hid QB
  have htabs := Lib.hid tabs
  clear q1 q2 QS QB tabs
  by_cases hbig : 10 < l.length
  · have g1 : decide ((10 : Int) < (l.length : Int)) = true := by simp; omega
    have g1' : decide (10 < l.length) = true := by simp; omega
    go_enter Tryd.func7, Tryd.ntmps7
    go_wp2_with fail
    rw [← hW]
    refine (awake_any _ (htabs.out _ hb0)).mono ?_
    rintro e w5 ⟨rfl, hb5⟩
    go_wp2
    go_ret
    exact ⟨rfl, nxt hb0 hb5⟩
  have hbig' : l.length ≤ 10 := by omega
  have g1 : decide ((10 : Int) < (l.length : Int)) = false := by simp; omega
  have g1' : decide (10 < l.length) = false := by simp; omega
  clear hbig
  by_cases hbig : 10 < m.length
  · have g2 : decide ((10 : Int) < (m.length : Int)) = true := by simp; omega
    have g2' : decide (10 < m.length) = true := by simp; omega
    go_enter Tryd.func7, Tryd.ntmps7
    go_wp2_with fail
    rw [← hW]
    refine (awake_any _ (htabs.out _ hb0)).mono ?_
    rintro e w5 ⟨rfl, hb5⟩
    go_wp2
    go_ret
    exact ⟨rfl, nxt hb0 hb5⟩
  have hbig2' : m.length ≤ 10 := by omega
  have g2 : decide ((10 : Int) < (m.length : Int)) = false := by simp; omega
  have g2' : decide (10 < m.length) = false := by simp; omega
  clear hbig
  go_enter Tryd.func7, Tryd.ntmps7
  go_wp2_with fail
  rw [← hW]
  clear hW
  refine (right02_any _ _ _ w.heap.size (RA.under hb0) hb0.size).mono ?_
  rintro e w3 ⟨rfl, hb3⟩
  obtain ⟨⟨d0, d1, d2, d3⟩, ⟨e0, e1, e2, e3⟩, s3⟩ := HQS.out _ hb3
  cases hs : (smallV 60 20 (.mk 4 0 [] l) && right (.mk 4 0 [] l)) with
  | false =>
    clear hs
    go_wp2_with fail
    refine (awake_any _ (htabs.out _ (HQB.out _ hb3))).mono ?_
    rintro e w5 ⟨rfl, hb5⟩
    go_wp2
    go_ret
    exact ⟨rfl, nxt (HQB.out _ hb3) hb5⟩
  | true =>
  obtain ⟨-, hr⟩ := Bool.and_eq_true_iff.1 hs
  have HR := Lib.hid hr
  clear hs hr
  go_wp2_with fail
  refine (right02_any _ _ _ w.heap.size (RB.under (HQB.out _ hb3)) (HQB.out _ hb3).size).mono ?_
  rintro e w4 ⟨rfl, hb4'⟩
  have hb4 := nxt hb3 hb4'
  clear hb4' hb3 d0 d1 d2 d3 e0 e1 e2 e3 s3
  obtain ⟨⟨d0, d1, d2, d3⟩, ⟨e0, e1, e2, e3⟩, s3⟩ := HQS.out _ hb4
  cases hs : (smallV 60 20 (.mk 4 0 [] m) && right (.mk 4 0 [] m)) with
  | false =>
    clear hs
    go_wp2_with fail
    refine (awake_any _ (htabs.out _ (HQB.out _ hb4))).mono ?_
    rintro e w5 ⟨rfl, hb5⟩
    go_wp2
    go_ret
    exact ⟨rfl, nxt (HQB.out _ hb4) hb5⟩
  | true =>
  obtain ⟨-, hr'⟩ := Bool.and_eq_true_iff.1 hs
  have HR' := Lib.hid hr'
  clear hs hr' g1 g1' g2 g2'
  have hu8 : IntKind.u8.wrap (l.length : Int) = (l.length : Int) := by
    rw [show IntKind.u8.wrap (l.length : Int) = (l.length : Int) % 256 from rfl]
    omega
  have hok := RA.ok 16
  have hokp : ∀ t ∈ l, Ok 15 t := hok.2.2.2.2
  have hE := enc_short HR.out
  have HTE := Lib.hid (tup_enc HR.out hbig')
  have hEl : (l.flatMap (enc 16)).length ≤ 1052160 := by
    rw [HTE.out] at hE
    simp only [List.length_cons] at hE
    omega
  have hS := shw_short HR.out hok
  have HTS := Lib.hid (tup_shw HR.out)
  have hSl : (jn (l.map showT)).length ≤ 3148800 := by
    have e : showT (.mk 4 0 [] l) = shw 16 (.mk 4 0 [] l) := by unfold showT; rw [if_pos HR.out]
    rw [← e, HTS.out] at hS
    simp only [List.length_cons, List.length_append] at hS
    omega
  have HPR := Lib.hid (part_right HR.out)
  have HE8 := Lib.hid (enc_bytes HR.out hok)
  clear hE hS hok
  go_wp2_with fail
  have hown0 := own_new w4 [4, l.length] 2 w4.heap.size #[.int .u8 4, .int .u8 l.length] rfl rfl rfl rfl (by simp only [List.length_cons, List.length_nil]; unfold maxLen; omega)
  have hbw4 : Below w4.heap.size w4 (w4.alloc (.cells #[.int .u8 4, .int .u8 l.length] 5)) := (Below.refl _ _).alloc (Nat.le_refl _) _
  go_loopw [7, 8, 9] (fun a b c wr => ∃ (j : Nat) (b0 : ByteArray), j ≤ l.length ∧ c = .int .i64 (j : Int) ∧ Own wr w4.heap.size a (4 :: l.length :: (l.take j).flatMap (enc 16)) ∧ b = .string b0 ∧ Hid (b0 = strOf (40 :: jn ((l.take j).map showT))) ∧ Below w4.heap.size w4 wr) (fun _ _ c _ => l.length - (intOf c).toNat)
  case atStart => exact ⟨0, _, Nat.zero_le _, rfl, hown0, rfl, rfl, hbw4⟩
  case round =>
    obtain ⟨j, b0, hj, rfl, hown, rfl, HB0, hbr⟩ := hrel
    have hbr2 := nxt hb4 hbr
    have hbel := HQB.out _ hbr2
    clear hown0 hbw4 d0 d1 d2 d3 e0 e1 e2 e3 s3
    by_cases hlt : j < l.length
    · obtain ⟨b, o, y0, y1, y2, y3, rfl, hbB, hrange, hrepj⟩ := hL.at j hlt
      have d0 : wr.cell? ⟨b, o + j * 4, none⟩ = some _ := (hbel.cell hbB).trans (hrange 0 _ rfl)
      have d1 : wr.cell? ⟨b, o + j * 4 + 1, none⟩ = some _ := (hbel.cell hbB).trans (hrange 1 _ rfl)
      have d2 : wr.cell? ⟨b, o + j * 4 + 2, none⟩ = some _ := (hbel.cell hbB).trans (hrange 2 _ rfl)
      have d3 : wr.cell? ⟨b, o + j * 4 + 3, none⟩ = some _ := (hbel.cell hbB).trans (hrange 3 _ rfl)
      have hrj := (HPR.out _ (List.getElem_mem hlt)).1
      have HF : Hid ((l.take (j + 1)).flatMap (enc 16) = (l.take j).flatMap (enc 16) ++ enc 16 l[j]) := by
        show _ = _
        rw [List.take_succ_eq_append_getElem hlt, List.flatMap_append]
        simp
      have HJ : Hid (jn ((l.take (j + 1)).map showT) = jn ((l.take j).map showT) ++ ((if 0 < j then [44, 32] else []) ++ showT l[j])) := by
        show _ = _
        rw [List.take_succ_eq_append_getElem hlt, List.map_append, List.map_cons, List.map_nil, jn_snoc]
        simp [show min j l.length = j by omega]
      have hl1 : ((l.take j).flatMap (enc 16)).length ≤ 1052160 := by
        have := congrArg List.length (congrArg (List.flatMap (enc 16)) (List.take_append_drop j l))
        rw [List.flatMap_append, List.length_append] at this
        omega
      have hl2 := enc_short hrj
      have hl3 : (jn ((l.take j).map showT)).length ≤ 3148800 := Nat.le_trans (jn_le (f := showT) l j) hSl
      have hokj := hrepj.ok 16
      have hl4 : (showT l[j]).length ≤ 3148800 := by
        unfold showT
        rw [if_pos hrj]
        exact shw_short hrj hokj
      have HE8 := Lib.hid (enc_bytes hrj hokj)
      have HRJ := Lib.hid hrj
      have g3 : (0 : Int) ≤ j := by omega
      have HRG := Lib.hid hrange
      clear hrj hrange hokj
      generalize l[j] = tj at *
      go_wp2_with fail
      refine (put_any tj _ _ [] _ w.heap.size (hrepj.under hbel) hbel.size (Bs.nil _) (by simp)).mono ?_
      rintro e w5 ⟨hb5', _, hput⟩
      obtain ⟨u5, rfl, ho5⟩ := hput HRJ.out
      rw [List.nil_append] at ho5
      have hu5 := Bs.of_own ho5 HE8.out
      obtain ⟨A5, c5, rfl, hc5, _, hat5, _, _⟩ := ho5.form
      have hown5 := hown.below hb5' (Nat.le_refl _)
      have hsz5 := Nat.le_trans hbr.size hb5'.size
      have hb5 : Below w4.heap.size w4 w5 := hbr.trans (hb5'.mono hbr.size)
      have hlen : (4 :: l.length :: (l.take j).flatMap (enc 16)).length ≤ 1052162 := by simp only [List.length_cons]; omega
      clear hput ho5 hown hb5' d0 d1 d2 d3 hbr hbr2
      by_cases hj0 : 0 < j
      · have g4 : decide ((0 : Int) < (j : Int)) = true := by simp; omega
        have g4' : decide (0 < j) = true := by simp; omega
        rw [if_pos hj0] at HJ
        obtain ⟨b1, hb1⟩ : ∃ b1, b1 = strOf (40 :: jn ((l.take j).map showT) ++ [44, 32]) := ⟨_, rfl⟩
        have hA1 : ∀ w, (Op.stringOp .add b0 ⟨#[44, 32]⟩).run Tryd.prog w = .ok (.string b1) w := add_str (40 :: jn ((l.take j).map showT)) [44, 32] b0 _ b1 HB0.out rfl hb1 (by simp only [List.length_cons, List.length_nil]; omega)
        obtain ⟨bs, hbs⟩ : ∃ bs, bs = strOf (showT tj) := ⟨_, rfl⟩
        obtain ⟨b2, hb2⟩ : ∃ b2, b2 = strOf (40 :: jn ((l.take (j + 1)).map showT)) := ⟨_, rfl⟩
        have hA2 : ∀ w, (Op.stringOp .add b1 bs).run Tryd.prog w = .ok (.string b2) w := add_str (40 :: jn ((l.take j).map showT) ++ [44, 32]) (showT tj) b1 bs b2 hb1 hbs (by rw [hb2, HJ.out]; simp) (by simp only [List.length_cons, List.length_append, List.length_nil]; omega)
        have HB2 := Lib.hid hb2
        have HBS := Lib.hid hbs
        clear hb1 hbs hb2 hj0
        go_wp2_with (at_builtin
                     refine wpList_app rfl (.tmp 59) (.tmp 60) rfl rfl hown5 rfl hat5 rfl (by omega) hsz5 ?_
                     intro v6 w6 hown6 hb6'' _ _
                     have hb6 : Below w4.heap.size w4 w6 := hb5.trans hb6''
                     have hbel6 := HQB.out _ (nxt hb4 hb6)
                     have d0 : w6.cell? ⟨b, o + j * 4, none⟩ = some y0 := (hbel6.cell hbB).trans (HRG.out 0 _ rfl)
                     have d1 : w6.cell? ⟨b, o + j * 4 + 1, none⟩ = some y1 := (hbel6.cell hbB).trans (HRG.out 1 _ rfl)
                     have d2 : w6.cell? ⟨b, o + j * 4 + 2, none⟩ = some y2 := (hbel6.cell hbB).trans (HRG.out 2 _ rfl)
                     have d3 : w6.cell? ⟨b, o + j * 4 + 3, none⟩ = some y3 := (hbel6.cell hbB).trans (HRG.out 3 _ rfl))
        refine (show_any tj _ _ w.heap.size (hrepj.under hbel6) hbel6.size (htabs.out _ hbel6)).mono ?_
        rintro e w7 ⟨rfl, hb7'⟩
        rw [← HBS.out]
        have hb7 : Below w4.heap.size w4 w7 := hb6.trans (hb7'.mono hb6.size)
        have hown7 := hown6.below hb7' (Nat.le_refl _)
        have hown8 : Own w7 w4.heap.size v6 (4 :: l.length :: (l.take (j + 1)).flatMap (enc 16)) := by
          rw [HF.out]
          simpa using hown7
        clear hown7 hown6 hown5 hb6'' hb6 hbel6 d0 d1 d2 d3 hb7' hb5
        go_wp2_with fail
        go_roundw
        case rel => exact ⟨j + 1, b2, by omega, by go_num, hown8, rfl, HB2, hb7⟩
        case measure => simp [intOf]; omega
      · have g4 : decide ((0 : Int) < (j : Int)) = false := by simp; omega
        have g4' : decide (0 < j) = false := by simp; omega
        rw [if_neg hj0] at HJ
        obtain ⟨bs, hbs⟩ : ∃ bs, bs = strOf (showT tj) := ⟨_, rfl⟩
        obtain ⟨b2, hb2⟩ : ∃ b2, b2 = strOf (40 :: jn ((l.take (j + 1)).map showT)) := ⟨_, rfl⟩
        have hA2 : ∀ w, (Op.stringOp .add b0 bs).run Tryd.prog w = .ok (.string b2) w := add_str (40 :: jn ((l.take j).map showT)) (showT tj) b0 bs b2 HB0.out hbs (by rw [hb2, HJ.out]; simp) (by simp only [List.length_cons]; omega)
        have HB2 := Lib.hid hb2
        have HBS := Lib.hid hbs
        clear hbs hb2 hj0
        go_wp2_with (at_builtin
                     refine wpList_app rfl (.tmp 59) (.tmp 60) rfl rfl hown5 rfl hat5 rfl (by omega) hsz5 ?_
                     intro v6 w6 hown6 hb6'' _ _
                     have hb6 : Below w4.heap.size w4 w6 := hb5.trans hb6''
                     have hbel6 := HQB.out _ (nxt hb4 hb6)
                     have d0 : w6.cell? ⟨b, o + j * 4, none⟩ = some y0 := (hbel6.cell hbB).trans (HRG.out 0 _ rfl)
                     have d1 : w6.cell? ⟨b, o + j * 4 + 1, none⟩ = some y1 := (hbel6.cell hbB).trans (HRG.out 1 _ rfl)
                     have d2 : w6.cell? ⟨b, o + j * 4 + 2, none⟩ = some y2 := (hbel6.cell hbB).trans (HRG.out 2 _ rfl)
                     have d3 : w6.cell? ⟨b, o + j * 4 + 3, none⟩ = some y3 := (hbel6.cell hbB).trans (HRG.out 3 _ rfl))
        refine (show_any tj _ _ w.heap.size (hrepj.under hbel6) hbel6.size (htabs.out _ hbel6)).mono ?_
        rintro e w7 ⟨rfl, hb7'⟩
        rw [← HBS.out]
        have hb7 : Below w4.heap.size w4 w7 := hb6.trans (hb7'.mono hb6.size)
        have hown7 := hown6.below hb7' (Nat.le_refl _)
        have hown8 : Own w7 w4.heap.size v6 (4 :: l.length :: (l.take (j + 1)).flatMap (enc 16)) := by
          rw [HF.out]
          simpa using hown7
        clear hown7 hown6 hown5 hb6'' hb6 hbel6 d0 d1 d2 d3 hb7' hb5
        go_wp2_with fail
        go_roundw
        case rel => exact ⟨j + 1, b2, by omega, by go_num, hown8, rfl, HB2, hb7⟩
        case measure => simp [intOf]; omega
    · obtain rfl : l.length = j := by omega
      rw [List.take_length] at hown HB0
      clear hlt hj
      go_upto_if 75 with (fail)
      go_cut [8] (fun b wx => ∃ b1, b = .string b1 ∧ Hid (b1 = strOf (40 :: (jn (l.map showT) ++ (if l.length = 1 then [44] else [])))) ∧ wr = wx)
      case first =>
        by_cases h1 : l.length = 1
        · have g4 : ((l.length : Int) == 1) = true := by rw [h1]; rfl
          obtain ⟨b2, hb2⟩ : ∃ b2, b2 = strOf (40 :: (jn (l.map showT) ++ (if l.length = 1 then [44] else []))) := ⟨_, rfl⟩
          have hA2 : ∀ w, (Op.stringOp .add b0 ⟨#[44]⟩).run Tryd.prog w = .ok (.string b2) w := add_str (40 :: jn (l.map showT)) [44] b0 _ b2 HB0.out rfl (by rw [hb2, if_pos h1]; simp) (by simp only [List.length_cons, List.length_nil]; omega)
          have HB2 := Lib.hid hb2
          have H1 := Lib.hid h1
          clear hb2 h1
          go_wp2_with fail
          go_meet
          exact ⟨b2, rfl, HB2, rfl⟩
        · have g4 : ((l.length : Int) == 1) = false := beq_eq_false_iff_ne.2 (by omega)
          have HB2 : Hid (b0 = strOf (40 :: (jn (l.map showT) ++ (if l.length = 1 then [44] else [])))) := by
            show _ = _
            rw [HB0.out, if_neg h1]
            simp
          clear h1
          go_wp2_with fail
          go_meet
          exact ⟨b0, rfl, HB2, rfl⟩
      case rest =>
      obtain ⟨b1, rfl, HB1, rfl⟩ := hcut
      obtain ⟨⟨d0, d1, d2, d3⟩, ⟨e0, e1, e2, e3⟩, s3⟩ := HQS.out _ hbr2
      go_wp2_with fail
      refine (put_any _ _ _ [] _ w.heap.size (RA.under (HQB.out _ hbr2)) (HQB.out _ hbr2).size (Bs.nil _) (by simp)).mono ?_
      rintro e w5 ⟨hb5', _, hput⟩
      obtain ⟨u5, rfl, ho5⟩ := hput HR.out
      rw [List.nil_append] at ho5
      have hu5 := Bs.of_own ho5 HE8.out
      have hw5 := Bs.of_own (hown.below hb5' (Nat.le_refl _)) (by rw [← HTE.out]; exact HE8.out)
      rw [HTE.out] at hu5
      have hb5 := nxt hbr2 hb5'
      clear hput ho5 hown hb5' hbr d0 d1 d2 d3 e0 e1 e2 e3 s3 hbel
      go_upto_if 87 with (fail)
      go_cut [14] (fun c wx => c = .int .i64 (if l.length < m.length then -1 else if m.length < l.length then 1 else 0) ∧ w5 = wx)
      case first =>
        by_cases h1 : l.length < m.length
        · have g4 : decide ((l.length : Int) < (m.length : Int)) = true := by simp; omega
          have g4' : decide (l.length < m.length) = true := by simp; omega
          go_wp2_with fail
          go_meet
          exact ⟨by rw [if_pos h1], rfl⟩
        · have g4 : decide ((l.length : Int) < (m.length : Int)) = false := by simp; omega
          have g4' : decide (l.length < m.length) = false := by simp; omega
          by_cases h2 : m.length < l.length
          · have g5 : decide ((m.length : Int) < (l.length : Int)) = true := by simp; omega
            have g5' : decide (m.length < l.length) = true := by simp; omega
            go_wp2_with fail
            go_meet
            exact ⟨by rw [if_neg h1, if_pos h2], rfl⟩
          · have g5 : decide ((m.length : Int) < (l.length : Int)) = false := by simp; omega
            have g5' : decide (m.length < l.length) = false := by simp; omega
            go_wp2_with fail
            go_meet
            exact ⟨by rw [if_neg h1, if_neg h2], rfl⟩
      case rest =>
      obtain ⟨rfl, rfl⟩ := hcut
      have HCM : Hid (cmV (.mk 4 0 [] l) (.mk 4 0 [] m) = if (if l.length < m.length then (-1 : Int) else if m.length < l.length then 1 else 0) = 0 then cmF cmV (l.drop 0) (m.drop 0) else (if l.length < m.length then -1 else if m.length < l.length then 1 else 0)) := by
        show _ = _
        rw [tup_cmp HR.out]
        by_cases h1 : l.length < m.length
        · rw [if_pos h1, if_pos h1, if_neg (by omega)]
        · by_cases h2 : m.length < l.length
          · rw [if_neg h1, if_pos h2, if_neg h1, if_pos h2, if_neg (by omega)]
          · rw [if_neg h1, if_neg h2, if_neg h1, if_neg h2, if_pos rfl]
            simp
      have HCZ : Hid ((if l.length < m.length then (-1 : Int) else if m.length < l.length then 1 else 0) = 0 → l.length = m.length) := by
        show _ → _
        intro h
        split at h
        · omega
        · split at h <;> omega
      generalize (if l.length < m.length then (-1 : Int) else if m.length < l.length then 1 else 0) = c0' at *
      go_wp2_with fail
      go_loopw [14, 15] (fun c i wx => ∃ (cc : Int) (j : Nat), j ≤ l.length ∧ i = .int .i64 (j : Int) ∧ c = .int .i64 cc ∧ Hid (cmV (.mk 4 0 [] l) (.mk 4 0 [] m) = if cc = 0 then cmF cmV (l.drop j) (m.drop j) else cc) ∧ Hid (cc = 0 → l.length = m.length) ∧ Below w5.heap.size w5 wx) (fun _ i _ => l.length - (intOf i).toNat)
      case atStart => exact ⟨c0', 0, Nat.zero_le _, rfl, rfl, HCM, HCZ, Below.refl _ _⟩
      case round =>
        clear HCM HCZ
        obtain ⟨cc, j, hj, rfl, rfl, HCM, HCZ, hbx⟩ := hrel
        have hbx2 := nxt hb5 hbx
        have hbel := HQB.out _ hbx2
        by_cases hgo : j < l.length ∧ cc = 0
        · obtain ⟨hlt, rfl⟩ := hgo
          have hlm := HCZ.out rfl
          obtain ⟨b, o, y0, y1, y2, y3, rfl, hbB, hrange, hrepj⟩ := hL.at j hlt
          have hjm : j < m.length := by omega
          have HLM := Lib.hid hlm
          clear hlm
          obtain ⟨b', o', z0, z1, z2, z3, rfl, hbB', hrange', hrepj'⟩ := hM.at j hjm
          have d0 : wr.cell? ⟨b, o + j * 4, none⟩ = some _ := (hbel.cell hbB).trans (hrange 0 _ rfl)
          have d1 : wr.cell? ⟨b, o + j * 4 + 1, none⟩ = some _ := (hbel.cell hbB).trans (hrange 1 _ rfl)
          have d2 : wr.cell? ⟨b, o + j * 4 + 2, none⟩ = some _ := (hbel.cell hbB).trans (hrange 2 _ rfl)
          have d3 : wr.cell? ⟨b, o + j * 4 + 3, none⟩ = some _ := (hbel.cell hbB).trans (hrange 3 _ rfl)
          have e0 : wr.cell? ⟨b', o' + j * 4, none⟩ = some _ := (hbel.cell hbB').trans (hrange' 0 _ rfl)
          have e1 : wr.cell? ⟨b', o' + j * 4 + 1, none⟩ = some _ := (hbel.cell hbB').trans (hrange' 1 _ rfl)
          have e2 : wr.cell? ⟨b', o' + j * 4 + 2, none⟩ = some _ := (hbel.cell hbB').trans (hrange' 2 _ rfl)
          have e3 : wr.cell? ⟨b', o' + j * 4 + 3, none⟩ = some _ := (hbel.cell hbB').trans (hrange' 3 _ rfl)
          have HC2 : Hid (cmV (.mk 4 0 [] l) (.mk 4 0 [] m) = if cmV (l[j]'hlt) (m[j]'hjm) = 0 then cmF cmV (l.drop (j + 1)) (m.drop (j + 1)) else cmV (l[j]'hlt) (m[j]'hjm)) := by
            show _ = _
            rw [HCM.out, if_pos rfl, List.drop_eq_getElem_cons hlt, List.drop_eq_getElem_cons hjm, cmF]
            by_cases h0 : cmV (l[j]'hlt) (m[j]'hjm) = 0
            · rw [if_pos h0, if_neg (by simpa using h0)]
            · rw [if_neg h0, if_pos h0]
          have g3 : (0 : Int) ≤ j := by omega
          have g4 : (j : Int) < m.length := by omega
          have g5 : (j : Int) < l.length := by omega
          have g6 : j < m.length := by omega
          clear hrange hrange' HCM HCZ
          generalize l[j] = tj at *
          generalize m[j] = uj at *
          go_wp2_with fail
          go_region_held3 (fun w' => (w'.cell? ⟨b, o + j * 4, none⟩ = some y0 ∧ w'.cell? ⟨b, o + j * 4 + 1, none⟩ = some y1 ∧ w'.cell? ⟨b, o + j * 4 + 2, none⟩ = some y2 ∧ w'.cell? ⟨b, o + j * 4 + 3, none⟩ = some y3) ∧
              (w'.cell? ⟨b', o' + j * 4, none⟩ = some z0 ∧ w'.cell? ⟨b', o' + j * 4 + 1, none⟩ = some z1 ∧ w'.cell? ⟨b', o' + j * 4 + 2, none⟩ = some z2 ∧ w'.cell? ⟨b', o' + j * 4 + 3, none⟩ = some z3)) (go_keep)
            (first
              | (go_at_call 23
                 refine (compare_any tj uj _ _ _ w.heap.size (hrepj.under hbel.drew) (hrepj'.under hbel.drew) hbel.size).mono ?_
                 rintro e w6 ⟨rfl, hb6'⟩
                 have hb6 := nxt hbx (of_drew hb6')
                 have hbel6 := HQB.out _ (nxt hb5 hb6)
                 have f0 := (hbel6.cell (p := ⟨b, o + j * 4, none⟩) hbB).trans ((hbel.cell hbB).symm.trans d0)
                 have f1 := (hbel6.cell (p := ⟨b, o + j * 4 + 1, none⟩) hbB).trans ((hbel.cell hbB).symm.trans d1)
                 have f2 := (hbel6.cell (p := ⟨b, o + j * 4 + 2, none⟩) hbB).trans ((hbel.cell hbB).symm.trans d2)
                 have f3 := (hbel6.cell (p := ⟨b, o + j * 4 + 3, none⟩) hbB).trans ((hbel.cell hbB).symm.trans d3)
                 have r0 := (hbel6.cell (p := ⟨b', o' + j * 4, none⟩) hbB').trans ((hbel.cell hbB').symm.trans e0)
                 have r1 := (hbel6.cell (p := ⟨b', o' + j * 4 + 1, none⟩) hbB').trans ((hbel.cell hbB').symm.trans e1)
                 have r2 := (hbel6.cell (p := ⟨b', o' + j * 4 + 2, none⟩) hbB').trans ((hbel.cell hbB').symm.trans e2)
                 have r3 := (hbel6.cell (p := ⟨b', o' + j * 4 + 3, none⟩) hbB').trans ((hbel.cell hbB').symm.trans e3))
              | (fail))
          all_goals
            clear d0 d1 d2 d3 e0 e1 e2 e3 f0 f1 f2 f3 r0 r1 r2 r3 hb6'
            go_wp2_with fail
            go_roundw
            case rel => exact ⟨_, j + 1, by omega, by go_num, rfl, HC2, fun _ => HLM.out, hb6⟩
            case measure => simp [intOf]; omega
        · have HCF : Hid (cc = cmV (.mk 4 0 [] l) (.mk 4 0 [] m)) := by
            show _ = _
            rw [HCM.out]
            by_cases h0 : cc = 0
            · have hjl : j = l.length := by omega
              rw [if_pos h0, h0, hjl, List.drop_length]
              rfl
            · rw [if_neg h0]
          obtain ⟨⟨d0, d1, d2, d3⟩, ⟨e0, e1, e2, e3⟩, s3⟩ := HQS.out _ hbx2
          have hu6 := hu5.below hbx
          have hw6 := hw5.below hbx
          obtain ⟨bs, hbs⟩ : ∃ bs, bs = strOf (showT (.mk 4 0 [] l)) := ⟨_, rfl⟩
          have hA2 : ∀ w, (Op.stringOp .add b1 ⟨#[41]⟩).run Tryd.prog w = .ok (.string bs) w := add_str (40 :: (jn (l.map showT) ++ (if l.length = 1 then [44] else []))) [41] b1 _ bs HB1.out rfl (by rw [hbs, HTS.out]; simp) (by
            simp only [List.length_cons, List.length_append]
            split <;> simp <;> omega)
          have HBS := Lib.hid hbs
          have hss : (bs.toList == bs.toList) = true := by simp
          have hcc : (cc == cc) = true := by simp
          have htest : j < l.length → (cc == 0) = false := fun h => beq_eq_false_iff_ne.2 (fun h0 => hgo ⟨h, h0⟩)
          clear hgo HCM HCZ hbs hu5 hw5 hbx
          by_cases hlt : j < l.length
          · have g4 := htest hlt
            clear htest
            go_wp2_with fail
            refine (same_bs _ _ _ _ true _ hu6 hw6 (by simp)).mono ?_
            rintro e w7 ⟨rfl, rfl⟩
            go_wp2_with fail
            refine (show_any _ _ _ w.heap.size (RA.under hbel) hbel.size (htabs.out _ hbel)).mono ?_
            rintro e w8 ⟨rfl, hb8'⟩
            rw [← HBS.out]
            have hb8 := nxt hbx2 hb8'
            have hbel8 := HQB.out _ hb8
            clear hb8' hbx2 hbel d0 d1 d2 d3 e0 e1 e2 e3 s3
            obtain ⟨⟨d0, d1, d2, d3⟩, ⟨e0, e1, e2, e3⟩, s3⟩ := HQS.out _ hb8
            go_wp2_with fail
            refine (compare_any _ _ _ _ _ w.heap.size (RA.under hbel8) (RB.under hbel8) hbel8.size).mono ?_
            rintro e w9 ⟨rfl, hb9'⟩
            rw [← HCF.out]
            have hbel9 := nxt hbel8 hb9'
            clear hb9' hb8 hbel8 d0 d1 d2 d3 e0 e1 e2 e3 s3
            go_wp2_with fail
            refine (awake_any _ (htabs.out _ hbel9)).mono ?_
            rintro e w10 ⟨rfl, hb10⟩
            go_wp2
            go_ret
            exact ⟨rfl, nxt hbel9 hb10⟩
          · clear htest
            go_wp2_with fail
            refine (same_bs _ _ _ _ true _ hu6 hw6 (by simp)).mono ?_
            rintro e w7 ⟨rfl, rfl⟩
            go_wp2_with fail
            refine (show_any _ _ _ w.heap.size (RA.under hbel) hbel.size (htabs.out _ hbel)).mono ?_
            rintro e w8 ⟨rfl, hb8'⟩
            rw [← HBS.out]
            have hb8 := nxt hbx2 hb8'
            have hbel8 := HQB.out _ hb8
            clear hb8' hbx2 hbel d0 d1 d2 d3 e0 e1 e2 e3 s3
            obtain ⟨⟨d0, d1, d2, d3⟩, ⟨e0, e1, e2, e3⟩, s3⟩ := HQS.out _ hb8
            go_wp2_with fail
            refine (compare_any _ _ _ _ _ w.heap.size (RA.under hbel8) (RB.under hbel8) hbel8.size).mono ?_
            rintro e w9 ⟨rfl, hb9'⟩
            rw [← HCF.out]
            have hbel9 := nxt hbel8 hb9'
            clear hb9' hb8 hbel8 d0 d1 d2 d3 e0 e1 e2 e3 s3
            go_wp2_with fail
            refine (awake_any _ (htabs.out _ hbel9)).mono ?_
            rintro e w10 ⟨rfl, hb10⟩
            go_wp2
            go_ret
            exact ⟨rfl, nxt hbel9 hb10⟩

set_option maxRecDepth 100000 in
theorem lifted (os : Os) (started : os.Started) (H : Type) (enc : TypeId × Value → H) :
    ReturnsInHanded {} Tryd.checked os 7 .any (fun w args => (Rows.valueTuplesSpec.pre enc Tryd.prog Tryd.f7 [] false w args ∧ laidMetH Tryd.prog laid3 w) ∧ sizedMet enc Tryd.prog Tryd.f7 (OpenSpec.ofChange Rows.valueTuplesSpec) false w args) (Rows.valueTuplesSpec.post enc Tryd.prog Tryd.f7 false true false false) := by
  refine returnsInHanded_of_change_and (C := Tryd.checked) (X := fun w _ => laidMetH Tryd.prog laid3 w) (fun _ _ _ hh h => h.of_heap hh) knob_own started (by kernel_rfl) Tryd.func7
    (ChangeSpec.witness_shaped (enc := enc) (C := Tryd.checked) (os := os) (X := fun w _ => laidMetH Tryd.prog laid3 w) false (World.doorLaid Tryd.prog 400 os) #[.slice none 0 0, .slice none 0 0] 8 rfl (World.shaped_of_RefB (by kernel_rfl) (by kernel_rfl)) (by kernel_rfl) (by kernel_rfl) (by kernel_rfl) (door_met os _)) ?_
  intro W base args ds gs before hval0 hW _ _ hL _
  have hval : ∀ (j : Nat) t v, Tryd.f7.params[j]? = some t → args[j]? = some v → Value.okWide Tryd.prog W .any base t v := hval0
  have hW' := hW
  obtain ⟨p, q, hA0, hV, rfl, hfz, hnd⟩ := hW
  have hA : DataW.TrodAll enc Tryd.prog W 0 (fun _ => true) true Tryd.f7.params.toList args.toList ds p := hA0
  rw [Tryd.params7] at hA hval
  obtain ⟨v0, vs0, d0, ds0, p0, q0, hargs, rfl, rfl, h0, r0⟩ := trodAll_cons hA
  obtain ⟨v1, vs1, d1, ds1, p1, q1, rfl, rfl, rfl, h1, r1⟩ := trodAll_cons r0
  obtain ⟨rfl, rfl, rfl⟩ := trodAll_nil r1
  obtain rfl : args = #[v0, v1] := by cases args; simp_all
  obtain ⟨rfl, rfl⟩ := trodVars_none hV
  obtain ⟨a0, n0, c0, rfl⟩ := okWide_slice Tryd.underlying23 (hval 0 23 v0 rfl rfl)
  have k0 := h0
  have lt0 : ∀ x ∈ p0, x.block < W.heap.size := by obtain ⟨m, hm⟩ := k0; exact DataW.trod_lt m _ _ _ hm
  have w0 := vals_open h0
  obtain ⟨a1, n1, c1, rfl⟩ := okWide_slice Tryd.underlying23 (hval 1 23 v1 rfl rfl)
  have k1 := h1
  have lt1 : ∀ x ∈ p1, x.block < W.heap.size := by obtain ⟨m, hm⟩ := k1; exact DataW.trod_lt m _ _ _ hm
  have w1 := vals_open h1
  clear hA0 hval0
  refine (walk W (tab_laid hL) a0 n0 c0 a1 n1 c1 w0 w1).mono fun e W' ⟨he, bel⟩ => ?_
  subst he
  exact ⟨_, rfl, _, _, _, [], _, [], hW', trodAll_mk1 (shut_bool Tryd.underlying4 _), (trodAll_cons_mk (Below.trod laid_out (by kernel_rfl) (of_decide_eq_true (by kernel_rfl)) k0 bel lt0) (trodAll_cons_mk (Below.trod laid_out (by kernel_rfl) (of_decide_eq_true (by kernel_rfl)) k1 bel lt1) (trodAll_mk0))), rfl, bel.frame _, fun h => by cases h⟩

theorem over : Rows.valueTuplesRow.holds Tryd.pinned (OpenSpec.ofChange Rows.valueTuplesSpec) :=
  OpenClaim.holds_of_wide 7 Tryd.f7 rfl rfl rfl rfl rfl rfl rfl ⟨rfl, rfl, rfl, rfl, rfl⟩ rfl rfl rfl rfl rfl (by kernel_rfl) Tryd.func7 (by kernel_rfl)
    (of_decide_eq_true (by kernel_rfl)) (by unfold Func.isWrapper; first | (rw [if_pos (by decide +kernel)]; kernel_rfl) | (rw [if_neg (by decide +kernel)]; exact ⟨rfl, rfl⟩))
    (fun os started H enc _ => lifted os started H enc)

theorem proved : Rows.ValueTuplesCardSaid :=
  Claim7.holds_tied_plain_at .later [] [.data, .data, .data] true Rows.valueTuplesCard.stood.harness false
    over (fun _ h => by cases h) (by kernel_rfl) (fun _ h => by cases h) valueTuples_row_tie rfl ⟨rfl, rfl⟩ (by kernel_rfl) rfl
    (fun f fn hf hfn => by
      obtain rfl : f = 7 := Option.some.inj ((show Tryd.prog.funcNamed "drover/droverlaw02.ValueTuples" = some 7 by kernel_rfl).symm.trans hf) |>.symm
      obtain rfl : fn = Tryd.f7 := (Option.some.inj (Tryd.func7.symm.trans hfn)).symm
      exact ⟨by kernel_rfl, fun j t ht => by
        have hall : (Tryd.f7.params.toList.all fun u => !Tryd.prog.wantsStandIn u) = true := by kernel_rfl
        have hm : t ∈ Tryd.f7.params.toList := Array.mem_toList_iff.2 (Array.mem_of_getElem? ht)
        exact (show Tryd.prog.wantsStandIn t = false by simpa using List.all_eq_true.1 hall t hm)⟩)
    (by kernel_rfl)
end Go.Proofs.YtfobmlicmbelnaaDoor.valueTuples
