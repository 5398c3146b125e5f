/- droverlaw05.LogNumbers returns true: the fixed examples of the chapter come out as written, records torn in every place and turned in every byte too. For every input, without conditions. -/
import Derived.Test.YtcmopnkldplngaaRow
import Derived.Test.YtcmopnkldplngaaBrw
import Derived.Test.YtcmopnkldplngaaAwake05
import Derived.Test.YtcmopnkldplngaaLp
namespace Go.Proofs.Ytcmopnkldplngaa.logNumbers
open Go.ChangeShapes Go.WideShapes Go.ChangeAt Go.RowKit
set_option linter.unusedVariables false

theorem made_zero (k : Nat) : (madeCells #[Value.int .u8 0] k).toList = bv (List.replicate k 0) := by
  apply List.ext_getElem?
  intro i
  by_cases hi : i < k
  · simp [madeCells, bv, hi, Nat.mod_one]
  · simp [madeCells, bv, hi]
theorem app_new (m : Nat) (x : List Nat) (h : x.length ≤ m) : Pd.app (.new m) x = (⟨m, x, 0, false, 0, false⟩, 0) := by
  unfold Pd.app Pd.op Pd.less Pd.new
  rw [if_neg (by simp), if_neg (by simp; omega), if_neg (by simp), if_neg (by simp)]
  simp [Pd.put]
def nX : List Nat := [0, 0, 0, 1, 140, 220, 22, 131, 120]

set_option maxRecDepth 100000 in
set_option maxHeartbeats 8000000 in
theorem walk (w : World)   :
    Calls Try.prog 3 #[] w fun e w' => e = .returned (.bool true) ∧ Below w.heap.size w w' := by
  have hcv : ∀ (w : World) (C : Array Value) (n c g : Nat), g = w.heap.size → (convert 22 22 (.slice (some ⟨g, 0, none⟩) n c)).run Try.prog (w.alloc (.cells C 5)) = .ok (.slice (some ⟨g, 0, none⟩) n c) (w.alloc (.cells C 5 (C.size, C.size + 1))) := by
    intro w C n c g hg
    subst hg
    exact Lib.run_convert_bytes_const (P := Try.prog) w 22 5 C n c Try.underlying22 Try.underlying5
  have H25 := Lib.hid nAll_len
  have HAB := Lib.hid nAll_bytes
  have HTB := Lib.hid nTurn_bytes
  have HTL := Lib.hid nTurn_len
  have HTO := Lib.hid n_torn
  have HTU := Lib.hid n_turn
  have HTD : Hid (∀ i, nTurn i = nAll.set i ((nAll.getD i 0 + 1) % 256)) := fun _ => rfl
  have HEQ : Hid (nAll = lrec nR1 ++ lrec nR2) := rfl
  have hl1 : Hid ((lrec nR1).length = 11) := by show _ = _; rw [lrec_length]; rfl
  have hl2 : Hid ((lrec nR2).length = 14) := by show _ = _; rw [lrec_length]; rfl
  go_enter Try.func3, Try.ntmps3
  go_wp2_with fail
  have hv1 := Bs.made' w #[.int .u8 111, .int .u8 110, .int .u8 101] 5 nR1 3 w.heap.size rfl rfl rfl (by simp [nR1]) (3, 4)
  have hal1 := (Below.refl w.heap.size w).alloc (Nat.le_refl _) (.cells #[.int .u8 111, .int .u8 110, .int .u8 101] 5 (3, 4))
  refine (refrecord_any _ nR1 _ hv1 (by simp [nR1])).mono ?_
  rintro e w1 ⟨u1, rfl, ho1, hb1⟩
  have hbw1 := nxt hal1 hb1
  have hv2 := Bs.made' w1 #[.int .u8 115, .int .u8 101, .int .u8 99, .int .u8 111, .int .u8 110, .int .u8 100] 5 nR2 6 w1.heap.size rfl rfl rfl (by simp [nR2]) (6, 7)
  have hal2 := (Below.refl w1.heap.size w1).alloc (Nat.le_refl _) (.cells #[.int .u8 115, .int .u8 101, .int .u8 99, .int .u8 111, .int .u8 110, .int .u8 100] 5 (6, 7))
  clear hv1 hal1
  go_wp2_with fail
  refine (refrecord_any _ nR2 _ hv2 (by simp [nR2])).mono ?_
  rintro e w2 ⟨u2, rfl, ho2, hb2⟩
  have hb12 := nxt hal2 hb2
  have hbw2 := nxt hbw1 hb12
  have ho12 : Own w2 w.heap.size u1 (lrec nR1) := (ho1.below hb12 (Nat.le_refl _)).mono (by simp)
  obtain ⟨A2, c2, rfl, -, -, ha2, -, -⟩ := id ho2.form
  have ha2' : At w2 w2.heap.size A2 (bv (lrec nR2)) := ha2
  clear hv2 hal2 ho1 hb1 hb2 ho2 hb12 hbw1 ha2
  go_wp2_with (first
    | (at_builtin
       refine wpList_app rfl (.tmp 37) (.tmp 40) rfl rfl ho12 rfl ha2' rfl (by rw [hl1.out, hl2.out]; omega) hbw2.size ?_
       intro v3 w3 hown3 hb3 _ _)
    | (fail))
  rw [← HEQ.out] at hown3
  have hbw3 := hbw2.trans hb3
  obtain ⟨g3, c3, rfl, hg3, hc3⟩ := hown3.head (by intro h; have := H25.out; rw [h] at this; simp at this)
  clear ho12 ha2' hbw2 hb3
  have h25 := H25.out
  have hc3' : 25 ≤ c3 := by omega
  rw [h25]
  have hO3 : Own w3 w.heap.size (.slice (some ⟨g3, 0, none⟩) 25 c3) nAll := by rw [h25] at hown3; exact hown3
  have hB3 : Hid (∀ w' : World, Below w3.heap.size w3 w' → Bs w' (.slice (some ⟨g3, 0, none⟩) 25 c3) nAll) := fun w' hb => Bs.of_own (hO3.below hb (Nat.le_refl _)) HAB.out
  clear hown3 hl1 hl2 HEQ hO3 hc3 hg3
  generalize nAll = ALL at *
  clear h25
  go_loopw [2] (fun i wr => ∃ j : Nat, j ≤ 26 ∧ i = .int .i64 (j : Int) ∧ Below w3.heap.size w3 wr) (fun i _ => 26 - (intOf i).toNat)
  case atStart => exact ⟨0, by omega, rfl, Below.refl _ _⟩
  case round =>
    obtain ⟨j, hj, rfl, hbr⟩ := hrel
    by_cases hlt : j ≤ 25
    · have hx8 : ∀ y ∈ ALL.take j, y < 256 := fun y hy => HAB.out y (List.mem_of_mem_take hy)
      have hxl : (ALL.take j).length = j := by rw [List.length_take, H25.out]; omega
      have hbp := (hB3.out wr hbr).pre j hlt
      have HW := Lib.hid (HTO.out j hlt)
      obtain ⟨d', ho, hbd, -, -, -, -⟩ := open_plain ⟨1000, ALL.take j, 0, false, 0, false⟩ rfl rfl hx8
      have hap := app_new 1000 (ALL.take j) (by omega)
      dsimp only at ho hbd
      have hbd' := Lib.hid hbd
      generalize ALL.take j = X at *
      generalize whole X = ws at *
      clear hbd
      have t1 : decide ((j : Int) ≤ 25) = true := decide_eq_true (by omega)
      have t1' : (j : Int) ≤ 25 := by omega
      have t2 : (j : Int) ≤ (c3 : Int) := by omega
      go_wp2_with fail
      refine (new_any 1000 (by omega) wr).mono ?_
      rintro e x1 ⟨rfl, hd1, hb1⟩
      have hsz := hbr.size
      have hbr1 := nxt hbr hb1
      have hbp1 := hbp.below hb1
      generalize hp : wr.heap.size = p at *
      clear hb1 hbp hp
      have HAP := Lib.hid (append_any _ X hd1 hbp1)
      rw [hap] at HAP
      go_wp2_with fail
      refine HAP.out.mono ?_
      rintro e x2 ⟨rfl, r2, hd2, hk2, hr2⟩
      have hbr2 := hbr1.trans ((hd1.low hk2).mono hsz)
      clear HAP hap hd1 hbp1 hk2 hr2 hbr1
      have hcase : (j < 11 ∧ ws.length = 0) ∨ (11 ≤ j ∧ j < 25 ∧ ws.length = 1) ∨ (j = 25 ∧ ws.length = 2) := by
        rw [HW.out]
        unfold nWant
        split
        · exact .inr (.inr ⟨by omega, rfl⟩)
        · split
          · exact .inr (.inl ⟨by omega, by omega, rfl⟩)
          · exact .inl ⟨by omega, rfl⟩
      clear hxl hx8 HW
      rcases hcase with ⟨h1, hwl⟩ | ⟨h1, h2, hwl⟩ | ⟨h1, hwl⟩
      case' inl =>
        have q1 : decide ((11 : Int) ≤ (j : Int)) = false := decide_eq_false (by omega)
        have q2 : ((j : Int) == 25) = false := beq_eq_false_iff_ne.2 (by omega)
      case' inr.inl =>
        have q1 : decide ((11 : Int) ≤ (j : Int)) = true := decide_eq_true (by omega)
        have q2 : ((j : Int) == 25) = false := beq_eq_false_iff_ne.2 (by omega)
      case' inr.inr =>
        have q1 : decide ((11 : Int) ≤ (j : Int)) = true := decide_eq_true (by omega)
        have q2 : ((j : Int) == 25) = true := by rw [h1]; rfl
      all_goals
        have HWL := Lib.hid hwl
        clear hwl
        go_wp2_with fail
        refine (open_any hd2).mono ?_
        rintro e x3 ⟨r3, hd3, hk3, hr3, hop⟩
        rw [ho] at hd3 hop
        obtain ⟨A5, c5, q5, m5, rfl, -, -, -, -, hq5, -⟩ := hop
        have hbr3 := hbr2.trans ((hd2.low hk3).mono hsz)
        rw [HWL.out]
        clear hk3 hr3 hd2 hbr2 ho
        go_wp2_with fail
        refine (lg_len hq5).mono ?_
        rintro e wx ⟨rfl, rfl⟩
        rw [show (plOf ws).n = ws.length from rfl, HWL.out]
        go_wp2_with fail
        refine (lg_bytes hq5).mono ?_
        rintro e wx ⟨rfl, rfl⟩
        rw [show (plOf ws).size = (lrecs ws).length from rfl]
        go_wp2_with fail
        refine (size_any hd3).mono ?_
        rintro e wx ⟨rfl, rfl⟩
        rw [hbd'.out]
        go_wp2_with fail
        go_roundw
        case rel => exact ⟨j + 1, by omega, by go_num, hbr3⟩
        case measure => simp [intOf]; omega
    · obtain rfl : j = 26 := by omega
      clear HTO hlt hj
      rw [show ((26 : Nat) : Int) = 26 from rfl]
      go_wp2_with fail
      go_loopw [9] (fun i wr => ∃ j : Nat, j ≤ 25 ∧ i = .int .i64 (j : Int) ∧ Below w3.heap.size w3 wr) (fun i _ => 25 - (intOf i).toNat)
      case atStart => exact ⟨0, by omega, rfl, hbr⟩
      case round =>
        clear hbr
        obtain ⟨j, hj, rfl, hbr⟩ := hrel
        by_cases hlt : j < 25
        · have t1 : decide ((j : Int) < 25) = true := decide_eq_true (by omega)
          have t1' : (j : Int) < 25 := by omega
          have t0 : (0 : Int) ≤ (j : Int) := by omega
          have hbA := hB3.out _ hbr
          have HL := Lib.hid (HTU.out j hlt)
          have HD := Lib.hid (HTD.out j)
          obtain ⟨d', ho, hbd, -, -, -, -⟩ := open_plain ⟨1000, nTurn j, 0, false, 0, false⟩ rfl rfl (HTB.out j)
          have hap := app_new 1000 (nTurn j) (by rw [HTL.out]; omega)
          dsimp only at ho
          have hTB := Lib.hid (HTB.out j)
          have hTL := Lib.hid (HTL.out j)
          have hb8 : ALL.getD j 0 < 256 := by
            have := HAB.out (ALL[j]'(by rw [H25.out]; omega)) (List.getElem_mem _)
            simpa [show j < ALL.length by rw [H25.out]; omega] using this
          generalize nTurn j = X at *
          generalize whole X = ws at *
          have hws1 : ws.length ≤ 1 := by rw [HL.out]; split <;> omega
          clear hbd
          go_wp2_with fail
          refine (copy_bs _ ALL _ hbA (by rw [H25.out]; omega)).mono ?_
          rintro e x1 ⟨v1, rfl, ho1, -, hb1⟩
          obtain ⟨g, cg, rfl, hgl, hgc⟩ := ho1.head (by intro h; have := H25.out; rw [h] at this; simp at this)
          have hfro := Own.frozenAt ho1 j rfl
          have hcx := Own.cellAt ho1 j (by rw [H25.out]; omega)
          have hst := (Own.stored ho1 j ((ALL.getD j 0 + 1) % 256)).1
          rw [← HD.out, H25.out] at hst
          have hsw := hbr.size
          have hbr1 := hbr.trans (hb1.mono hsw)
          rename_i wq
          have hbr2 : Below w3.heap.size w3 (x1.setCell ⟨g, j, none⟩ (.int .u8 (((ALL.getD j 0 + 1) % 256 : Nat) : Int))) := hbr1.trans ((Below.refl _ x1).setCell (p := ⟨g, j, none⟩) (by show w3.heap.size ≤ g; omega) _)
          have hbX := Bs.of_own hst hTB.out
          rw [H25.out]
          clear ho1 hst hb1 hbA hbr hbr1 hgc
          generalize ALL.getD j 0 = y at *
          have sw : IntKind.u8.wrap ((y : Int) + 1) = (((y + 1) % 256 : Nat) : Int) := by
            rw [show IntKind.u8.wrap ((y : Int) + 1) = ((y : Int) + 1) % 256 from rfl]
            omega
          have hcast : (((y + 1) % 256 : Nat) : Int) = ((y : Int) + 1) % 256 := by omega
          rw [hcast] at hbX hbr2
          clear hcast sw
          go_wp2_with fail
          generalize x1.setCell ⟨g, j, none⟩ (.int .u8 (((y : Int) + 1) % 256)) = x2 at *
          refine (new_any 1000 (by omega) x2).mono ?_
          rintro e x3 ⟨rfl, hd3, hb3⟩
          have hsz := hbr2.size
          have hbr3 := nxt hbr2 hb3
          have hbX3 := hbX.below hb3
          generalize hp : x2.heap.size = p at *
          clear hb3 hbX hp hcx hfro hbr2
          have HAP := Lib.hid (append_any _ X hd3 hbX3)
          rw [hap] at HAP
          go_wp2_with fail
          refine HAP.out.mono ?_
          rintro e x4 ⟨rfl, r4, hd4, hk4, hr4⟩
          have hbr4 := hbr3.trans ((hd3.low hk4).mono hsz)
          clear HAP hap hd3 hbX3 hk4 hr4 hbr3
          go_wp2_with fail
          refine (open_any hd4).mono ?_
          rintro e x5 ⟨r5, hd5, hk5, hr5, hop⟩
          rw [ho] at hd5 hop
          obtain ⟨A5, c5, q5, m5, rfl, -, -, -, -, hq5, -⟩ := hop
          have hbr5 := hbr4.trans ((hd4.low hk5).mono hsz)
          clear hk5 hr5 hd4 hbr4 ho hws1 hd5
          by_cases hj11 : j < 11
          · have HWL : Hid (ws.length = 0) := HL.out.trans (if_pos hj11)
            have q1 : decide ((j : Int) < 11) = true := decide_eq_true (by omega)
            have q2 : (j : Int) / 11 = 0 := by omega
            clear HL hj11
            go_wp2_with fail
            refine (lg_len hq5).mono ?_
            rintro e wx ⟨rfl, rfl⟩
            rw [show (plOf ws).n = ws.length from rfl, HWL.out]
            go_wp2_with fail
            refine (lg_len hq5).mono ?_
            rintro e wx ⟨rfl, rfl⟩
            rw [show (plOf ws).n = ws.length from rfl, HWL.out]
            go_wp2_with fail
            refine (lg_len hq5).mono ?_
            rintro e wx ⟨rfl, rfl⟩
            rw [show (plOf ws).n = ws.length from rfl, HWL.out]
            go_wp2_with fail
            go_roundw
            case rel => exact ⟨j + 1, by omega, by go_num, hbr5⟩
            case measure => simp [intOf]; omega
          · have HWL : Hid (ws.length = 1) := HL.out.trans (if_neg hj11)
            have q1 : decide ((j : Int) < 11) = false := decide_eq_false (by omega)
            have hor : (j : Int) / 11 = 1 ∨ (j : Int) / 11 = 2 := by omega
            clear HL hj11
            rcases hor with q2 | q2
            · go_wp2_with fail
              refine (lg_len hq5).mono ?_
              rintro e wx ⟨rfl, rfl⟩
              rw [show (plOf ws).n = ws.length from rfl, HWL.out]
              go_wp2_with fail
              refine (lg_len hq5).mono ?_
              rintro e wx ⟨rfl, rfl⟩
              rw [show (plOf ws).n = ws.length from rfl, HWL.out]
              go_wp2_with fail
              refine (lg_len hq5).mono ?_
              rintro e wx ⟨rfl, rfl⟩
              rw [show (plOf ws).n = ws.length from rfl, HWL.out]
              go_wp2_with fail
              go_roundw
              case rel => exact ⟨j + 1, by omega, by go_num, hbr5⟩
              case measure => simp [intOf]; omega
            · go_wp2_with fail
              refine (lg_len hq5).mono ?_
              rintro e wx ⟨rfl, rfl⟩
              rw [show (plOf ws).n = ws.length from rfl, HWL.out]
              go_wp2_with fail
              refine (lg_len hq5).mono ?_
              rintro e wx ⟨rfl, rfl⟩
              rw [show (plOf ws).n = ws.length from rfl, HWL.out]
              go_wp2_with fail
              refine (lg_len hq5).mono ?_
              rintro e wx ⟨rfl, rfl⟩
              rw [show (plOf ws).n = ws.length from rfl, HWL.out]
              go_wp2_with fail
              refine (lg_len hq5).mono ?_
              rintro e wx ⟨rfl, rfl⟩
              rw [show (plOf ws).n = ws.length from rfl, HWL.out]
              go_wp2_with fail
              go_roundw
              case rel => exact ⟨j + 1, by omega, by go_num, hbr5⟩
              case measure => simp [intOf]; omega
        · obtain rfl : j = 25 := by omega
          have hbw4 := nxt hbw3 hbr
          clear hbw3 HTU HTD HTB HTL hlt hj hB3 hbr
          have hmk : ∀ (n : Nat) (_ : n ≤ 4194304) (w : World), (Instr.makeSlice 22 (.int .i64 (n : Int)) (.int .i64 (n : Int))).run Try.prog w = .ok (.slice (some ⟨w.heap.size, 0, none⟩) n n) (w.alloc (.cells (madeCells #[.int .u8 0] n) 5)) :=
            fun n hn w => run_make_row' 22 5 _ 1 Try.underlying22 u8_info rfl .i64 .i64 n (by omega) (by omega) w
          have HZ := Lib.hid made_zero
          have HMK := Lib.hid hmk
          clear hmk
          obtain ⟨Z40, hZ40⟩ : ∃ Z, Z = madeCells #[Value.int .u8 0] 40 := ⟨_, rfl⟩
          have hm40 : ∀ w : World, (Instr.makeSlice 22 (.int .i64 40) (.int .i64 40)).run Try.prog w = .ok (.slice (some ⟨w.heap.size, 0, none⟩) 40 40) (w.alloc (.cells Z40 5)) := by
            rw [hZ40]
            exact HMK.out 40 (by omega)
          have HB40 : Hid (∀ (w : World) (g : Nat), g = w.heap.size → Bs (w.alloc (.cells Z40 5)) (.slice (some ⟨g, 0, none⟩) 40 40) (List.replicate 40 0)) := fun w g hg =>
            Bs.made' w Z40 5 (List.replicate 40 0) 40 g hg (by rw [hZ40]; exact HZ.out 40) (by simp) (by simp)
          clear hZ40
          obtain ⟨d0', ho0, hbd0, hmo0, hdn0, har0, -⟩ := open_plain ⟨1000, List.replicate 40 0, 0, false, 0, false⟩ rfl rfl (by simp)
          have hap0 := app_new 1000 (List.replicate 40 0) (by simp)
          dsimp only at ho0 hbd0
          rw [whole_zeros] at ho0 hbd0
          have hbd0' : Hid (d0'.bs = []) := hbd0
          generalize List.replicate 40 0 = X0 at *
          clear hbd0 hmo0 hdn0 har0
          rw [show ((25 : Nat) : Int) = 25 from rfl]
          go_wp2_with fail
          refine (new_any 1000 (by omega) _).mono ?_
          rintro e x1 ⟨rfl, hd1, hb1⟩
          have hbz1 := nxt hbw4 hb1
          obtain ⟨p0, hp0⟩ : ∃ p0, p0 = wr.heap.size := ⟨_, rfl⟩
          have hd1 : Dk x1 wr.heap.size p0 none (.new 1000) := by rw [hp0]; exact hd1
          rw [← hp0]
          have HP0 := Lib.hid hp0
          have hwr := hbw4.size
          clear hp0 hb1
          have hal2 := (Below.refl x1.heap.size x1).alloc (Nat.le_refl _) (.cells Z40 5)
          have hd2 := hd1.below hal2
          have hbz2 := nxt hbz1 hal2
          have HAP := Lib.hid (append_any _ X0 hd2 (HB40.out x1 x1.heap.size rfl))
          rw [hap0] at HAP
          clear hd1 hal2 hbz1 hap0
          go_wp2_with fail
          refine HAP.out.mono ?_
          rintro e x3 ⟨rfl, r3, hd3, hk3, hr3⟩
          have hbz3 := hbz2.trans ((hd2.low hk3).mono hwr)
          clear HAP hd2 hbz2 hk3 hr3
          go_wp2_with fail
          refine (open_any hd3).mono ?_
          rintro e x4 ⟨r4, hd4, hk4, hr4, hop⟩
          rw [ho0] at hd4 hop
          obtain ⟨A0, c0, q0, m0, rfl, -, -, -, -, hq0, -⟩ := hop
          have hbz4 := hbz3.trans ((hd3.low hk4).mono hwr)
          clear hd3 hbz3 hk4 hr4 ho0
          go_wp2_with fail
          refine (new_any 30 (by omega) x4).mono ?_
          rintro e x5 ⟨rfl, hd5, hb5⟩
          have hbz5 := nxt hbz4 hb5
          obtain ⟨B, hB⟩ : ∃ B, B = x4.heap.size := ⟨_, rfl⟩
          rw [← hB] at hd5 hb5 ⊢
          have hBw : w.heap.size ≤ B := by rw [hB]; exact hbz4.size
          have HBB := Lib.hid hB
          clear hB
          go_wp2_with fail
          refine (open_any hd5).mono ?_
          rintro e x6 ⟨r6, hd6, hk6, hr6, hop⟩
          rw [open_new] at hd6 hop
          obtain ⟨A6, c6, q6, m6, rfl, -, hm6, hmq6, -, hq6, -⟩ := hop
          have hb6 := hb5.trans (hd5.low hk6)
          have hg6 : Lg x6 B B q6 r6 (.new 30) (plOf []) := ⟨hd6, hq6, by have := hd5.base_le; omega⟩
          clear hd5 hd6 hk6 hr6 hm6 hmq6 hbz5 hb5 hq6
          obtain ⟨ZB, hZB⟩ : ∃ Z, Z = madeCells #[Value.int .u8 0] 1048577 := ⟨_, rfl⟩
          obtain ⟨NB, hNB⟩ : ∃ NB : Nat, NB = 1048577 := ⟨_, rfl⟩
          have hmB : ∀ w : World, (Instr.makeSlice 22 (.int .i64 1048577) (.int .i64 1048577)).run Try.prog w = .ok (.slice (some ⟨w.heap.size, 0, none⟩) NB NB) (w.alloc (.cells ZB 5)) := by
            rw [hZB, hNB]
            exact HMK.out 1048577 (by omega)
          obtain ⟨XB, hXB⟩ : ∃ X, X = List.replicate 1048577 0 := ⟨_, rfl⟩
          have hXBl : XB.length = 1048577 := by rw [hXB]; exact List.length_replicate
          have HBB2 : Hid (∀ (w : World) (g : Nat), g = w.heap.size → Bs (w.alloc (.cells ZB 5)) (.slice (some ⟨g, 0, none⟩) NB NB) XB) := fun w g hg =>
            Bs.made' w ZB 5 XB NB g hg (by rw [hZB, hXB]; exact HZ.out 1048577) (by rw [hXBl, hNB]) (by rw [hXB]; intro y hy; rw [List.eq_of_mem_replicate hy]; omega)
          obtain ⟨Z23, hZ23⟩ : ∃ Z, Z = madeCells #[Value.int .u8 0] 23 := ⟨_, rfl⟩
          have hm23 : ∀ w : World, (Instr.makeSlice 22 (.int .i64 23) (.int .i64 23)).run Try.prog w = .ok (.slice (some ⟨w.heap.size, 0, none⟩) 23 23) (w.alloc (.cells Z23 5)) := by
            rw [hZ23]
            exact HMK.out 23 (by omega)
          obtain ⟨X23, hX23⟩ : ∃ X, X = List.replicate 23 0 := ⟨_, rfl⟩
          have hX23l : X23.length = 23 := by rw [hX23]; rfl
          have HB23 : Hid (∀ (w : World) (g : Nat), g = w.heap.size → Bs (w.alloc (.cells Z23 5)) (.slice (some ⟨g, 0, none⟩) 23 23) X23) := fun w g hg =>
            Bs.made' w Z23 5 X23 23 g hg (by rw [hZ23, hX23]; exact HZ.out 23) hX23l (by rw [hX23]; intro y hy; rw [List.eq_of_mem_replicate hy]; omega)
          obtain ⟨Z22, hZ22⟩ : ∃ Z, Z = madeCells #[Value.int .u8 0] 22 := ⟨_, rfl⟩
          have hm22 : ∀ w : World, (Instr.makeSlice 22 (.int .i64 22) (.int .i64 22)).run Try.prog w = .ok (.slice (some ⟨w.heap.size, 0, none⟩) 22 22) (w.alloc (.cells Z22 5)) := by
            rw [hZ22]
            exact HMK.out 22 (by omega)
          obtain ⟨X22, hX22⟩ : ∃ X, X = List.replicate 22 0 := ⟨_, rfl⟩
          have hX22l : X22.length = 22 := by rw [hX22]; rfl
          have HB22 : Hid (∀ (w : World) (g : Nat), g = w.heap.size → Bs (w.alloc (.cells Z22 5)) (.slice (some ⟨g, 0, none⟩) 22 22) X22) := fun w g hg =>
            Bs.made' w Z22 5 X22 22 g hg (by rw [hZ22, hX22]; exact HZ.out 22) hX22l (by rw [hX22]; intro y hy; rw [List.eq_of_mem_replicate hy]; omega)
          have HA1 : Hid (addL (plOf []) (.new 30) [] = (plOf [], .new 30, 2)) := rfl
          have HA2 : Hid (addL (plOf []) (.new 30) XB = (plOf [], .new 30, 3)) := by
            show _ = _
            unfold addL takesE
            rw [if_neg (show ¬ XB.length = 0 by omega), if_pos (show 1048576 < XB.length by omega), if_pos (by simp)]
          have HA3 : Hid (addL (plOf []) (.new 30) X23 = (plOf [], .new 30, 5)) := by
            rcases addL_cases (plOf []) (.new 30) X23 (by omega) rfl rfl with ⟨-, h⟩ | ⟨h, -⟩ | ⟨h, -⟩
            · exact h
            · rw [lrec_length, hX23l] at h
              exact absurd (show (Pd.new 30).most - (Pd.new 30).bs.length < 8 + 23 by decide) h
            · rw [lrec_length, hX23l] at h
              exact absurd (show (Pd.new 30).most - (Pd.new 30).bs.length < 8 + 23 by decide) h
          have HA4 : Hid (addL (plOf []) (.new 30) X22 = (⟨1, 30, false⟩, ⟨30, lrec X22, 30, false, 0, false⟩, 0)) := by
            have hl22 : (lrec X22).length = 30 := by rw [lrec_length, hX22l]
            show _ = _
            rw [addL_ok _ _ _ (by omega) rfl rfl rfl (by rw [hl22]; decide), hl22]
            simp [Pd.new, plOf, lrecs, hl22]
          have HLX : Hid ((lrec X22).length = 30) := by show _ = _; rw [lrec_length, hX22l]
          have HL8 : Hid (∀ y ∈ lrec X22, y < 256) := lrec_bytes X22 ⟨by omega, by omega, by rw [hX22]; intro y hy; rw [List.eq_of_mem_replicate hy]; omega⟩
          have HP23 := Lib.hid (show Z23.toList = bv X23 ∧ X23.length = 23 ∧ Z23.size = 23 from ⟨by rw [hZ23, hX23]; exact HZ.out 23, hX23l, by rw [hZ23]; exact size_madeCells _ _⟩)
          have HP22 := Lib.hid (show Z22.toList = bv X22 ∧ X22.length = 22 ∧ Z22.size = 22 from ⟨by rw [hZ22, hX22]; exact HZ.out 22, hX22l, by rw [hZ22]; exact size_madeCells _ _⟩)
          have HPB := Lib.hid (show ZB.toList = bv XB ∧ XB.length = NB ∧ ZB.size = NB ∧ XB.length ≤ maxLen from ⟨by rw [hZB, hXB]; exact HZ.out 1048577, by rw [hXBl, hNB], by rw [hZB, hNB]; exact size_madeCells _ _, by rw [hXBl]; decide⟩)
          have H8s := Lib.hid (show (∀ y ∈ XB, y < 256) ∧ (∀ y ∈ X23, y < 256) ∧ (∀ y ∈ X22, y < 256) from ⟨by rw [hXB]; intro y hy; rw [List.eq_of_mem_replicate hy]; omega, by rw [hX23]; intro y hy; rw [List.eq_of_mem_replicate hy]; omega, by rw [hX22]; intro y hy; rw [List.eq_of_mem_replicate hy]; omega⟩)
          have HC1 : Hid ((⟨30, lrec X22, 30, false, 0, false⟩ : Pd).crash 0 = ⟨30, lrec X22, 30, false, 0, false⟩) := by show _ = _; rw [hX22]; kernel_rfl
          have HC2 : Hid ((⟨30, lrec X22, 30, false, 0, false⟩ : Pd).cut 0 = (⟨30, [], 0, false, 0, false⟩, 0)) := by show _ = _; rw [hX22]; kernel_rfl
          have HC3 : Hid ((⟨30, [], 0, false, 0, false⟩ : Pd).arm 1 = ⟨30, [], 0, true, 1, false⟩) := by show _ = _; kernel_rfl
          have HC4 : Hid (addL ⟨1, 30, false⟩ ⟨30, [], 0, true, 1, false⟩ [120] = (⟨1, 30, true⟩, ⟨30, nX, 0, false, 0, true⟩, 15)) := by show _ = _; kernel_rfl
          have HC5 : Hid ((⟨30, nX, 0, false, 0, true⟩ : Pd).crash 100 = ⟨30, nX, 9, false, 0, false⟩) := by show _ = _; kernel_rfl
          have HC6 : Hid (addL ⟨1, 30, true⟩ ⟨30, nX, 9, false, 0, false⟩ [121] = (⟨1, 30, true⟩, ⟨30, nX, 9, false, 0, false⟩, 15)) := by show _ = _; kernel_rfl
          have HC7 : Hid (openL ⟨30, nX, 9, false, 0, false⟩ = (⟨30, nX, 9, false, 0, false⟩, .ok [[120]])) := by show _ = _; kernel_rfl
          generalize lrec X22 = Y22 at *
          clear hNB hZB hXB hXBl hZ23 hX23 hX23l hZ22 hX22 hX22l HZ HMK
          go_upto_region 32 with fail
          have HMB := Lib.hid hmB
          have HM23 := Lib.hid hm23
          have HM22 := Lib.hid hm22
          have hg : Lg x6 B B q6 r6 (.new 30) (plOf []) := hg6
          have hbc : Below B x6 x6 := Below.refl _ _
          clear hmB hm23 hm22 hm40
          go_cut [26, 27, 28, 29] (fun a b c d wx => a = .int .i64 2 ∧ b = .int .i64 3 ∧ c = .int .i64 5 ∧ d = .int .i64 0 ∧ ∃ s, Lg wx B B q6 s ⟨30, Y22, 30, false, 0, false⟩ ⟨1, 30, false⟩ ∧ Below B x6 wx)
          case first =>
            as_aux_lemma =>
            go_region_held3 (fun _ => True) (trivial)
              (first
              | (rw [HMB.out]; rw [Result.andThen_ok]; rw [Oper.upon_value]
                 have hBB := hg.made ZB NB HPB.out.2.1 HPB.out.1 HPB.out.2.2.1 HPB.out.2.2.2
                 try simp only [size_al] at hBB
                 try replace hB23 := hB23.alloc (.cells ZB 5)
                 try replace hB22 := hB22.alloc (.cells ZB 5)
                 replace hbc := hbc.alloc hg.dk.base_le (.cells ZB 5)
                 replace hg := hg.alloc (.cells ZB 5))
              | (rw [HM23.out]; rw [Result.andThen_ok]; rw [Oper.upon_value]
                 have hB23 := hg.made Z23 23 HP23.out.2.1 HP23.out.1 HP23.out.2.2 (by rw [HP23.out.2.1]; decide)
                 try simp only [size_al] at hB23
                 try replace hBB := hBB.alloc (.cells Z23 5)
                 try replace hB22 := hB22.alloc (.cells Z23 5)
                 replace hbc := hbc.alloc hg.dk.base_le (.cells Z23 5)
                 replace hg := hg.alloc (.cells Z23 5))
              | (rw [HM22.out]; rw [Result.andThen_ok]; rw [Oper.upon_value]
                 have hB22 := hg.made Z22 22 HP22.out.2.1 HP22.out.1 HP22.out.2.2 (by rw [HP22.out.2.1]; decide)
                 try simp only [size_al] at hB22
                 try replace hBB := hBB.alloc (.cells Z22 5)
                 try replace hB23 := hB23.alloc (.cells Z22 5)
                 replace hbc := hbc.alloc hg.dk.base_le (.cells Z22 5)
                 replace hg := hg.alloc (.cells Z22 5))
              | (go_at_call 12
                 have HC := add_any _ [] hg.drew (Bs.nil _) (by simp [plOf]) (by simp [plOf, lrecs])
                 rw [HA1.out] at HC
                 dsimp only at HC
                 with_reducible refine HC.mono ?_
                 clear HC
                 rintro e y ⟨rfl, s, hgn, hk, hr⟩
                 replace hg := hg.drew
                 replace hbc := hbc.drew
                 try replace hBB := hBB.drew
                 try replace hB23 := hB23.drew
                 try replace hB22 := hB22.drew
                 try replace hBB := hBB.kl hg.at_ hgn.dk hk hr
                 try replace hB23 := hB23.kl hg.at_ hgn.dk hk hr
                 try replace hB22 := hB22.kl hg.at_ hgn.dk hk hr
                 replace hbc := hbc.trans (hg.low_of hk)
                 replace hg := hgn
                 clear hgn hk hr)
              | (go_at_call 12
                 have HC := add_any _ XB hg (Bs.of_own hBB.own H8s.out.1) (by simp [plOf]) (by simp [plOf, lrecs])
                 rw [HA2.out] at HC
                 dsimp only at HC
                 with_reducible refine HC.mono ?_
                 clear HC
                 rintro e y ⟨rfl, s, hgn, hk, hr⟩
                 try replace hBB := hBB.kl hg.at_ hgn.dk hk hr
                 try replace hB23 := hB23.kl hg.at_ hgn.dk hk hr
                 try replace hB22 := hB22.kl hg.at_ hgn.dk hk hr
                 replace hbc := hbc.trans (hg.low_of hk)
                 replace hg := hgn
                 clear hgn hk hr)
              | (go_at_call 12
                 have HC := add_any _ X23 hg (Bs.of_own hB23.own H8s.out.2.1) (by simp [plOf]) (by simp [plOf, lrecs])
                 rw [HA3.out] at HC
                 dsimp only at HC
                 with_reducible refine HC.mono ?_
                 clear HC
                 rintro e y ⟨rfl, s, hgn, hk, hr⟩
                 try replace hBB := hBB.kl hg.at_ hgn.dk hk hr
                 try replace hB23 := hB23.kl hg.at_ hgn.dk hk hr
                 try replace hB22 := hB22.kl hg.at_ hgn.dk hk hr
                 replace hbc := hbc.trans (hg.low_of hk)
                 replace hg := hgn
                 clear hgn hk hr)
              | (go_at_call 12
                 have HC := add_any _ X22 hg (Bs.of_own hB22.own H8s.out.2.2) (by simp [plOf]) (by simp [plOf, lrecs])
                 rw [HA4.out] at HC
                 dsimp only at HC
                 with_reducible refine HC.mono ?_
                 clear HC
                 rintro e y ⟨rfl, s, hgn, hk, hr⟩
                 try replace hBB := hBB.kl hg.at_ hgn.dk hk hr
                 try replace hB23 := hB23.kl hg.at_ hgn.dk hk hr
                 try replace hB22 := hB22.kl hg.at_ hgn.dk hk hr
                 replace hbc := hbc.trans (hg.low_of hk)
                 replace hg := hgn
                 clear hgn hk hr)
              | (fail))
            all_goals
              as_aux_lemma =>
              go_wp2_with fail
              go_meet
              exact ⟨rfl, rfl, rfl, rfl, _, hg, hbc⟩
          case rest =>
          obtain ⟨rfl, rfl, rfl, rfl, s6, hg7, hb7⟩ := hcut
          have hbA := hb6.trans hb7
          have hqB := hg7.low
          clear hb6 hb7 hg6 hg hbc HA1 HA2 HA3 HA4 HM22 HM23 HMB HP22 HP23 HPB H8s HB23 HB22 HBB2
          go_wp2_with fail
          refine (crash_any 0 (by omega) (by omega) hg7.dk).mono ?_
          rintro e w8 ⟨rfl, r8, hd8, hk8, hr8⟩
          rw [HC1.out] at hd8
          have hl8 : LgAt w8 q6 B ⟨1, 30, false⟩ := hg7.at_.kr hg7.dk hk8
          have hb8 := hbA.trans (hg7.dk.low hk8)
          clear hg7 hbA hk8 hr8
          go_wp2_with fail
          refine (cut_any 0 (by omega) (by omega) hd8).mono ?_
          rintro e w9 ⟨rfl, r9, hd9, hk9, hr9⟩
          rw [HC2.out] at hd9
          have hl9 : LgAt w9 q6 B ⟨1, 30, false⟩ := hl8.kr hd8 hk9
          have hb9 := hb8.trans (hd8.low hk9)
          clear hd8 hl8 hb8 hk9 hr9
          go_wp2_with fail
          refine (arm_any 1 (by omega) hd9).mono ?_
          rintro e w10 ⟨rfl, r10, hd10, hk10, hr10⟩
          rw [HC3.out] at hd10
          have hl10 : LgAt w10 q6 B ⟨1, 30, false⟩ := hl9.kr hd9 hk10
          have hb10 := hb9.trans (hd9.low hk10)
          have hz10 := hb10.size
          have hs10 := hd10.base_le
          clear hd9 hl9 hb9 hk10 hr10
          have hv10 := Bs.made' w10 #[.int .u8 120] 5 [120] 1 w10.heap.size rfl rfl rfl (by simp) (1, 2)
          have hg10 : Lg (w10.alloc (.cells #[.int .u8 120] 5 (1, 2))) B B q6 r10 ⟨30, [], 0, true, 1, false⟩ ⟨1, 30, false⟩ := (Lg.mk hd10 hl10 hqB).below ((Below.refl _ _).alloc (Nat.le_refl _) _)
          have hb10' := hb10.alloc hs10 (.cells #[.int .u8 120] 5 (1, 2))
          have HAx := add_any _ [120] hg10 hv10 (by simp) (by simp)
          rw [HC4.out] at HAx
          dsimp only at HAx
          have HAX := Lib.hid HAx
          clear HAx hv10 hd10 hl10 hb10 hz10 hs10
          go_wp2_with fail
          refine HAX.out.mono ?_
          rintro e w11 ⟨rfl, r11, hg11, hk11, hr11⟩
          have hb11 := hb10'.trans (hg10.low_of hk11)
          clear HAX hg10 hb10' hk11 hr11
          go_wp2_with fail
          refine (crash_any 100 (by omega) (by omega) hg11.dk).mono ?_
          rintro e w12 ⟨rfl, r12, hd12, hk12, hr12⟩
          rw [HC5.out] at hd12
          have hl12 : LgAt w12 q6 B ⟨1, 30, true⟩ := hg11.at_.kr hg11.dk hk12
          have hb12 := hb11.trans (hg11.dk.low hk12)
          have hs12 := hd12.base_le
          clear hg11 hb11 hk12 hr12
          have hv12 := Bs.made' w12 #[.int .u8 121] 5 [121] 1 w12.heap.size rfl rfl rfl (by simp) (1, 2)
          have hg12 : Lg (w12.alloc (.cells #[.int .u8 121] 5 (1, 2))) B B q6 r12 ⟨30, nX, 9, false, 0, false⟩ ⟨1, 30, true⟩ := (Lg.mk hd12 hl12 hqB).below ((Below.refl _ _).alloc (Nat.le_refl _) _)
          have hb12' := hb12.alloc hs12 (.cells #[.int .u8 121] 5 (1, 2))
          have HAx := add_any _ [121] hg12 hv12 (by simp) (by simp)
          rw [HC6.out] at HAx
          dsimp only at HAx
          have HAX := Lib.hid HAx
          clear HAx hv12 hd12 hl12 hb12 hs12
          go_wp2_with fail
          refine HAX.out.mono ?_
          rintro e w13 ⟨rfl, r13, hg13, hk13, hr13⟩
          have hb13 := hb12'.trans (hg12.low_of hk13)
          clear HAX hg12 hb12' hk13 hr13
          go_wp2_with fail
          refine (open_any hg13.dk).mono ?_
          rintro e w14 ⟨r14, hd14, hk14, hr14, hop⟩
          rw [HC7.out] at hd14 hop
          obtain ⟨A14, c14, q14, m14, rfl, -, hm13, hmq14, -, hq14, hblk14, -⟩ := hop
          have hb14 := hb13.trans (hg13.dk.low hk14)
          have hb14 : Below x4.heap.size x4 w14 := by rw [← HBB.out]; exact hb14
          have hm14 : m14 ≤ w14.heap.size := Nat.le_trans hmq14 (Nat.le_of_lt (lt_heap hq14))
          have hq0' := heap_below hq0 hb14
          have hd0 := hd4.below hb14
          have hbw14 := nxt hbz4 hb14
          clear hg13 hb13 hk14 hr14 hd14 hb14
          go_wp2_with fail
          refine (lg_len hq0').mono ?_
          rintro e wx ⟨rfl, rfl⟩
          rw [show (plOf []).n = 0 from rfl]
          go_wp2_with fail
          refine (size_any hd0).mono ?_
          rintro e wx ⟨rfl, rfl⟩
          rw [hbd0'.out]
          go_wp2_with fail
          refine (lg_len hq14).mono ?_
          rintro e wx ⟨rfl, rfl⟩
          rw [show (plOf [[120]]).n = 1 from rfl]
          have hv14 := Bs.made' w14 #[.int .u8 120] 5 [120] 1 w14.heap.size rfl rfl rfl (by simp) (1, 2)
          have hal11 := (Below.refl w14.heap.size w14).alloc (Nat.le_refl _) (.cells #[.int .u8 120] 5 (1, 2))
          have hL := BlkS.one (l := [120]) hv14 22 (w14.heap.size + 1) (by simp)
          have hal12 := nxt hal11 ((Below.refl (w14.alloc (.cells #[.int .u8 120] 5 (1, 2))).heap.size (w14.alloc (.cells #[.int .u8 120] 5 (1, 2)))).alloc (Nat.le_refl _) (.cells #[.slice (some ⟨w14.heap.size, 0, none⟩) 1 1] 22))
          have hB12 := hblk14.low hal12 hm14
          have hm12 := hal12.size
          have HSM := Lib.hid (samel_any A14 (some ⟨w14.heap.size + 1, 0, none⟩) c14 1 [[120]] [[120]] _ _ _ true hB12 hL (fun b hb => by have := hb.2; omega) (fun _ h => h) (by simp) (decide_eq_true rfl))
          have HBW := Lib.hid (nxt hbw14 hal12)
          clear hL hal11 hv14 hal12 hB12 hblk14 hm14 hm12 hm13 hmq14 hq14 hq0' hd0 hbw14
          go_wp2_with fail
          refine HSM.out.mono ?_
          rintro e w15 ⟨rfl, hb15⟩
          go_wp2_with fail
          refine (awake05_any _).mono ?_
          rintro e w16 ⟨rfl, hb16⟩
          go_wp2_with fail
          go_ret
          exact ⟨rfl, nxt HBW.out (nxt hb15 hb16)⟩

set_option maxRecDepth 100000 in
theorem lifted (os : Os) (started : os.Started) (H : Type) (enc : TypeId × Value → H) :
    ReturnsInHanded {} Try.checked os 3 .any (Rows.logNumbersSpec.pre6 enc Try.prog Try.f3 Rows.logNumbersRow.domain false) (Rows.logNumbersSpec.post enc Try.prog Try.f3 false true false false) := by
  refine returnsInHanded_of_change (C := Try.checked) knob_own started (by kernel_rfl) Try.func3
    (ChangeSpec.witness6 (enc := enc) (C := Try.checked) false ⟨#[], #[], []⟩ 8 (by kernel_rfl) (by kernel_rfl) (by kernel_rfl) (by kernel_rfl)) ?_
  intro W base args ds gs before hval0 hW hcnd _
  have hval : ∀ (j : Nat) t v, Try.f3.params[j]? = some t → args[j]? = some v → Value.okWide Try.prog W .any base t v := hval0
  have hW' := hW
  obtain ⟨p, q, hA0, hV, rfl, hfz, hnd⟩ := hW
  have hA : DataW.TrodAll enc Try.prog W 0 (fun _ => true) true Try.f3.params.toList args.toList ds p := hA0
  rw [Try.params3] at hA hval
  obtain ⟨rfl, rfl, rfl⟩ := trodAll_none hA
  obtain ⟨rfl, rfl⟩ := trodVars_none hV

  clear hA0 hval0
  refine (walk W  ).mono fun e W' ⟨he, bel⟩ => ?_
  subst he
  exact ⟨_, rfl, _, _, _, [], _, [], hW', trodAll_mk1 (shut_bool Try.underlying4 _), (trodAll_mk0), rfl, bel.frame _, fun h => by cases h⟩

theorem over : Rows.logNumbersRow.holds Try.pinned (OpenSpec.ofChange Rows.logNumbersSpec) :=
  OpenClaim.holds_of_wide 3 Try.f3 rfl rfl rfl rfl rfl rfl rfl ⟨rfl, rfl, rfl, rfl, rfl⟩ rfl rfl rfl rfl rfl (by kernel_rfl) Try.func3 (by kernel_rfl)
    (of_decide_eq_true (by kernel_rfl)) (by unfold Func.isWrapper; first | (rw [if_pos (by decide +kernel)]; kernel_rfl) | (rw [if_neg (by decide +kernel)]; exact ⟨rfl, rfl⟩))
    (fun os started H enc _ => lifted os started H enc)

theorem proved : Rows.LogNumbersSaid := over
end Go.Proofs.Ytcmopnkldplngaa.logNumbers
