/- droverlaw04.DiskNumbers returns true: the fixed examples of the chapter come out as written, the limits and arms too. For every input, without conditions. -/
import Derived.Test.YtmjgoeigjjabmaaRow
import Derived.Test.YtmjgoeigjjabmaaAwake04
namespace Go.Proofs.Ytmjgoeigjjabmaa.diskNumbers
open Go.ChangeShapes Go.WideShapes Go.ChangeAt Go.RowKit
set_option linter.unusedVariables false

theorem own_store {w : World} {base : Nat} {v : Value} {l : List Nat} (h : Own w base v l) (j : Nat) (hj : j < l.length) :
    ∃ g c, v = .slice (some ⟨g, 0, none⟩) l.length c ∧ base ≤ g ∧ w.cell? ⟨g, j, none⟩ = some (.int .u8 ((l.getD j 0 : Nat) : Int)) ∧ w.frozen? ⟨g, j, none⟩ = false := by
  rcases id h.2 with ⟨_, h2⟩ | ⟨g, cap, cur, h1, h2, h3, h4, h5, _⟩
  · omega
  · subst h1
    refine ⟨g, cap, rfl, h2, ?_, World.ownsRow.frozenAt h j⟩
    rw [World.ownsRow.cellAt h j (by omega)]
    simp [bv, hj]

set_option maxRecDepth 100000 in
set_option maxHeartbeats 4000000 in
theorem walk (w : World)   :
    Calls Try.prog 3 #[] w fun e w' => e = .returned (.bool true) ∧ Below w.heap.size w w' := by
  have hcv : ∀ (w : World) (C : Array Value) (n c g : Nat), g = w.heap.size → (convert 26 26 (.slice (some ⟨g, 0, none⟩) n c)).run Try.prog (w.alloc (.cells C 5)) = .ok (.slice (some ⟨g, 0, none⟩) n c) (w.alloc (.cells C 5 (C.size, C.size + 1))) := by
    intro w C n c g hg
    subst hg
    exact Lib.run_convert_bytes_const (P := Try.prog) w 26 5 C n c Try.underlying26 Try.underlying5
  go_enter Try.func3, Try.ntmps3
  go_wp2_with fail
  refine (new_not (-1) (by omega) w).mono ?_
  rintro e wx ⟨rfl, rfl⟩
  go_wp2_with fail
  refine (new_not 67108865 (by omega) w).mono ?_
  rintro e wx ⟨rfl, rfl⟩
  go_wp2_with fail
  refine (new_any 67108864 (by omega) w).mono ?_
  rintro e wy ⟨rfl, -, hby⟩
  go_wp2_with fail
  refine (new_any 3 (by omega) wy).mono ?_
  rintro e w0 ⟨rfl, hd0, hb0⟩
  obtain ⟨p, hp⟩ : ∃ p, p = wy.heap.size := ⟨_, rfl⟩
  have hd0 : Dk w0 w.heap.size p none (.new 3) := by rw [hp]; exact hd0.mono hby.size
  have hb0 := nxt hby hb0
  rw [← hp]
  have HP := Lib.hid hp
  clear hp hby
  have hd0 : Dk w0 w.heap.size p none ⟨3, [], 0, false, 0, false⟩ := hd0
  go_wp2_with fail
  have ha1 : Below w.heap.size w (w0.alloc (.cells #[.int .u8 97, .int .u8 98, .int .u8 99] 5 (3, 4))) := hb0.alloc hb0.size _
  have hv1 := Bs.made' w0 #[.int .u8 97, .int .u8 98, .int .u8 99] 5 [97, 98, 99] 3 w0.heap.size rfl rfl rfl (by simp) (3, 4)
  have hq1 := hd0.alloc (.cells #[.int .u8 97, .int .u8 98, .int .u8 99] 5 (3, 4))
  have hh1 := heap_new w0 (.cells #[.int .u8 97, .int .u8 98, .int .u8 99] 5 (3, 4))
  have hlt := hd0.lt
  refine (append_any _ [97, 98, 99] hq1 hv1).mono ?_
  rintro e w1 ⟨rfl, r1, hd1, hk1, hr1⟩
  have e1 : Pd.app ⟨3, [], 0, false, 0, false⟩ [97, 98, 99] = (⟨3, [97, 98, 99], 0, false, 0, false⟩, 0) := rfl
  rw [e1] at hd1 ⊢
  have hb1 := ha1.trans (hq1.low hk1)
  have hh1' := hk1.heap hh1 (by omega) (by simp)
  have hgr : r1 ≠ some w0.heap.size := by
    rcases hr1 with rfl | ⟨k, rfl, hk⟩
    · simp
    · intro h
      have h1 := Option.some.inj h
      have h2 : w0.heap.size + 1 ≤ k := by simpa using hk
      omega
  obtain ⟨g, hg⟩ : ∃ g, g = w0.heap.size := ⟨_, rfl⟩
  have hgw : w.heap.size ≤ g := by have := hb0.size; omega
  have hgp : p ≠ g := by omega
  rw [← hg] at hh1' hgr ⊢
  have kc : w1.cell? ⟨g, 0, none⟩ = some (.int .u8 97) := cell_block hh1' 0
  have kf : w1.frozen? ⟨g, 0, none⟩ = false := by simp [World.frozen?, hh1']
  have hd1' : Dk (w1.setCell ⟨g, 0, none⟩ (.int .u8 120)) w.heap.size p r1 ⟨3, [97, 98, 99], 0, false, 0, false⟩ := hd1.other (((Kr.refl g none w1)).set 0 _) hgp (by simp) hgr (by simp)
  have hb1' : Below w.heap.size w (w1.setCell ⟨g, 0, none⟩ (.int .u8 120)) := hb1.setCell hgw _
  clear ha1 hv1 hq1 hh1 hlt hk1 hr1 hb0 hd0 e1 hgr hh1' hg
  go_wp2_with fail
  obtain ⟨w2, hw2⟩ : ∃ w2, w2 = w1.setCell ⟨g, 0, none⟩ (.int .u8 120) := ⟨_, rfl⟩
  rw [← hw2] at hd1' hb1' ⊢
  clear hw2 kc kf hd1 hb1 hgw hgp
  have hd2 := hd1'
  have hb2 := hb1'
  clear hd1' hb1'
  refine (read_any hd2).mono ?_
  rintro e w3 ⟨v3, rfl, ho3, -, hq3⟩
  have e3 : Pd.read ⟨3, [97, 98, 99], 0, false, 0, false⟩ = ([97, 98, 99], 0) := rfl
  rw [e3] at ho3 ⊢
  obtain ⟨h, c3, rfl, hh, kc, kf⟩ := own_store ho3 1 (by simp)
  have hd3 := hd2.below (hq3.setCell (p := ⟨h, 1, none⟩) hh (.int .u8 120))
  have hb3 := nxt hb2 (hq3.setCell (p := ⟨h, 1, none⟩) hh (.int .u8 120))
  clear hd2 hb2 hq3 ho3 e3 hh
  go_wp2_with fail
  obtain ⟨w4, hw4⟩ : ∃ w4, w4 = w3.setCell ⟨h, 1, none⟩ (.int .u8 120) := ⟨_, rfl⟩
  rw [← hw4] at hd3 hb3 ⊢
  have hd4 := hd3
  have hb4 := hb3
  clear hw4 kc kf hd3 hb3
  refine (reads_any ⟨#[97, 98, 99]⟩ rfl rfl hd4).mono ?_
  rintro e w5 ⟨rfl, hq5⟩
  have hd5 := hd4.below hq5
  have hb5 := nxt hb4 hq5
  clear hq5 hd4 hb4
  go_wp2_with fail
  have ha6 : Below w.heap.size w (w5.alloc (.cells #[.int .u8 100] 5 (1, 2))) := hb5.alloc hb5.size _
  have hv6 := Bs.made' w5 #[.int .u8 100] 5 [100] 1 w5.heap.size rfl rfl rfl (by simp) (1, 2)
  have hq6 := hd5.alloc (.cells #[.int .u8 100] 5 (1, 2))
  refine (append_any _ [100] hq6 hv6).mono ?_
  rintro e w6 ⟨rfl, r6, hd6, hk6, -⟩
  have e6 : Pd.app ⟨3, [97, 98, 99], 0, false, 0, false⟩ [100] = (⟨3, [97, 98, 99], 0, false, 0, false⟩, 5) := rfl
  rw [e6] at hd6 ⊢
  have hb6 := ha6.trans (hq6.low hk6)
  clear ha6 hv6 hq6 hk6 hd5 hb5 e6
  go_wp2_with fail
  refine (append_any _ [] hd6 (Bs.nil _)).mono ?_
  rintro e w7 ⟨rfl, r7, hd7, hk7, -⟩
  have e7 : Pd.app ⟨3, [97, 98, 99], 0, false, 0, false⟩ [] = (⟨3, [97, 98, 99], 0, false, 0, false⟩, 0) := rfl
  rw [e7] at hd7 ⊢
  have hb7 := hb6.trans (hd6.low hk7)
  clear hk7 hd6 hb6 e7
  go_wp2_with fail
  refine (cut_any 4 (by omega) (by omega) hd7).mono ?_
  rintro e w8 ⟨rfl, r8, hd8, hk8, -⟩
  have e8 : Pd.cut ⟨3, [97, 98, 99], 0, false, 0, false⟩ 4 = (⟨3, [97, 98, 99], 0, false, 0, false⟩, 2) := rfl
  rw [e8] at hd8 ⊢
  have hb8 := hb7.trans (hd7.low hk8)
  clear hk8 hd7 hb7 e8
  go_wp2_with fail
  refine (cut_any (-1) (by omega) (by omega) hd8).mono ?_
  rintro e w9 ⟨rfl, r9, hd9, hk9, -⟩
  have e9 : Pd.cut ⟨3, [97, 98, 99], 0, false, 0, false⟩ (-1) = (⟨3, [97, 98, 99], 0, false, 0, false⟩, 2) := rfl
  rw [e9] at hd9 ⊢
  have hb9 := hb8.trans (hd8.low hk9)
  clear hk9 hd8 hb8 e9
  go_wp2_with fail
  refine (cut_any 2 (by omega) (by omega) hd9).mono ?_
  rintro e w10 ⟨rfl, r10, hd10, hk10, -⟩
  have e10 : Pd.cut ⟨3, [97, 98, 99], 0, false, 0, false⟩ 2 = (⟨3, [97, 98], 2, false, 0, false⟩, 0) := rfl
  rw [e10] at hd10 ⊢
  have hb10 := hb9.trans (hd9.low hk10)
  clear hk10 hd9 hb9 e10
  go_wp2_with fail
  refine (synced_any hd10).mono ?_
  rintro e wx ⟨rfl, rfl⟩
  go_wp2_with fail
  refine (reads_any ⟨#[97, 98]⟩ rfl rfl hd10).mono ?_
  rintro e w11 ⟨rfl, hq11⟩
  have hd11 := hd10.below hq11
  have hb11 := nxt hb10 hq11
  clear hq11 hd10 hb10
  go_wp2_with fail
  refine (arm_any 0 (by omega) hd11).mono ?_
  rintro e w12 ⟨rfl, r12, hd12, hk12, -⟩
  have e12 : Pd.arm ⟨3, [97, 98], 2, false, 0, false⟩ 0 = ⟨3, [97, 98], 2, true, 0, false⟩ := rfl
  rw [e12] at hd12
  have hb12 := hb11.trans (hd11.low hk12)
  clear hk12 hd11 hb11 e12
  go_wp2_with fail
  have ha13 : Below w.heap.size w (w12.alloc (.cells #[.int .u8 122, .int .u8 122, .int .u8 122, .int .u8 122, .int .u8 122] 5 (5, 6))) := hb12.alloc hb12.size _
  have hv13 := Bs.made' w12 #[.int .u8 122, .int .u8 122, .int .u8 122, .int .u8 122, .int .u8 122] 5 [122, 122, 122, 122, 122] 5 w12.heap.size rfl rfl rfl (by simp) (5, 6)
  have hq13 := hd12.alloc (.cells #[.int .u8 122, .int .u8 122, .int .u8 122, .int .u8 122, .int .u8 122] 5 (5, 6))
  refine (append_any _ [122, 122, 122, 122, 122] hq13 hv13).mono ?_
  rintro e w13 ⟨rfl, r13, hd13, hk13, -⟩
  have e13 : Pd.app ⟨3, [97, 98], 2, true, 0, false⟩ [122, 122, 122, 122, 122] = (⟨3, [97, 98], 2, true, 0, false⟩, 5) := rfl
  rw [e13] at hd13 ⊢
  have hb13 := ha13.trans (hq13.low hk13)
  clear ha13 hv13 hq13 hk13 hd12 hb12 e13
  go_wp2_with fail
  refine (sync_any hd13).mono ?_
  rintro e w14 ⟨rfl, r14, hd14, hk14, -⟩
  have e14 : Pd.sync ⟨3, [97, 98], 2, true, 0, false⟩ = (⟨3, [97, 98], 2, false, 0, true⟩, 15) := rfl
  rw [e14] at hd14 ⊢
  have hb14 := hb13.trans (hd13.low hk14)
  clear hk14 hd13 hb13 e14
  go_wp2_with fail
  refine (arm_any 5 (by omega) hd14).mono ?_
  rintro e w15 ⟨rfl, r15, hd15, hk15, -⟩
  have e15 : Pd.arm ⟨3, [97, 98], 2, false, 0, true⟩ 5 = ⟨3, [97, 98], 2, false, 0, true⟩ := rfl
  rw [e15] at hd15
  have hb15 := hb14.trans (hd14.low hk15)
  clear hk15 hd14 hb14 e15
  go_wp2_with fail
  refine (sync_any hd15).mono ?_
  rintro e w16 ⟨rfl, r16, hd16, hk16, -⟩
  have e16 : Pd.sync ⟨3, [97, 98], 2, false, 0, true⟩ = (⟨3, [97, 98], 2, false, 0, true⟩, 15) := rfl
  rw [e16] at hd16 ⊢
  have hb16 := hb15.trans (hd15.low hk16)
  clear hk16 hd15 hb15 e16
  go_wp2_with fail
  refine (crash_any (-3) (by omega) (by omega) hd16).mono ?_
  rintro e w17 ⟨rfl, r17, hd17, hk17, -⟩
  have e17 : Pd.crash ⟨3, [97, 98], 2, false, 0, true⟩ (-3) = ⟨3, [97, 98], 2, false, 0, false⟩ := rfl
  rw [e17] at hd17
  have hb17 := hb16.trans (hd16.low hk17)
  clear hk17 hd16 hb16 e17
  go_wp2_with fail
  refine (arm_any (-7) (by omega) hd17).mono ?_
  rintro e w18 ⟨rfl, r18, hd18, hk18, -⟩
  have e18 : Pd.arm ⟨3, [97, 98], 2, false, 0, false⟩ (-7) = ⟨3, [97, 98], 2, true, 0, false⟩ := rfl
  rw [e18] at hd18
  have hb18 := hb17.trans (hd17.low hk18)
  clear hk18 hd17 hb17 e18
  go_wp2_with fail
  refine (cut_any 9 (by omega) (by omega) hd18).mono ?_
  rintro e w19 ⟨rfl, r19, hd19, hk19, -⟩
  have e19 : Pd.cut ⟨3, [97, 98], 2, true, 0, false⟩ 9 = (⟨3, [97, 98], 2, true, 0, false⟩, 2) := rfl
  rw [e19] at hd19 ⊢
  have hb19 := hb18.trans (hd18.low hk19)
  clear hk19 hd18 hb18 e19
  go_wp2_with fail
  refine (cut_any 0 (by omega) (by omega) hd19).mono ?_
  rintro e w20 ⟨rfl, r20, hd20, hk20, -⟩
  have e20 : Pd.cut ⟨3, [97, 98], 2, true, 0, false⟩ 0 = (⟨3, [97, 98], 2, false, 0, true⟩, 15) := rfl
  rw [e20] at hd20 ⊢
  have hb20 := hb19.trans (hd19.low hk20)
  clear hk20 hd19 hb19 e20
  go_wp2_with fail
  refine (crash_any 9 (by omega) (by omega) hd20).mono ?_
  rintro e w21 ⟨rfl, r21, hd21, hk21, -⟩
  have e21 : Pd.crash ⟨3, [97, 98], 2, false, 0, true⟩ 9 = ⟨3, [97, 98], 2, false, 0, false⟩ := rfl
  rw [e21] at hd21
  have hb21 := hb20.trans (hd20.low hk21)
  clear hk21 hd20 hb20 e21
  go_wp2_with fail
  refine (reads_any ⟨#[97, 98]⟩ rfl rfl hd21).mono ?_
  rintro e w22 ⟨rfl, hq22⟩
  have hd22 := hd21.below hq22
  have hb22 := nxt hb21 hq22
  clear hq22 hd21 hb21
  go_wp2_with fail
  refine (arm_any 2 (by omega) hd22).mono ?_
  rintro e w23 ⟨rfl, r23, hd23, hk23, -⟩
  have e23 : Pd.arm ⟨3, [97, 98], 2, false, 0, false⟩ 2 = ⟨3, [97, 98], 2, true, 2, false⟩ := rfl
  rw [e23] at hd23
  have hb23 := hb22.trans (hd22.low hk23)
  clear hk23 hd22 hb22 e23
  go_wp2_with fail
  refine (sync_any hd23).mono ?_
  rintro e w24 ⟨rfl, r24, hd24, hk24, -⟩
  have e24 : Pd.sync ⟨3, [97, 98], 2, true, 2, false⟩ = (⟨3, [97, 98], 2, true, 1, false⟩, 0) := rfl
  rw [e24] at hd24 ⊢
  have hb24 := hb23.trans (hd23.low hk24)
  clear hk24 hd23 hb23 e24
  go_wp2_with fail
  refine (sync_any hd24).mono ?_
  rintro e w25 ⟨rfl, r25, hd25, hk25, -⟩
  have e25 : Pd.sync ⟨3, [97, 98], 2, true, 1, false⟩ = (⟨3, [97, 98], 2, true, 0, false⟩, 0) := rfl
  rw [e25] at hd25 ⊢
  have hb25 := hb24.trans (hd24.low hk25)
  clear hk25 hd24 hb24 e25
  go_wp2_with fail
  refine (sync_any hd25).mono ?_
  rintro e w26 ⟨rfl, r26, hd26, hk26, -⟩
  have e26 : Pd.sync ⟨3, [97, 98], 2, true, 0, false⟩ = (⟨3, [97, 98], 2, false, 0, true⟩, 15) := rfl
  rw [e26] at hd26 ⊢
  have hb26 := hb25.trans (hd25.low hk26)
  clear hk26 hd25 hb25 e26
  go_wp2_with fail
  refine (awake_any _).mono ?_
  rintro e wz ⟨rfl, hbz⟩
  go_wp2_with fail
  go_ret
  exact ⟨rfl, nxt hb26 hbz⟩

set_option maxRecDepth 100000 in
theorem lifted (os : Os) (started : os.Started) (H : Type) (enc : TypeId × Value → H) :
    ReturnsInHanded {} Try.checked os 3 .any (Rows.diskNumbersSpec.pre6 enc Try.prog Try.f3 Rows.diskNumbersRow.domain false) (Rows.diskNumbersSpec.post enc Try.prog Try.f3 false true false false) := by
  refine returnsInHanded_of_change (C := Try.checked) knob_own started (by kernel_rfl) Try.func3
    (ChangeSpec.witness6 (enc := enc) (C := Try.checked) false ⟨#[], #[], []⟩ 8 (by kernel_rfl) (by kernel_rfl) (by kernel_rfl) (by kernel_rfl)) ?_
  intro W base args ds gs before hval0 hW hcnd _
  have hval : ∀ (j : Nat) t v, Try.f3.params[j]? = some t → args[j]? = some v → Value.okWide Try.prog W .any base t v := hval0
  have hW' := hW
  obtain ⟨p, q, hA0, hV, rfl, hfz, hnd⟩ := hW
  have hA : DataW.TrodAll enc Try.prog W 0 (fun _ => true) true Try.f3.params.toList args.toList ds p := hA0
  rw [Try.params3] at hA hval
  obtain ⟨rfl, rfl, rfl⟩ := trodAll_none hA
  obtain ⟨rfl, rfl⟩ := trodVars_none hV

  clear hA0 hval0
  refine (walk W  ).mono fun e W' ⟨he, bel⟩ => ?_
  subst he
  exact ⟨_, rfl, _, _, _, [], _, [], hW', trodAll_mk1 (shut_bool Try.underlying4 _), (trodAll_mk0), rfl, bel.frame _, fun h => by cases h⟩

theorem over : Rows.diskNumbersRow.holds Try.pinned (OpenSpec.ofChange Rows.diskNumbersSpec) :=
  OpenClaim.holds_of_wide 3 Try.f3 rfl rfl rfl rfl rfl rfl rfl ⟨rfl, rfl, rfl, rfl, rfl⟩ rfl rfl rfl rfl rfl (by kernel_rfl) Try.func3 (by kernel_rfl)
    (of_decide_eq_true (by kernel_rfl)) (by unfold Func.isWrapper; first | (rw [if_pos (by decide +kernel)]; kernel_rfl) | (rw [if_neg (by decide +kernel)]; exact ⟨rfl, rfl⟩))
    (fun os started H enc _ => lifted os started H enc)

theorem proved : Rows.DiskNumbersSaid := over
end Go.Proofs.Ytmjgoeigjjabmaa.diskNumbers
