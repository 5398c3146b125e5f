/- droverlaw08.awake: the walk. -/
import Derived.Test.YtndppffaijcjdaaDoorWj
import Derived.Test.YtndppffaijcjdaaDoorWk
namespace Go.Proofs.YtndppffaijcjdaaDoor
open Go.RowKit
set_option linter.unusedVariables false

theorem next_lit (T : List Nat) (h8 : ∀ x ∈ T, x < 256) (hn : T.length ≤ 140737488355328) (a : Int) (S : ByteArray) (hS : S = strOf T) (V : Value) (hV : nxtV T a = V) (w : World) (hw : Wt w) : Calls Tryd.prog 10 #[.string S, .int .i64 a] w fun e w' => e = .returned V ∧ Below w.heap.size w w' := by
  subst hS hV
  exact next_any T h8 hn a w hw
def wV (k : Int) (S : ByteArray) (n ln at_ e : Int) : Value := .agg #[.int .u8 k, .string S, .int .i64 n, .int .i64 ln, .int .i64 at_, .int .i64 e]
theorem nx1 : nxtV [108, 101, 116, 32, 120] 0 = .tuple #[.agg #[.int .u8 4, .string ⟨#[108, 101, 116]⟩, .int .i64 0, .int .i64 1, .int .i64 0, .int .i64 3], .agg #[.int .i64 0, .int .i64 0]] := by kernel_rfl
theorem nx2 : nxtV [97, 43, 43, 98] 1 = .tuple #[.agg #[.int .u8 5, .string ⟨#[43, 43]⟩, .int .i64 0, .int .i64 1, .int .i64 1, .int .i64 3], .agg #[.int .i64 0, .int .i64 0]] := by kernel_rfl
theorem nx3 : nxtV [49, 50] 1 = .tuple #[.agg #[.int .u8 1, .string ⟨#[]⟩, .int .i64 2, .int .i64 1, .int .i64 1, .int .i64 2], .agg #[.int .i64 0, .int .i64 0]] := by kernel_rfl
theorem nx4 : nxtV [57, 50, 50, 51, 51, 55, 50, 48, 51, 54, 56, 53, 52, 55, 55, 53, 56, 48, 56] 0 = .tuple #[.agg #[.int .u8 0, .string ⟨#[]⟩, .int .i64 0, .int .i64 0, .int .i64 0, .int .i64 0], .agg #[.int .i64 100, .int .i64 1]] := by kernel_rfl
theorem nx5 : nxtV [34, 97, 92, 120, 48, 48, 34] 0 = .tuple #[.agg #[.int .u8 2, .string ⟨#[97, 0]⟩, .int .i64 0, .int .i64 1, .int .i64 0, .int .i64 7], .agg #[.int .i64 0, .int .i64 0]] := by
  have h := tok_quo [97, 0] (by decide)
  have e : quoW [97, 0] = [34, 97, 92, 120, 48, 48, 34] := by decide
  rw [e] at h
  have ha : atW [34, 97, 92, 120, 48, 48, 34] (0 : Int).toNat = 0 := by decide
  have hl : lnW [34, 97, 92, 120, 48, 48, 34] (0 : Int).toNat = 1 := by decide
  unfold nxtV
  rw [if_neg (by decide), if_neg (by decide), ha, hl, List.drop_zero, h.1]
  rfl
set_option maxRecDepth 100000 in
set_option maxHeartbeats 4000000 in
theorem awake08_any (w : World) (hw : Wt w) : Calls Tryd.prog 14 #[] w fun e w' => e = .returned (.bool true) ∧ Below w.heap.size w w' := by
  have N1 := Lib.hid (fun w hw => next_lit [108, 101, 116, 32, 120] (by decide) (by decide) 0 ⟨#[108, 101, 116, 32, 120]⟩ rfl _ nx1 w hw)
  have N2 := Lib.hid (fun w hw => next_lit [97, 43, 43, 98] (by decide) (by decide) 1 ⟨#[97, 43, 43, 98]⟩ rfl _ nx2 w hw)
  have N3 := Lib.hid (fun w hw => next_lit [49, 50] (by decide) (by decide) 1 ⟨#[49, 50]⟩ rfl _ nx3 w hw)
  have N4 := Lib.hid (fun w hw => next_lit [57, 50, 50, 51, 51, 55, 50, 48, 51, 54, 56, 53, 52, 55, 55, 53, 56, 48, 56] (by decide) (by decide) 0 ⟨#[57, 50, 50, 51, 51, 55, 50, 48, 51, 54, 56, 53, 52, 55, 55, 53, 56, 48, 56]⟩ rfl _ nx4 w hw)
  have N5 := Lib.hid (fun w hw => next_lit [34, 97, 92, 120, 48, 48, 34] (by decide) (by decide) 0 ⟨#[34, 97, 92, 120, 48, 48, 34]⟩ rfl _ nx5 w hw)
  have NQ := Lib.hid (fun w => show Calls Tryd.prog 12 #[.string ⟨#[97, 255]⟩] w fun e w' => e = .returned (.string ⟨#[34, 97, 92, 120, 102, 102, 34]⟩) ∧ Below w.heap.size w w' from quote_any [97, 255] (by decide) (by decide) w)
  have HW0 := Lib.hid hw
  clear hw
  go_enter Tryd.func14, Tryd.ntmps14
  go_wp2_with fail
  refine (N1.out _ HW0.out).mono ?_
  rintro e w1 ⟨he, hb⟩
  subst he
  have HB1 := Lib.hid hb
  have HW1 := Lib.hid (HW0.out.below hb)
  obtain ⟨b1, hb1⟩ : ∃ b, b = w1.heap.size := ⟨_, rfl⟩
  clear hb
  have HX1 := Lib.hid (HB1.out.trans ((two w1 (.cells #[.int .u8 4, .string ⟨#[108, 101, 116]⟩, .int .i64 0, .int .i64 1, .int .i64 0, .int .i64 3] 24) (.cells #[.int .i64 0, .int .i64 0] 27)).mono HB1.out.size))
  have HY1 := Lib.hid (HW1.out.below (two w1 (.cells #[.int .u8 4, .string ⟨#[108, 101, 116]⟩, .int .i64 0, .int .i64 1, .int .i64 0, .int .i64 3] 24) (.cells #[.int .i64 0, .int .i64 0] 27)))
  have HP1 := Lib.hid (show ((w1.alloc (.cells #[.int .u8 4, .string ⟨#[108, 101, 116]⟩, .int .i64 0, .int .i64 1, .int .i64 0, .int .i64 3] 24)).alloc (.cells #[.int .i64 0, .int .i64 0] 27)).heap[w1.heap.size]? = some (.cells #[.int .u8 4, .string ⟨#[108, 101, 116]⟩, .int .i64 0, .int .i64 1, .int .i64 0, .int .i64 3] 24) from heap_old (heap_new _ _) _)
  have HF1 := Lib.hid (show ((w1.alloc (.cells #[.int .u8 4, .string ⟨#[108, 101, 116]⟩, .int .i64 0, .int .i64 1, .int .i64 0, .int .i64 3] 24)).alloc (.cells #[.int .i64 0, .int .i64 0] 27)).heap[w1.heap.size + 1]? = some (.cells #[.int .i64 0, .int .i64 0] 27) from heap_new' _ _ _ (by simp))
  go_wp2_with fail
  refine (N2.out _ HY1.out).mono ?_
  rintro e w2 ⟨he, hb⟩
  subst he
  have HB2 := Lib.hid (HX1.out.trans (hb.mono HX1.out.size))
  have HW2 := Lib.hid (HY1.out.below hb)
  have HP1 := Lib.hid (heap_below HP1.out hb)
  have HF1 := Lib.hid (heap_below HF1.out hb)
  clear hb
  have HX2 := Lib.hid (HB2.out.trans ((two w2 (.cells #[.int .u8 5, .string ⟨#[43, 43]⟩, .int .i64 0, .int .i64 1, .int .i64 1, .int .i64 3] 24) (.cells #[.int .i64 0, .int .i64 0] 27)).mono HB2.out.size))
  have HY2 := Lib.hid (HW2.out.below (two w2 (.cells #[.int .u8 5, .string ⟨#[43, 43]⟩, .int .i64 0, .int .i64 1, .int .i64 1, .int .i64 3] 24) (.cells #[.int .i64 0, .int .i64 0] 27)))
  have HP2 := Lib.hid (show ((w2.alloc (.cells #[.int .u8 5, .string ⟨#[43, 43]⟩, .int .i64 0, .int .i64 1, .int .i64 1, .int .i64 3] 24)).alloc (.cells #[.int .i64 0, .int .i64 0] 27)).heap[w2.heap.size]? = some (.cells #[.int .u8 5, .string ⟨#[43, 43]⟩, .int .i64 0, .int .i64 1, .int .i64 1, .int .i64 3] 24) from heap_old (heap_new _ _) _)
  have HF2 := Lib.hid (show ((w2.alloc (.cells #[.int .u8 5, .string ⟨#[43, 43]⟩, .int .i64 0, .int .i64 1, .int .i64 1, .int .i64 3] 24)).alloc (.cells #[.int .i64 0, .int .i64 0] 27)).heap[w2.heap.size + 1]? = some (.cells #[.int .i64 0, .int .i64 0] 27) from heap_new' _ _ _ (by simp))
  go_wp2_with fail
  refine (N3.out _ HY2.out).mono ?_
  rintro e w3 ⟨he, hb⟩
  subst he
  have HB3 := Lib.hid (HX2.out.trans (hb.mono HX2.out.size))
  have HW3 := Lib.hid (HY2.out.below hb)
  have HP2 := Lib.hid (heap_below HP2.out hb)
  have HF2 := Lib.hid (heap_below HF2.out hb)
  have HP1 := Lib.hid (heap_below (heap_old (heap_old HP1.out _) _) hb)
  have HF1 := Lib.hid (heap_below (heap_old (heap_old HF1.out _) _) hb)
  clear hb
  have HX3 := Lib.hid (HB3.out.trans ((two w3 (.cells #[.int .u8 1, .string ⟨#[]⟩, .int .i64 2, .int .i64 1, .int .i64 1, .int .i64 2] 24) (.cells #[.int .i64 0, .int .i64 0] 27)).mono HB3.out.size))
  have HY3 := Lib.hid (HW3.out.below (two w3 (.cells #[.int .u8 1, .string ⟨#[]⟩, .int .i64 2, .int .i64 1, .int .i64 1, .int .i64 2] 24) (.cells #[.int .i64 0, .int .i64 0] 27)))
  have HP3 := Lib.hid (show ((w3.alloc (.cells #[.int .u8 1, .string ⟨#[]⟩, .int .i64 2, .int .i64 1, .int .i64 1, .int .i64 2] 24)).alloc (.cells #[.int .i64 0, .int .i64 0] 27)).heap[w3.heap.size]? = some (.cells #[.int .u8 1, .string ⟨#[]⟩, .int .i64 2, .int .i64 1, .int .i64 1, .int .i64 2] 24) from heap_old (heap_new _ _) _)
  have HF3 := Lib.hid (show ((w3.alloc (.cells #[.int .u8 1, .string ⟨#[]⟩, .int .i64 2, .int .i64 1, .int .i64 1, .int .i64 2] 24)).alloc (.cells #[.int .i64 0, .int .i64 0] 27)).heap[w3.heap.size + 1]? = some (.cells #[.int .i64 0, .int .i64 0] 27) from heap_new' _ _ _ (by simp))
  go_wp2_with fail
  refine (N4.out _ HY3.out).mono ?_
  rintro e w4 ⟨he, hb⟩
  subst he
  have HB4 := Lib.hid (HX3.out.trans (hb.mono HX3.out.size))
  have HW4 := Lib.hid (HY3.out.below hb)
  have HP3 := Lib.hid (heap_below HP3.out hb)
  have HF3 := Lib.hid (heap_below HF3.out hb)
  have HP1 := Lib.hid (heap_below (heap_old (heap_old HP1.out _) _) hb)
  have HF1 := Lib.hid (heap_below (heap_old (heap_old HF1.out _) _) hb)
  have HP2 := Lib.hid (heap_below (heap_old (heap_old HP2.out _) _) hb)
  have HF2 := Lib.hid (heap_below (heap_old (heap_old HF2.out _) _) hb)
  clear hb
  have HX4 := Lib.hid (HB4.out.trans ((two w4 (.cells #[.int .u8 0, .string ⟨#[]⟩, .int .i64 0, .int .i64 0, .int .i64 0, .int .i64 0] 24) (.cells #[.int .i64 100, .int .i64 1] 27)).mono HB4.out.size))
  have HY4 := Lib.hid (HW4.out.below (two w4 (.cells #[.int .u8 0, .string ⟨#[]⟩, .int .i64 0, .int .i64 0, .int .i64 0, .int .i64 0] 24) (.cells #[.int .i64 100, .int .i64 1] 27)))
  have HP4 := Lib.hid (show ((w4.alloc (.cells #[.int .u8 0, .string ⟨#[]⟩, .int .i64 0, .int .i64 0, .int .i64 0, .int .i64 0] 24)).alloc (.cells #[.int .i64 100, .int .i64 1] 27)).heap[w4.heap.size]? = some (.cells #[.int .u8 0, .string ⟨#[]⟩, .int .i64 0, .int .i64 0, .int .i64 0, .int .i64 0] 24) from heap_old (heap_new _ _) _)
  have HF4 := Lib.hid (show ((w4.alloc (.cells #[.int .u8 0, .string ⟨#[]⟩, .int .i64 0, .int .i64 0, .int .i64 0, .int .i64 0] 24)).alloc (.cells #[.int .i64 100, .int .i64 1] 27)).heap[w4.heap.size + 1]? = some (.cells #[.int .i64 100, .int .i64 1] 27) from heap_new' _ _ _ (by simp))
  go_wp2_with fail
  refine (N5.out _ HY4.out).mono ?_
  rintro e w5 ⟨he, hb⟩
  subst he
  have HB5 := Lib.hid (HX4.out.trans (hb.mono HX4.out.size))
  have HW5 := Lib.hid (HY4.out.below hb)
  have HP4 := Lib.hid (heap_below HP4.out hb)
  have HF4 := Lib.hid (heap_below HF4.out hb)
  have HP1 := Lib.hid (heap_below (heap_old (heap_old HP1.out _) _) hb)
  have HF1 := Lib.hid (heap_below (heap_old (heap_old HF1.out _) _) hb)
  have HP2 := Lib.hid (heap_below (heap_old (heap_old HP2.out _) _) hb)
  have HF2 := Lib.hid (heap_below (heap_old (heap_old HF2.out _) _) hb)
  have HP3 := Lib.hid (heap_below (heap_old (heap_old HP3.out _) _) hb)
  have HF3 := Lib.hid (heap_below (heap_old (heap_old HF3.out _) _) hb)
  clear hb
  obtain ⟨c10, c11, c12, c13, c14, c15, -⟩ := box6 HP1.out
  obtain ⟨f10, f11, -⟩ := box2 HF1.out
  have l1 := lt_heap HP1.out
  have m1 := lt_heap HF1.out
  obtain ⟨c20, c21, c22, c23, c24, c25, -⟩ := box6 HP2.out
  obtain ⟨f20, f21, -⟩ := box2 HF2.out
  have l2 := lt_heap HP2.out
  have m2 := lt_heap HF2.out
  obtain ⟨c30, c31, c32, c33, c34, c35, -⟩ := box6 HP3.out
  obtain ⟨f30, f31, -⟩ := box2 HF3.out
  have l3 := lt_heap HP3.out
  have m3 := lt_heap HF3.out
  obtain ⟨c40, c41, c42, c43, c44, c45, -⟩ := box6 HP4.out
  obtain ⟨f40, f41, -⟩ := box2 HF4.out
  have l4 := lt_heap HP4.out
  have m4 := lt_heap HF4.out
  have HX5 := Lib.hid (HB5.out.trans ((two w5 (.cells #[.int .u8 2, .string ⟨#[97, 0]⟩, .int .i64 0, .int .i64 1, .int .i64 0, .int .i64 7] 24) (.cells #[.int .i64 0, .int .i64 0] 27)).mono HB5.out.size))
  go_wp2_with fail
  refine (NQ.out _).mono ?_
  rintro e w6 ⟨he, hb⟩
  subst he
  have HB6 := Lib.hid (HX5.out.trans (hb.mono HX5.out.size))
  clear hb
  go_wp2_with fail
  go_ret
  exact ⟨rfl, HB6.out⟩
end Go.Proofs.YtndppffaijcjdaaDoor
