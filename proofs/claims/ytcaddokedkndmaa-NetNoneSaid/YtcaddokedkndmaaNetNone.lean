/- droverlaw06.NetNone returns true whatever its arguments: a net that New did not make answers nothing and ErrNil. For every input, without conditions. -/
import Derived.Test.YtcaddokedkndmaaRow
import Derived.Test.YtcaddokedkndmaaNf
import Derived.Test.YtcaddokedkndmaaNg
namespace Go.Proofs.Ytcaddokedkndmaa.netNone
open Go.ChangeShapes Go.WideShapes Go.ChangeAt Go.RowKit
set_option linter.unusedVariables false



set_option maxRecDepth 100000 in
set_option maxHeartbeats 4000000 in
theorem walk (w : World) (a0 : Int) (a1 : Option Addr) (n1 c1 : Nat) (w0 : (Lit.int .i64 a0).wf = true) (w1 : ∃ l : List Nat, l.length = n1 ∧ n1 ≤ c1 ∧ At w w.heap.size a1 (bv l) ∧ (∀ x ∈ l, x < 256)) :
    Calls Try.prog 5 #[.int .i64 a0, .slice a1 n1 c1] w fun e w' => e = .returned (.bool true) ∧ Below w.heap.size w w' := by
  obtain ⟨l, hl, hc, hat, h8⟩ := w1
  have hW := two w (.cells #[.pointer none, .int .i64 0, .slice none 0 0] 54) (.cells #[.pointer none, .pointer (some ⟨w.heap.size, 0, none⟩)] 22)
  have hz := heap_old (heap_new w (.cells #[.pointer none, .int .i64 0, .slice none 0 0] 54)) (.cells #[.pointer none, .pointer (some ⟨w.heap.size, 0, none⟩)] 22)
  have hr := heap_new' (w.alloc (.cells #[.pointer none, .int .i64 0, .slice none 0 0] 54)) (.cells #[.pointer none, .pointer (some ⟨w.heap.size, 0, none⟩)] 22) (w.heap.size + 1) (by simp)
  clear hat hc
  go_enter Try.func5, Try.ntmps5
  go_wp2_with fail
  obtain ⟨W, hWW⟩ : ∃ W, W = (w.alloc (.cells #[.pointer none, .int .i64 0, .slice none 0 0] 54)).alloc (.cells #[.pointer none, .pointer (some ⟨w.heap.size, 0, none⟩)] 22) := ⟨_, rfl⟩
  rw [← hWW] at hW hz hr ⊢
  clear hWW
  have hp : ∀ w' : World, Below W.heap.size W w' → ∀ j : Nat, j < 2 → ∃ aj, w'.cell? ⟨w.heap.size + 1, j, none⟩ = some (.pointer aj) ∧ NoNt w' aj := by
    intro w' hb j hj
    have h1 := heap_below hr hb
    rcases (show j = 0 ∨ j = 1 by omega) with rfl | rfl
    · exact ⟨_, cell_block h1 0, .inl rfl⟩
    · exact ⟨_, cell_block h1 1, .inr ⟨_, rfl, heap_below hz hb⟩⟩
  have HP := Lib.hid hp
  clear hp hz hr
  go_loopw [17] (fun i wr => ∃ j : Nat, j ≤ 2 ∧ i = .int .i64 (j : Int) ∧ Below W.heap.size W wr) (fun i _ => 2 - (intOf i).toNat)
  case atStart => exact ⟨0, by omega, rfl, Below.refl _ _⟩
  case round =>
    obtain ⟨j, hj, rfl, hbr⟩ := hrel
    by_cases hlt : j < 2
    · obtain ⟨aj, hcell, hno⟩ := HP.out wr hbr j hlt
      go_wp2_with fail
      refine (look_no hno _).mono ?_
      rintro e w1 ⟨rfl, hb1⟩
      have hn1 := hno.below hb1
      have hbr1 := nxt hbr hb1
      clear hno hcell hb1 hbr
      have ho1 := (Below.refl w1.heap.size w1).alloc (Nat.le_refl _) (.cells #[.int .i64 0, .int .i64 0, .slice none 0 0] 29)
      have hq1 := heap_new w1 (.cells #[.int .i64 0, .int .i64 0, .slice none 0 0] 29)
      have hn2 := hn1.below ho1
      have hbr2 := nxt hbr1 ho1
      obtain ⟨B1, hB1⟩ : ∃ B, B = w1.heap.size := ⟨_, rfl⟩
      obtain ⟨W1, hW1⟩ : ∃ X, X = w1.alloc (.cells #[.int .i64 0, .int .i64 0, .slice none 0 0] 29) := ⟨_, rfl⟩
      go_wp2_with fail
      rw [← hW1] at hn2 hbr2 hq1 ⊢
      rw [← hB1] at hq1 ⊢
      clear hW1 hB1 ho1 hn1 hbr1
      refine (take_no hn2 _).mono ?_
      rintro e w2 ⟨rfl, hb2⟩
      have hn3 := hn2.below hb2
      have hbr3 := nxt hbr2 hb2
      have hq3 := heap_below hq1 hb2
      clear hn2 hbr2 hb2 hq1
      have ho2 := (Below.refl w2.heap.size w2).alloc (Nat.le_refl _) (.cells #[.int .i64 0, .int .i64 0, .slice none 0 0] 29)
      have hq2 := heap_new w2 (.cells #[.int .i64 0, .int .i64 0, .slice none 0 0] 29)
      have hn4 := hn3.below ho2
      have hbr4 := nxt hbr3 ho2
      have hq4 := heap_below hq3 ho2
      clear hn3 hbr3 hq3
      obtain ⟨B2, hB2⟩ : ∃ B, B = w2.heap.size := ⟨_, rfl⟩
      obtain ⟨W2, hW2⟩ : ∃ X, X = w2.alloc (.cells #[.int .i64 0, .int .i64 0, .slice none 0 0] 29) := ⟨_, rfl⟩
      obtain ⟨⟨c0, c1, c2⟩, -⟩ := box3 hq4
      go_wp2_with fail
      rw [← hW2] at hn4 hbr4 hq2 hq4 ⊢
      rw [← hB2] at hq2 ⊢
      clear c0 c1 c2 hW2 hB2 ho2
      refine (samegr_any _ _ gz (.zero _) (.zero _)).mono ?_
      rintro e w3 ⟨rfl, hb3⟩
      have hn5 := hn4.below hb3
      have hbr5 := nxt hbr4 hb3
      have hq5 := heap_below hq2 hb3
      clear hn4 hbr4 hq2 hq4 hb3
      obtain ⟨⟨c0, c1, c2⟩, -⟩ := box3 hq5
      go_wp2_with fail
      refine (samegr_any _ _ gz (.zero _) (.zero _)).mono ?_
      rintro e w4 ⟨rfl, hb4⟩
      have hn6 := hn5.below hb4
      have hbr6 := nxt hbr5 hb4
      clear hn5 hbr5 hq5 hb4 c0 c1 c2
      go_wp2_with fail
      refine (send_no hn6 0 0 _).mono ?_
      rintro e wx ⟨rfl, rfl⟩
      go_wp2_with fail
      refine (copy_no hn6 _).mono ?_
      rintro e wx ⟨rfl, rfl⟩
      go_wp2_with fail
      refine (drop_no hn6 _).mono ?_
      rintro e wx ⟨rfl, rfl⟩
      go_wp2_with fail
      refine (forget_no hn6 _).mono ?_
      rintro e w5 ⟨rfl, hb5⟩
      have hn7 := hn6.below hb5
      have hbr7 := nxt hbr6 hb5
      clear hn6 hbr6 hb5
      go_wp2_with fail
      refine (flying_no hn7).mono ?_
      rintro e wx ⟨rfl, rfl⟩
      go_wp2_with fail
      go_roundw
      case rel => exact ⟨j + 1, by omega, by go_num, hbr7⟩
      case measure => simp [intOf]; omega
    · obtain rfl : j = 2 := by omega
      go_wp2_with fail
      refine (awake06_any _).mono ?_
      rintro e w5 ⟨rfl, hb5⟩
      go_wp2_with fail
      go_ret
      exact ⟨rfl, nxt hW (nxt hbr hb5 |>.trans (Below.refl _ _))⟩

set_option maxRecDepth 100000 in
theorem lifted (os : Os) (started : os.Started) (H : Type) (enc : TypeId × Value → H) :
    ReturnsInHanded {} Try.checked os 5 .any (Rows.netNoneSpec.pre6 enc Try.prog Try.f5 Rows.netNoneRow.domain false) (Rows.netNoneSpec.post enc Try.prog Try.f5 false true false false) := by
  refine returnsInHanded_of_change (C := Try.checked) knob_own started (by kernel_rfl) Try.func5
    (ChangeSpec.witness6 (enc := enc) (C := Try.checked) false ⟨#[], #[.int .i64 0, .slice none 0 0], []⟩ 8 (by kernel_rfl) (by kernel_rfl) (by kernel_rfl) (by kernel_rfl)) ?_
  intro W base args ds gs before hval0 hW hcnd _
  have hval : ∀ (j : Nat) t v, Try.f5.params[j]? = some t → args[j]? = some v → Value.okWide Try.prog W .any base t v := hval0
  have hW' := hW
  obtain ⟨p, q, hA0, hV, rfl, hfz, hnd⟩ := hW
  have hA : DataW.TrodAll enc Try.prog W 0 (fun _ => true) true Try.f5.params.toList args.toList ds p := hA0
  rw [Try.params5] at hA hval
  obtain ⟨v0, vs0, d0, ds0, p0, q0, hargs, rfl, rfl, h0, r0⟩ := trodAll_cons hA
  obtain ⟨v1, vs1, d1, ds1, p1, q1, rfl, rfl, rfl, h1, r1⟩ := trodAll_cons r0
  obtain ⟨rfl, rfl, rfl⟩ := trodAll_nil r1
  obtain rfl : args = #[v0, v1] := by cases args; simp_all
  obtain ⟨rfl, rfl⟩ := trodVars_none hV
  have lt0 : ∀ x ∈ p0, x.block < W.heap.size := by obtain ⟨m, hm⟩ := h0; exact DataW.trod_lt m _ _ _ hm
  have k0 := h0
  obtain ⟨a0, rfl, _, _, w0⟩ := open_int Try.underlying3 (hval 0 3 v0 rfl rfl) h0
  obtain ⟨a1, n1, c1, rfl⟩ := okWide_slice Try.underlying26 (hval 1 26 v1 rfl rfl)
  have k1 := h1
  have lt1 : ∀ x ∈ p1, x.block < W.heap.size := by obtain ⟨m, hm⟩ := k1; exact DataW.trod_lt m _ _ _ hm
  have z1 : ∃ zs, Ints .u8 W a1 n1 c1 zs := by
    obtain ⟨fuel, hf⟩ := h1
    rcases open_ints Try.underlying26 Try.underlying5 (by kernel_rfl) hf with ⟨hcs, _⟩ | ⟨x, l, c, zs, hcs, _, hl, hm, hz, _, hcell, hwz⟩
    · simp [Value.cells] at hcs
      obtain ⟨rfl, rfl, rfl⟩ := hcs
      exact ⟨[], ints_nil _ _⟩
    · simp [Value.cells] at hcs
      obtain ⟨rfl, rfl, rfl⟩ := hcs
      exact ⟨_, ints_some .u8 W x _ _ zs hl hm (by simpa using hz) hcell hwz⟩
  have w1 := z1.elim fun _ h => h.bytes
  clear hA0 hval0
  refine (walk W a0 a1 n1 c1 w0 w1).mono fun e W' ⟨he, bel⟩ => ?_
  subst he
  exact ⟨_, rfl, _, _, _, [], _, [], hW', trodAll_mk1 (shut_bool Try.underlying4 _), (trodAll_cons_mk (Below.trod laid_out (by kernel_rfl) (of_decide_eq_true (by kernel_rfl)) k0 bel lt0) (trodAll_cons_mk (Below.trod laid_out (by kernel_rfl) (of_decide_eq_true (by kernel_rfl)) k1 bel lt1) (trodAll_mk0))), rfl, bel.frame _, fun h => by cases h⟩

theorem over : Rows.netNoneRow.holds Try.pinned (OpenSpec.ofChange Rows.netNoneSpec) :=
  OpenClaim.holds_of_wide 5 Try.f5 rfl rfl rfl rfl rfl rfl rfl ⟨rfl, rfl, rfl, rfl, rfl⟩ rfl rfl rfl rfl rfl (by kernel_rfl) Try.func5 (by kernel_rfl)
    (of_decide_eq_true (by kernel_rfl)) (by unfold Func.isWrapper; first | (rw [if_pos (by decide +kernel)]; kernel_rfl) | (rw [if_neg (by decide +kernel)]; exact ⟨rfl, rfl⟩))
    (fun os started H enc _ => lifted os started H enc)

theorem proved : Rows.NetNoneSaid := over
end Go.Proofs.Ytcaddokedkndmaa.netNone
