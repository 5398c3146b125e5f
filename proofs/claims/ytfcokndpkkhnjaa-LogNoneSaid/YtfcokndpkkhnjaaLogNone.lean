/- droverlaw05.LogNone returns true whatever its argument: a log that Open did not make answers nothing and ErrNil. For every input, without conditions. -/
import Derived.Test.YtfcokndpkkhnjaaRow
import Derived.Test.YtfcokndpkkhnjaaBrw
import Derived.Test.YtfcokndpkkhnjaaAwake05
import Derived.Test.YtfcokndpkkhnjaaLnone
namespace Go.Proofs.Ytfcokndpkkhnjaa.logNone
open Go.ChangeShapes Go.WideShapes Go.ChangeAt Go.RowKit
set_option linter.unusedVariables false



set_option maxRecDepth 100000 in
set_option maxHeartbeats 2000000 in
theorem walk (w : World) (a0 : Option Addr) (n0 c0 : Nat) (w0 : ∃ l : List Nat, l.length = n0 ∧ n0 ≤ c0 ∧ At w w.heap.size a0 (bv l) ∧ (∀ x ∈ l, x < 256)) :
    Calls Try.prog 5 #[.slice a0 n0 c0] w fun e w' => e = .returned (.bool true) ∧ Below w.heap.size w w' := by
  obtain ⟨l, hl, hc, hat, h8⟩ := w0
  have hW := two w (.cells #[.pointer none, .pointer none, .int .i64 0, .int .i64 0, .bool false] 55) (.cells #[.pointer none, .pointer (some ⟨w.heap.size, 0, none⟩)] 29)
  have hz := heap_old (heap_new w (.cells #[.pointer none, .pointer none, .int .i64 0, .int .i64 0, .bool false] 55)) (.cells #[.pointer none, .pointer (some ⟨w.heap.size, 0, none⟩)] 29)
  have hr := heap_new' (w.alloc (.cells #[.pointer none, .pointer none, .int .i64 0, .int .i64 0, .bool false] 55)) (.cells #[.pointer none, .pointer (some ⟨w.heap.size, 0, none⟩)] 29) (w.heap.size + 1) (by simp)
  go_enter Try.func5, Try.ntmps5
  go_wp2_with fail
  obtain ⟨W, hWW⟩ : ∃ W, W = (w.alloc (.cells #[.pointer none, .pointer none, .int .i64 0, .int .i64 0, .bool false] 55)).alloc (.cells #[.pointer none, .pointer (some ⟨w.heap.size, 0, none⟩)] 29) := ⟨_, rfl⟩
  rw [← hWW] at hW hz hr ⊢
  clear hWW
  have hp : ∀ w' : World, Below W.heap.size W w' → ∀ j : Nat, j < 2 → ∃ aj, w'.cell? ⟨w.heap.size + 1, j, none⟩ = some (.pointer aj) ∧ NoLg w' aj := by
    intro w' hb j hj
    have h1 := heap_below hr hb
    rcases (show j = 0 ∨ j = 1 by omega) with rfl | rfl
    · exact ⟨_, cell_block h1 0, .inl rfl⟩
    · exact ⟨_, cell_block h1 1, .inr ⟨_, rfl, heap_below hz hb⟩⟩
  have HP := Lib.hid hp
  clear hp hz hr hat
  go_loopw [14] (fun i wr => ∃ j : Nat, j ≤ 2 ∧ i = .int .i64 (j : Int) ∧ Below W.heap.size W wr) (fun i _ => 2 - (intOf i).toNat)
  case atStart => exact ⟨0, by omega, rfl, Below.refl _ _⟩
  case round =>
    obtain ⟨j, hj, rfl, hbr⟩ := hrel
    by_cases hlt : j < 2
    · obtain ⟨aj, hcell, hno⟩ := HP.out wr hbr j hlt
      go_wp2_with fail
      refine (ladd_no a0 n0 c0 hno).mono ?_
      rintro e w1 ⟨rfl, hb1⟩
      have hno1 := hno.below hb1
      have hbr1 := nxt hbr hb1
      clear hno hbr hb1 hcell
      go_wp2_with fail
      refine (llen_no hno1).mono ?_
      rintro e wx ⟨rfl, rfl⟩
      go_wp2_with fail
      refine (lbytes_no hno1).mono ?_
      rintro e wx ⟨rfl, rfl⟩
      go_wp2_with fail
      go_roundw
      case rel => exact ⟨j + 1, by omega, by go_num, hbr1⟩
      case measure => simp [intOf]; omega
    · obtain rfl : j = 2 := by omega
      go_wp2_with fail
      refine (lopen_no _).mono ?_
      rintro e wx ⟨rfl, rfl⟩
      go_wp2_with fail
      refine (awake05_any _).mono ?_
      rintro e w5 ⟨rfl, hb5⟩
      go_wp2_with fail
      go_ret
      exact ⟨rfl, nxt hW (nxt hbr hb5 |>.trans (Below.refl _ _))⟩

set_option maxRecDepth 100000 in
theorem lifted (os : Os) (started : os.Started) (H : Type) (enc : TypeId × Value → H) :
    ReturnsInHanded {} Try.checked os 5 .any (Rows.logNoneSpec.pre6 enc Try.prog Try.f5 Rows.logNoneRow.domain false) (Rows.logNoneSpec.post enc Try.prog Try.f5 false true false false) := by
  refine returnsInHanded_of_change (C := Try.checked) knob_own started (by kernel_rfl) Try.func5
    (ChangeSpec.witness6 (enc := enc) (C := Try.checked) false ⟨#[], #[.slice none 0 0], []⟩ 8 (by kernel_rfl) (by kernel_rfl) (by kernel_rfl) (by kernel_rfl)) ?_
  intro W base args ds gs before hval0 hW hcnd _
  have hval : ∀ (j : Nat) t v, Try.f5.params[j]? = some t → args[j]? = some v → Value.okWide Try.prog W .any base t v := hval0
  have hW' := hW
  obtain ⟨p, q, hA0, hV, rfl, hfz, hnd⟩ := hW
  have hA : DataW.TrodAll enc Try.prog W 0 (fun _ => true) true Try.f5.params.toList args.toList ds p := hA0
  rw [Try.params5] at hA hval
  obtain ⟨v0, vs0, d0, ds0, p0, q0, hargs, rfl, rfl, h0, r0⟩ := trodAll_cons hA
  obtain ⟨rfl, rfl, rfl⟩ := trodAll_nil r0
  obtain rfl : args = #[v0] := by cases args; simp_all
  obtain ⟨rfl, rfl⟩ := trodVars_none hV
  obtain ⟨a0, n0, c0, rfl⟩ := okWide_slice Try.underlying22 (hval 0 22 v0 rfl rfl)
  have k0 := h0
  have lt0 : ∀ x ∈ p0, x.block < W.heap.size := by obtain ⟨m, hm⟩ := k0; exact DataW.trod_lt m _ _ _ hm
  have z0 : ∃ zs, Ints .u8 W a0 n0 c0 zs := by
    obtain ⟨fuel, hf⟩ := h0
    rcases open_ints Try.underlying22 Try.underlying5 (by kernel_rfl) hf with ⟨hcs, _⟩ | ⟨x, l, c, zs, hcs, _, hl, hm, hz, _, hcell, hwz⟩
    · simp [Value.cells] at hcs
      obtain ⟨rfl, rfl, rfl⟩ := hcs
      exact ⟨[], ints_nil _ _⟩
    · simp [Value.cells] at hcs
      obtain ⟨rfl, rfl, rfl⟩ := hcs
      exact ⟨_, ints_some .u8 W x _ _ zs hl hm (by simpa using hz) hcell hwz⟩
  have w0 := z0.elim fun _ h => h.bytes
  clear hA0 hval0
  refine (walk W a0 n0 c0 w0).mono fun e W' ⟨he, bel⟩ => ?_
  subst he
  exact ⟨_, rfl, _, _, _, [], _, [], hW', trodAll_mk1 (shut_bool Try.underlying4 _), (trodAll_cons_mk (Below.trod laid_out (by kernel_rfl) (of_decide_eq_true (by kernel_rfl)) k0 bel lt0) (trodAll_mk0)), rfl, bel.frame _, fun h => by cases h⟩

theorem over : Rows.logNoneRow.holds Try.pinned (OpenSpec.ofChange Rows.logNoneSpec) :=
  OpenClaim.holds_of_wide 5 Try.f5 rfl rfl rfl rfl rfl rfl rfl ⟨rfl, rfl, rfl, rfl, rfl⟩ rfl rfl rfl rfl rfl (by kernel_rfl) Try.func5 (by kernel_rfl)
    (of_decide_eq_true (by kernel_rfl)) (by unfold Func.isWrapper; first | (rw [if_pos (by decide +kernel)]; kernel_rfl) | (rw [if_neg (by decide +kernel)]; exact ⟨rfl, rfl⟩))
    (fun os started H enc _ => lifted os started H enc)

theorem proved : Rows.LogNoneSaid := over
end Go.Proofs.Ytfcokndpkkhnjaa.logNone
