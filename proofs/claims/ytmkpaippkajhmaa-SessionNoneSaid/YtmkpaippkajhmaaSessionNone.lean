/- droverlaw07.SessionNone returns true whatever its arguments: a session that New did not make answers nothing and ErrNil. For every input, without conditions. -/
import Derived.Test.YtmkpaippkajhmaaRow
import Derived.Test.YtmkpaippkajhmaaBrw
import Derived.Test.YtmkpaippkajhmaaSm
import Derived.Test.YtmkpaippkajhmaaSn
namespace Go.Proofs.Ytmkpaippkajhmaa.sessionNone
open Go.ChangeShapes Go.WideShapes Go.ChangeAt Go.RowKit
set_option linter.unusedVariables false



set_option maxRecDepth 100000 in
set_option maxHeartbeats 4000000 in
theorem walk (w : World) (a0 : Int) (a1 : Option Addr) (n1 c1 : Nat) (w0 : (Lit.int .i64 a0).wf = true) (w1 : ∃ l : List Nat, l.length = n1 ∧ n1 ≤ c1 ∧ At w w.heap.size a1 (bv l) ∧ (∀ x ∈ l, x < 256)) :
    Calls Try.prog 4 #[.int .i64 a0, .slice a1 n1 c1] w fun e w' => e = .returned (.bool true) ∧ Below w.heap.size w w' := by
  obtain ⟨l, hl, hc, hat, h8⟩ := w1
  have hW := two w zeroS (.cells #[.pointer none, .pointer (some ⟨w.heap.size, 0, none⟩)] 29)
  have hz := heap_old (heap_new w zeroS) (.cells #[.pointer none, .pointer (some ⟨w.heap.size, 0, none⟩)] 29)
  have hr := heap_new' (w.alloc zeroS) (.cells #[.pointer none, .pointer (some ⟨w.heap.size, 0, none⟩)] 29) (w.heap.size + 1) (by simp)
  obtain ⟨W, hWW⟩ : ∃ W, W = (w.alloc zeroS).alloc (.cells #[.pointer none, .pointer (some ⟨w.heap.size, 0, none⟩)] 29) := ⟨_, rfl⟩
  rw [← hWW] at hW hz hr
  unfold zeroS at hWW
  clear hat hc
  go_enter Try.func4, Try.ntmps4
  go_wp2_with fail
  rw [← hWW]
  clear hWW
  have hp : ∀ w' : World, Below W.heap.size W w' → ∀ j : Nat, j < 2 → ∃ aj, w'.cell? ⟨w.heap.size + 1, j, none⟩ = some (.pointer aj) ∧ NoSe w' aj := by
    intro w' hb j hj
    have h1 := heap_below hr hb
    rcases (show j = 0 ∨ j = 1 by omega) with rfl | rfl
    · exact ⟨_, cell_block h1 0, .inl rfl⟩
    · exact ⟨_, cell_block h1 1, .inr ⟨_, rfl, heap_below hz hb⟩⟩
  have HP := Lib.hid hp
  clear hp hz hr
  go_loopw [18] (fun i wr => ∃ j : Nat, j ≤ 2 ∧ i = .int .i64 (j : Int) ∧ Below W.heap.size W wr) (fun i _ => 2 - (intOf i).toNat)
  case atStart => exact ⟨0, by omega, rfl, Below.refl _ _⟩
  case round =>
    obtain ⟨j, hj, rfl, hbr⟩ := hrel
    by_cases hlt : j < 2
    · obtain ⟨aj, hcell, hno⟩ := HP.out wr hbr j hlt
      go_wp2_with fail
      refine (ssend_no hno _).mono ?_
      rintro e w1 ⟨rfl, rfl⟩
      go_wp2_with fail
      refine (receive_no hno _).mono ?_
      rintro e w1 ⟨rfl, hb1⟩
      have hn1 := hno.below hb1
      have hbr1 := nxt hbr hb1
      clear hno hcell hb1 hbr
      have ho1 := (Below.refl w1.heap.size w1).alloc (Nat.le_refl _) (.cells #[.int .i64 0, .slice none 0 0] 27)
      have hn2 := hn1.below ho1
      have hbr2 := nxt hbr1 ho1
      go_wp2_with fail
      refine (sameitem_any 0 0 _ _ [] [] _ (Bs.nil _) (Bs.nil _) true (by simp)).mono ?_
      rintro e w2 ⟨rfl, hb2⟩
      have hn3 := hn2.below hb2
      have hbr3 := nxt hbr2 hb2
      clear hn1 hbr1 ho1 hn2 hbr2 hb2
      go_wp2_with fail
      refine (accept_no hn3 _).mono ?_
      rintro e wx ⟨rfl, rfl⟩
      go_wp2_with fail
      refine (done_no hn3 _).mono ?_
      rintro e wx ⟨rfl, rfl⟩
      go_wp2_with fail
      refine (packets_no hn3).mono ?_
      rintro e wx ⟨rfl, rfl⟩
      go_wp2_with fail
      refine (link_no hn3).mono ?_
      rintro e w4 ⟨rfl, hb4⟩
      have hn4 := hn3.below hb4
      have hbr4 := nxt hbr3 hb4
      clear hn3 hbr3 hb4
      go_wp2_with fail
      refine (samelink_any 0 0 none none 0 0 0 [] [] _ rfl (by omega) rfl (LAt.nil _ _) (LAt.nil _ _) (by simp) (by simp)).mono ?_
      rintro e w5 ⟨rfl, hb5⟩
      have hn5 := hn4.below hb5
      have hbr5 := nxt hbr4 hb5
      clear hn4 hbr4 hb5
      go_wp2_with fail
      refine (waiting_no hn5).mono ?_
      rintro e wx ⟨rfl, rfl⟩
      go_wp2_with fail
      refine (peerlife_no hn5).mono ?_
      rintro e wx ⟨rfl, rfl⟩
      go_wp2_with fail
      go_roundw
      case rel => exact ⟨j + 1, by omega, by go_num, hbr5⟩
      case measure => simp [intOf]; omega
    · obtain rfl : j = 2 := by omega
      go_wp2_with fail
      refine (awake07_any _).mono ?_
      rintro e w5 ⟨rfl, hb5⟩
      go_wp2_with fail
      go_ret
      exact ⟨rfl, nxt hW (nxt hbr hb5 |>.trans (Below.refl _ _))⟩

set_option maxRecDepth 100000 in
theorem lifted (os : Os) (started : os.Started) (H : Type) (enc : TypeId × Value → H) :
    ReturnsInHanded {} Try.checked os 4 .any (Rows.sessionNoneSpec.pre6 enc Try.prog Try.f4 Rows.sessionNoneRow.domain false) (Rows.sessionNoneSpec.post enc Try.prog Try.f4 false true false false) := by
  refine returnsInHanded_of_change (C := Try.checked) knob_own started (by kernel_rfl) Try.func4
    (ChangeSpec.witness6 (enc := enc) (C := Try.checked) false ⟨#[], #[.int .i64 0, .slice none 0 0], []⟩ 8 (by kernel_rfl) (by kernel_rfl) (by kernel_rfl) (by kernel_rfl)) ?_
  intro W base args ds gs before hval0 hW hcnd _
  have hval : ∀ (j : Nat) t v, Try.f4.params[j]? = some t → args[j]? = some v → Value.okWide Try.prog W .any base t v := hval0
  have hW' := hW
  obtain ⟨p, q, hA0, hV, rfl, hfz, hnd⟩ := hW
  have hA : DataW.TrodAll enc Try.prog W 0 (fun _ => true) true Try.f4.params.toList args.toList ds p := hA0
  rw [Try.params4] at hA hval
  obtain ⟨v0, vs0, d0, ds0, p0, q0, hargs, rfl, rfl, h0, r0⟩ := trodAll_cons hA
  obtain ⟨v1, vs1, d1, ds1, p1, q1, rfl, rfl, rfl, h1, r1⟩ := trodAll_cons r0
  obtain ⟨rfl, rfl, rfl⟩ := trodAll_nil r1
  obtain rfl : args = #[v0, v1] := by cases args; simp_all
  obtain ⟨rfl, rfl⟩ := trodVars_none hV
  have lt0 : ∀ x ∈ p0, x.block < W.heap.size := by obtain ⟨m, hm⟩ := h0; exact DataW.trod_lt m _ _ _ hm
  have k0 := h0
  obtain ⟨a0, rfl, _, _, w0⟩ := open_int Try.underlying3 (hval 0 3 v0 rfl rfl) h0
  obtain ⟨a1, n1, c1, rfl⟩ := okWide_slice Try.underlying25 (hval 1 25 v1 rfl rfl)
  have k1 := h1
  have lt1 : ∀ x ∈ p1, x.block < W.heap.size := by obtain ⟨m, hm⟩ := k1; exact DataW.trod_lt m _ _ _ hm
  have z1 : ∃ zs, Ints .u8 W a1 n1 c1 zs := by
    obtain ⟨fuel, hf⟩ := h1
    rcases open_ints Try.underlying25 Try.underlying5 (by kernel_rfl) hf with ⟨hcs, _⟩ | ⟨x, l, c, zs, hcs, _, hl, hm, hz, _, hcell, hwz⟩
    · simp [Value.cells] at hcs
      obtain ⟨rfl, rfl, rfl⟩ := hcs
      exact ⟨[], ints_nil _ _⟩
    · simp [Value.cells] at hcs
      obtain ⟨rfl, rfl, rfl⟩ := hcs
      exact ⟨_, ints_some .u8 W x _ _ zs hl hm (by simpa using hz) hcell hwz⟩
  have w1 := z1.elim fun _ h => h.bytes
  clear hA0 hval0
  refine (walk W a0 a1 n1 c1 w0 w1).mono fun e W' ⟨he, bel⟩ => ?_
  subst he
  exact ⟨_, rfl, _, _, _, [], _, [], hW', trodAll_mk1 (shut_bool Try.underlying4 _), (trodAll_cons_mk (Below.trod laid_out (by kernel_rfl) (of_decide_eq_true (by kernel_rfl)) k0 bel lt0) (trodAll_cons_mk (Below.trod laid_out (by kernel_rfl) (of_decide_eq_true (by kernel_rfl)) k1 bel lt1) (trodAll_mk0))), rfl, bel.frame _, fun h => by cases h⟩

theorem over : Rows.sessionNoneRow.holds Try.pinned (OpenSpec.ofChange Rows.sessionNoneSpec) :=
  OpenClaim.holds_of_wide 4 Try.f4 rfl rfl rfl rfl rfl rfl rfl ⟨rfl, rfl, rfl, rfl, rfl⟩ rfl rfl rfl rfl rfl (by kernel_rfl) Try.func4 (by kernel_rfl)
    (of_decide_eq_true (by kernel_rfl)) (by unfold Func.isWrapper; first | (rw [if_pos (by decide +kernel)]; kernel_rfl) | (rw [if_neg (by decide +kernel)]; exact ⟨rfl, rfl⟩))
    (fun os started H enc _ => lifted os started H enc)

theorem proved : Rows.SessionNoneSaid := over
end Go.Proofs.Ytmkpaippkajhmaa.sessionNone
