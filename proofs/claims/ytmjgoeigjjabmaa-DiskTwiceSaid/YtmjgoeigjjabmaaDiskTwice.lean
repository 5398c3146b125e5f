/- droverlaw04.DiskTwice returns true whatever its arguments: behind a crash all is synced, and another crash changes nothing. For every input, without conditions. -/
import Derived.Test.YtmjgoeigjjabmaaRow
import Derived.Test.YtmjgoeigjjabmaaAwake04
import Derived.Test.YtmjgoeigjjabmaaPlayed
namespace Go.Proofs.Ytmjgoeigjjabmaa.diskTwice
open Go.ChangeShapes Go.WideShapes Go.ChangeAt Go.RowKit
set_option linter.unusedVariables false

theorem crash_syn (d : Pd) (h : d.Ok) (n : Int) : (d.crash n).syn = (d.crash n).bs.length := by
  have := (Pd.kept_le h n).2
  show d.kept n = (d.bs.take (d.kept n)).length
  simp
  omega
theorem crash_again (d : Pd) (h : d.Ok) (n m : Int) : (d.crash n).crash m = d.crash n := by
  have hs := crash_syn d h n
  have ha : (d.crash n).armed = false := rfl
  have hd : (d.crash n).down = false := rfl
  generalize d.crash n = x at *
  obtain ⟨a, b, c, f, g, i⟩ := x
  simp only at hs ha hd
  subst hs ha hd
  have e : (Pd.kept ⟨a, b, b.length, false, g, false⟩ m) = b.length := by simp [Pd.kept]
  unfold Pd.crash
  rw [e]
  simp

set_option maxRecDepth 100000 in
set_option maxHeartbeats 2000000 in
theorem walk (w : World) (a0 : Option Addr) (n0 c0 : Nat) (a1 : Int) (a2 : Int) (w0 : ∃ l, l.length = n0 ∧ n0 ≤ c0 ∧ c0 ≤ maxLen ∧ Ops w w.heap.size a0 l) (w1 : (Lit.int .i64 a1).wf = true) (w2 : (Lit.int .i64 a2).wf = true) :
    Calls Try.prog 7 #[.slice a0 n0 c0, .int .i64 a1, .int .i64 a2] w fun e w' => e = .returned (.bool true) ∧ Below w.heap.size w w' := by
  obtain ⟨l, hl, hc, hcm, hops⟩ := w0
  obtain ⟨h10, h11⟩ := wf_i64 w1
  obtain ⟨h20, h21⟩ := wf_i64 w2
  clear w1 w2
  go_enter Try.func7, Try.ntmps7
  go_wp2_with fail
  refine (played_any 1000 (by omega) w _ (Nat.le_refl _) a0 n0 c0 l hl hops).mono ?_
  rintro e w1 ⟨p, q, r, r', rfl, htw, hb1⟩
  generalize (Pd.new 1000).run (l.take 50) = d at *
  have hok := htw.one.ok
  have HA := Lib.hid (crash_syn d hok a1)
  have HC := Lib.hid (crash_again d hok a1 a2)
  have HD : Hid ((d.crash a1).down = false) := rfl
  clear hok hops
  go_wp2_with fail
  refine (crash_any a1 h10 h11 htw.one).mono ?_
  rintro e w2 ⟨rfl, ha2⟩
  obtain ⟨r2, htw2, hk2⟩ := htw.left ha2
  have hb2 := hb1.trans (htw.one.low hk2)
  clear ha2 hk2 htw hb1
  go_wp2_with fail
  refine (crash_any a1 h10 h11 htw2.two).mono ?_
  rintro e w3 ⟨rfl, ha3⟩
  obtain ⟨r3, htw3, hk3⟩ := htw2.symm.left ha3
  have hb3 := hb2.trans (htw2.two.low hk3)
  clear ha3 hk3 htw2 hb2
  go_wp2_with fail
  refine (crash_any a2 h20 h21 htw3.one).mono ?_
  rintro e w4 ⟨rfl, ha4⟩
  rw [HC.out] at ha4
  obtain ⟨r4, htw4, hk4⟩ := htw3.left ha4
  have hb4 := hb3.trans (htw3.one.low hk4)
  clear ha4 hk4 htw3 hb3
  go_wp2_with fail
  refine (read_any htw4.one).mono ?_
  rintro e w5 ⟨v5, rfl, -, -, hb5⟩
  have htw5 := htw4.below hb5
  have hb6 := nxt hb4 hb5
  clear hb4 hb5 htw4
  go_wp2_with fail
  refine (down_any htw5.two).mono ?_
  rintro e wx ⟨rfl, rfl⟩
  rw [HD.out]
  go_wp2_with fail
  refine (synced_any htw5.two).mono ?_
  rintro e wx ⟨rfl, rfl⟩
  go_wp2_with fail
  refine (size_any htw5.two).mono ?_
  rintro e wx ⟨rfl, rfl⟩
  rw [HA.out]
  go_wp2_with fail
  refine (alike_any htw5.two htw5.one rfl rfl rfl).mono ?_
  rintro e w6 ⟨rfl, hb7⟩
  have hb8 := nxt hb6 hb7
  go_wp2_with fail
  refine (awake_any _).mono ?_
  rintro e w7 ⟨rfl, hb9⟩
  go_wp2_with fail
  go_ret
  exact ⟨rfl, nxt hb8 hb9⟩

set_option maxRecDepth 100000 in
theorem lifted (os : Os) (started : os.Started) (H : Type) (enc : TypeId × Value → H) :
    ReturnsInHanded {} Try.checked os 7 .any (Rows.diskTwiceSpec.pre6 enc Try.prog Try.f7 Rows.diskTwiceRow.domain false) (Rows.diskTwiceSpec.post enc Try.prog Try.f7 false true false false) := by
  refine returnsInHanded_of_change (C := Try.checked) knob_own started (by kernel_rfl) Try.func7
    (ChangeSpec.witness6 (enc := enc) (C := Try.checked) false ⟨#[], #[.slice none 0 0, .int .i64 0, .int .i64 0], []⟩ 8 (by kernel_rfl) (by kernel_rfl) (by kernel_rfl) (by kernel_rfl)) ?_
  intro W base args ds gs before hval0 hW hcnd _
  have hval : ∀ (j : Nat) t v, Try.f7.params[j]? = some t → args[j]? = some v → Value.okWide Try.prog W .any base t v := hval0
  have hW' := hW
  obtain ⟨p, q, hA0, hV, rfl, hfz, hnd⟩ := hW
  have hA : DataW.TrodAll enc Try.prog W 0 (fun _ => true) true Try.f7.params.toList args.toList ds p := hA0
  rw [Try.params7] at hA hval
  obtain ⟨v0, vs0, d0, ds0, p0, q0, hargs, rfl, rfl, h0, r0⟩ := trodAll_cons hA
  obtain ⟨v1, vs1, d1, ds1, p1, q1, rfl, rfl, rfl, h1, r1⟩ := trodAll_cons r0
  obtain ⟨v2, vs2, d2, ds2, p2, q2, rfl, rfl, rfl, h2, r2⟩ := trodAll_cons r1
  obtain ⟨rfl, rfl, rfl⟩ := trodAll_nil r2
  obtain rfl : args = #[v0, v1, v2] := by cases args; simp_all
  obtain ⟨rfl, rfl⟩ := trodVars_none hV
  obtain ⟨a0, n0, c0, rfl⟩ := okWide_slice Try.underlying36 (hval 0 36 v0 rfl rfl)
  have k0 := h0
  have lt0 : ∀ x ∈ p0, x.block < W.heap.size := by obtain ⟨m, hm⟩ := k0; exact DataW.trod_lt m _ _ _ hm
  have w0 := ops_open h0
  have lt1 : ∀ x ∈ p1, x.block < W.heap.size := by obtain ⟨m, hm⟩ := h1; exact DataW.trod_lt m _ _ _ hm
  have k1 := h1
  obtain ⟨a1, rfl, _, _, w1⟩ := open_int Try.underlying3 (hval 1 3 v1 rfl rfl) h1
  have lt2 : ∀ x ∈ p2, x.block < W.heap.size := by obtain ⟨m, hm⟩ := h2; exact DataW.trod_lt m _ _ _ hm
  have k2 := h2
  obtain ⟨a2, rfl, _, _, w2⟩ := open_int Try.underlying3 (hval 2 3 v2 rfl rfl) h2
  clear hA0 hval0
  refine (walk W a0 n0 c0 a1 a2 w0 w1 w2).mono fun e W' ⟨he, bel⟩ => ?_
  subst he
  exact ⟨_, rfl, _, _, _, [], _, [], hW', trodAll_mk1 (shut_bool Try.underlying4 _), (trodAll_cons_mk (Below.trod laid_out (by kernel_rfl) (of_decide_eq_true (by kernel_rfl)) k0 bel lt0) (trodAll_cons_mk (Below.trod laid_out (by kernel_rfl) (of_decide_eq_true (by kernel_rfl)) k1 bel lt1) (trodAll_cons_mk (Below.trod laid_out (by kernel_rfl) (of_decide_eq_true (by kernel_rfl)) k2 bel lt2) (trodAll_mk0)))), rfl, bel.frame _, fun h => by cases h⟩

theorem over : Rows.diskTwiceRow.holds Try.pinned (OpenSpec.ofChange Rows.diskTwiceSpec) :=
  OpenClaim.holds_of_wide 7 Try.f7 rfl rfl rfl rfl rfl rfl rfl ⟨rfl, rfl, rfl, rfl, rfl⟩ rfl rfl rfl rfl rfl (by kernel_rfl) Try.func7 (by kernel_rfl)
    (of_decide_eq_true (by kernel_rfl)) (by unfold Func.isWrapper; first | (rw [if_pos (by decide +kernel)]; kernel_rfl) | (rw [if_neg (by decide +kernel)]; exact ⟨rfl, rfl⟩))
    (fun os started H enc _ => lifted os started H enc)

theorem proved : Rows.DiskTwiceSaid := over
end Go.Proofs.Ytmjgoeigjjabmaa.diskTwice
