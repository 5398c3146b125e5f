/- droverlaw04.DiskMore returns true whatever its arguments: a crash that keeps more leaves a longer begin, or as much. For every input, without conditions. -/
import Derived.Test.YtmjgoeigjjabmaaRow
import Derived.Test.YtmjgoeigjjabmaaAwake04
import Derived.Test.YtmjgoeigjjabmaaPlayed
namespace Go.Proofs.Ytmjgoeigjjabmaa.diskMore
open Go.ChangeShapes Go.WideShapes Go.ChangeAt Go.RowKit
set_option linter.unusedVariables false

theorem more_kept (d : Pd) (h : d.Ok) (k : Int) (m : Nat) : (d.crash k).bs.length ≤ (d.crash (k + m)).bs.length ∧ (d.crash (k + m)).bs.take (d.crash k).bs.length = (d.crash k).bs := by
  have h1 := (Pd.kept_le h k).2
  have h2 := (Pd.kept_le h (k + m)).2
  have h3 : d.kept k ≤ d.kept (k + m) := by unfold Pd.kept; omega
  show (d.bs.take (d.kept k)).length ≤ (d.bs.take (d.kept (k + m))).length ∧ (d.bs.take (d.kept (k + m))).take (d.bs.take (d.kept k)).length = d.bs.take (d.kept k)
  have e1 : (d.bs.take (d.kept k)).length = d.kept k := by simp; omega
  have e2 : (d.bs.take (d.kept (k + m))).length = d.kept (k + m) := by simp; omega
  rw [e1, e2]
  refine ⟨h3, ?_⟩
  rw [List.take_take]
  congr 1
  omega

set_option maxRecDepth 100000 in
set_option maxHeartbeats 2000000 in
theorem walk (w : World) (a0 : Option Addr) (n0 c0 : Nat) (a1 : Int) (a2 : Int) (w0 : ∃ l, l.length = n0 ∧ n0 ≤ c0 ∧ c0 ≤ maxLen ∧ Ops w w.heap.size a0 l) (w1 : (Lit.int .i64 a1).wf = true) (w2 : (Lit.int .u8 a2).wf = true) :
    Calls Try.prog 8 #[.slice a0 n0 c0, .int .i64 a1, .int .u8 a2] w fun e w' => e = .returned (.bool true) ∧ Below w.heap.size w w' := by
  obtain ⟨l, hl, hc, hcm, hops⟩ := w0
  obtain ⟨h10, h11⟩ := wf_i64 w1
  obtain ⟨m, rfl, hm⟩ := wf_u8 w2
  clear w1 w2
  by_cases hbig : 1099511627776 < a1
  · have t0 : decide ((1099511627776 : Int) < a1) = true := decide_eq_true hbig
    go_enter Try.func8, Try.ntmps8
    go_wp2_with fail
    refine (awake_any _).mono ?_
    rintro e w7 ⟨rfl, hb9⟩
    go_wp2_with fail
    go_ret
    exact ⟨rfl, hb9⟩
  · have t0 : decide ((1099511627776 : Int) < a1) = false := decide_eq_false hbig
    have hle : a1 ≤ 1099511627776 := by omega
    have s1 : IntKind.i64.wrap (a1 + (m : Int)) = a1 + (m : Int) := by rw [IntKind.wrap_i64]; omega
    have s0 : IntKind.i64.wrap (m : Int) = (m : Int) := by rw [IntKind.wrap_i64]; omega
    go_enter Try.func8, Try.ntmps8
    go_wp2_with fail
    refine (played_any 1000 (by omega) w _ (Nat.le_refl _) a0 n0 c0 l hl hops).mono ?_
    rintro e w1 ⟨p, q, r, r', rfl, htw, hb1⟩
    generalize (Pd.new 1000).run (l.take 50) = d at *
    have HK := Lib.hid (more_kept d htw.one.ok a1 m)
    have HR1 : Hid ((d.crash a1).read = ((d.crash a1).bs, 0)) := rfl
    have HR2 : Hid ((d.crash (a1 + m)).read = ((d.crash (a1 + m)).bs, 0)) := rfl
    clear hops hbig
    go_wp2_with fail
    refine (crash_any a1 h10 h11 htw.one).mono ?_
    rintro e w2 ⟨rfl, ha2⟩
    obtain ⟨r2, htw2, hk2⟩ := htw.left ha2
    have hb2 := hb1.trans (htw.one.low hk2)
    clear ha2 hk2 htw hb1
    go_wp2_with fail
    refine (crash_any (a1 + m) (by omega) (by omega) htw2.two).mono ?_
    rintro e w3 ⟨rfl, ha3⟩
    obtain ⟨r3, htw3, hk3⟩ := htw2.symm.left ha3
    have hb3 := hb2.trans (htw2.two.low hk3)
    clear ha3 hk3 htw2 hb2
    generalize d.crash a1 = x at *
    generalize d.crash (a1 + m) = y at *
    go_wp2_with fail
    refine (read_any htw3.two).mono ?_
    rintro e w4 ⟨v4, rfl, -, hv4, hb4⟩
    rw [HR1.out] at hv4 ⊢
    obtain ⟨⟨A4, c4, rfl, hc4, -⟩, -⟩ := id hv4
    have htw4 := htw3.below hb4
    have hb5 := nxt hb3 hb4
    clear htw3 hb3
    go_wp2_with fail
    refine (read_any htw4.one).mono ?_
    rintro e w5 ⟨v5, rfl, -, hv5, hb6⟩
    rw [HR2.out] at hv5 ⊢
    obtain ⟨⟨A5, c5, rfl, hc5, -⟩, -⟩ := id hv5
    have hb7 := nxt hb5 hb6
    have hv4' := hv4.below hb6
    have hpre := hv5.pre _ HK.out.1
    rw [HK.out.2] at hpre
    have t1 : decide ((x.bs.length : Int) ≤ (y.bs.length : Int)) = true := decide_eq_true (by have := HK.out.1; omega)
    have t2 := HK.out.1
    clear hb4 hb5 hb6 htw4 hv4
    go_wp2_with fail
    refine (same_bs _ _ _ _ true _ hv4' hpre (by simp)).mono ?_
    rintro e wx ⟨rfl, rfl⟩
    go_wp2_with fail
    refine (awake_any _).mono ?_
    rintro e w7 ⟨rfl, hb9⟩
    go_wp2_with fail
    go_ret
    exact ⟨rfl, nxt hb7 hb9⟩

set_option maxRecDepth 100000 in
theorem lifted (os : Os) (started : os.Started) (H : Type) (enc : TypeId × Value → H) :
    ReturnsInHanded {} Try.checked os 8 .any (Rows.diskMoreSpec.pre6 enc Try.prog Try.f8 Rows.diskMoreRow.domain false) (Rows.diskMoreSpec.post enc Try.prog Try.f8 false true false false) := by
  refine returnsInHanded_of_change (C := Try.checked) knob_own started (by kernel_rfl) Try.func8
    (ChangeSpec.witness6 (enc := enc) (C := Try.checked) false ⟨#[], #[.slice none 0 0, .int .i64 0, .int .u8 0], []⟩ 8 (by kernel_rfl) (by kernel_rfl) (by kernel_rfl) (by kernel_rfl)) ?_
  intro W base args ds gs before hval0 hW hcnd _
  have hval : ∀ (j : Nat) t v, Try.f8.params[j]? = some t → args[j]? = some v → Value.okWide Try.prog W .any base t v := hval0
  have hW' := hW
  obtain ⟨p, q, hA0, hV, rfl, hfz, hnd⟩ := hW
  have hA : DataW.TrodAll enc Try.prog W 0 (fun _ => true) true Try.f8.params.toList args.toList ds p := hA0
  rw [Try.params8] at hA hval
  obtain ⟨v0, vs0, d0, ds0, p0, q0, hargs, rfl, rfl, h0, r0⟩ := trodAll_cons hA
  obtain ⟨v1, vs1, d1, ds1, p1, q1, rfl, rfl, rfl, h1, r1⟩ := trodAll_cons r0
  obtain ⟨v2, vs2, d2, ds2, p2, q2, rfl, rfl, rfl, h2, r2⟩ := trodAll_cons r1
  obtain ⟨rfl, rfl, rfl⟩ := trodAll_nil r2
  obtain rfl : args = #[v0, v1, v2] := by cases args; simp_all
  obtain ⟨rfl, rfl⟩ := trodVars_none hV
  obtain ⟨a0, n0, c0, rfl⟩ := okWide_slice Try.underlying36 (hval 0 36 v0 rfl rfl)
  have k0 := h0
  have lt0 : ∀ x ∈ p0, x.block < W.heap.size := by obtain ⟨m, hm⟩ := k0; exact DataW.trod_lt m _ _ _ hm
  have w0 := ops_open h0
  have lt1 : ∀ x ∈ p1, x.block < W.heap.size := by obtain ⟨m, hm⟩ := h1; exact DataW.trod_lt m _ _ _ hm
  have k1 := h1
  obtain ⟨a1, rfl, _, _, w1⟩ := open_int Try.underlying3 (hval 1 3 v1 rfl rfl) h1
  have lt2 : ∀ x ∈ p2, x.block < W.heap.size := by obtain ⟨m, hm⟩ := h2; exact DataW.trod_lt m _ _ _ hm
  have k2 := h2
  obtain ⟨a2, rfl, _, _, w2⟩ := open_int Try.underlying5 (hval 2 5 v2 rfl rfl) h2
  clear hA0 hval0
  refine (walk W a0 n0 c0 a1 a2 w0 w1 w2).mono fun e W' ⟨he, bel⟩ => ?_
  subst he
  exact ⟨_, rfl, _, _, _, [], _, [], hW', trodAll_mk1 (shut_bool Try.underlying4 _), (trodAll_cons_mk (Below.trod laid_out (by kernel_rfl) (of_decide_eq_true (by kernel_rfl)) k0 bel lt0) (trodAll_cons_mk (Below.trod laid_out (by kernel_rfl) (of_decide_eq_true (by kernel_rfl)) k1 bel lt1) (trodAll_cons_mk (Below.trod laid_out (by kernel_rfl) (of_decide_eq_true (by kernel_rfl)) k2 bel lt2) (trodAll_mk0)))), rfl, bel.frame _, fun h => by cases h⟩

theorem over : Rows.diskMoreRow.holds Try.pinned (OpenSpec.ofChange Rows.diskMoreSpec) :=
  OpenClaim.holds_of_wide 8 Try.f8 rfl rfl rfl rfl rfl rfl rfl ⟨rfl, rfl, rfl, rfl, rfl⟩ rfl rfl rfl rfl rfl (by kernel_rfl) Try.func8 (by kernel_rfl)
    (of_decide_eq_true (by kernel_rfl)) (by unfold Func.isWrapper; first | (rw [if_pos (by decide +kernel)]; kernel_rfl) | (rw [if_neg (by decide +kernel)]; exact ⟨rfl, rfl⟩))
    (fun os started H enc _ => lifted os started H enc)

theorem proved : Rows.DiskMoreSaid := over
end Go.Proofs.Ytmjgoeigjjabmaa.diskMore
