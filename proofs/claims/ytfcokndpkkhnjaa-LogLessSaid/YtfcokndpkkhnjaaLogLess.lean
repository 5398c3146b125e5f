/- droverlaw05.LogLess returns true whatever its arguments: the fewer bytes the disk has, the shorter the begin that is told. For every input, without conditions. -/
import Derived.Test.YtfcokndpkkhnjaaRow
import Derived.Test.YtfcokndpkkhnjaaBrw
import Derived.Test.YtfcokndpkkhnjaaAwake05
import Derived.Test.YtfcokndpkkhnjaaLn
import Derived.Lib.MinMax
namespace Go.Proofs.Ytfcokndpkkhnjaa.logLess
open Go.ChangeShapes Go.WideShapes Go.ChangeAt Go.RowKit
set_option linter.unusedVariables false



set_option maxRecDepth 100000 in
set_option maxHeartbeats 4000000 in
theorem walk (w : World) (a0 : Option Addr) (n0 c0 : Nat) (a1 : Int) (a2 : Int) (w0 : ∃ ll : List (List Nat), BRows w a0 n0 c0 ll) (w1 : (Lit.int .u16 a1).wf = true) (w2 : (Lit.int .u16 a2).wf = true) :
    Calls Try.prog 8 #[.slice a0 n0 c0, .int .u16 a1, .int .u16 a2] w fun e w' => e = .returned (.bool true) ∧ Below w.heap.size w w' := by
  obtain ⟨ll, hr⟩ := w0
  obtain ⟨o1, rfl, ho1⟩ := wf_u16 w1
  obtain ⟨o2, rfl, ho2⟩ := wf_u16 w2
  have hgood := ltake_good ll hr.byte
  have HB := Lib.hid (fun w' hb => built_any a0 n0 c0 ll w w' hr hb)
  generalize ltake ll = all at *
  obtain ⟨hgood, hal⟩ := hgood
  have hsm := lrecs_small all (fun x hx => (hgood x hx).2)
  have HCUT := Lib.hid (cut_dOf all)
  have HOP := Lib.hid (open_torn all (fun x hx => (hgood x hx).1))
  have HMO := Lib.hid (lcnt_mono all)
  have HLE := Lib.hid (lcnt_le all)
  clear hr hgood w1 w2
  go_enter Try.func8, Try.ntmps8
  go_wp2_with fail
  refine (HB.out w (Below.refl _ _)).mono ?_
  rintro e w1 ⟨p, q, r, A, c, vs, rfl, hp0, hq0, -, ⟨hg1, hrow1⟩, hb1⟩
  go_wp2_with fail
  refine (HB.out w1 hb1).mono ?_
  rintro e w2 ⟨p', q', r', A', c', vs', rfl, hp1, hq1, hr1, ⟨hg2, -⟩, hb2⟩
  have hA1 := hrow1.offd hg1.dk
  have hcA : all.length ≤ c := by
    obtain ⟨_, _, e, hc⟩ := hrow1.form
    injection e with _ _ e3
    omega
  have hT2 : Tw w2 w.heap.size p r (dOf all) p' r' (dOf all) := ⟨hg1.dk.below hb2, hg2.dk.mono hb1.size, by have := hg1.dk.lt; omega, fun g e e' => by have := (hg1.dk.row_lt e).2; have := hr1 g e'; omega⟩
  have hA2 := hA1.keep (fun z hz => hb2.cell hz.1) (fun _ h => h)
  have hrlt : ∀ g, r = some g → g < w1.heap.size := fun g e => (hg1.dk.row_lt e).2
  have hb12 := nxt hb1 hb2
  have hs12 := hb2.size
  have SZ : Hid (∀ n, Calls Try.prog 16 #[.pointer (some ⟨p, 0, none⟩)] (w2.drewN n) fun e w' => e = .returned (.int .i64 ((lrecs all).length : Int)) ∧ w' = w2.drewN n) :=
    fun n => (size_any (hT2.d1.drewN n)).mono fun e w' h => ⟨h.1, h.2.symm⟩
  have sN : IntKind.i64.wrap (((lrecs all).length : Int) + 1) = (((lrecs all).length + 1 : Nat) : Int) := by rw [IntKind.wrap_i64]; omega
  have so1 : IntKind.i64.wrap (o1 : Int) = (o1 : Int) := by rw [IntKind.wrap_i64]; omega
  have so2 : IntKind.i64.wrap (o2 : Int) = (o2 : Int) := by rw [IntKind.wrap_i64]; omega
  clear HB hg1 hg2 hrow1 hA1 hb2 hb1
  go_wp2_with fail
  go_quiet (first | (go_at_call 16; with_reducible exact Calls.quiet_of_same (SZ.out _)) | (fail))
  have hT3 := hT2.below (bel_drewN1 (Below.refl _ _) nq)
  have hA3 : BlkS (w2.drewN nq) (fun b => b < w1.heap.size ∧ b ≠ p ∧ r ≠ some b) A all := hA2
  have hb3 : Below w.heap.size w (w2.drewN nq) := bel_drewN1 hb12 nq
  have hs13 : w1.heap.size ≤ (w2.drewN nq).heap.size := hs12
  generalize hX3 : w2.drewN nq = w3 at *
  clear hX3 hT2 hA2 hb12 hs12 SZ sN so1 so2
  have hp1' : w1.heap.size ≤ p' := hp1
  obtain ⟨N, hN⟩ : ∃ N, N = (lrecs all).length := ⟨_, rfl⟩
  obtain ⟨k, hk⟩ : ∃ k : Nat, (o1 : Int) % (((lrecs all).length : Int) + 1) = (k : Int) := ⟨((o1 : Int) % (((lrecs all).length : Int) + 1)).toNat, by have := Int.emod_nonneg (o1 : Int) (show (((lrecs all).length : Int) + 1) ≠ 0 by omega); omega⟩
  obtain ⟨m, hm⟩ : ∃ m : Nat, (o2 : Int) % (((lrecs all).length : Int) + 1) = (m : Int) := ⟨((o2 : Int) % (((lrecs all).length : Int) + 1)).toNat, by have := Int.emod_nonneg (o2 : Int) (show (((lrecs all).length : Int) + 1) ≠ 0 by omega); omega⟩
  have hkN : k ≤ (lrecs all).length := by have := Int.emod_lt_of_pos (o1 : Int) (show (0 : Int) < ((lrecs all).length : Int) + 1 by omega); omega
  have hmN : m ≤ (lrecs all).length := by have := Int.emod_lt_of_pos (o2 : Int) (show (0 : Int) < ((lrecs all).length : Int) + 1 by omega); omega
  rw [hk, hm]
  clear hk hm hN N ho1 ho2
  obtain ⟨mn, hmn⟩ : ∃ mn, mn = min k m := ⟨_, rfl⟩
  obtain ⟨mx, hmx⟩ : ∃ mx, mx = max k m := ⟨_, rfl⟩
  have hmnx : mn ≤ mx ∧ mx ≤ (lrecs all).length := by omega
  have zmn : min (k : Int) (m : Int) = (mn : Int) := by omega
  have zmx : max (k : Int) (m : Int) = (mx : Int) := by omega
  clear hkN hmN hmn hmx
  obtain ⟨hmm, hmxN⟩ := hmnx
  have HC1 := Lib.hid (cut_any (mn : Int) (by omega) (by omega) hT3.d1)
  rw [HCUT.out mn (by omega)] at HC1
  go_wp2_with fail
  refine HC1.out.mono ?_
  rintro e w4 ⟨rfl, r4, hd4, hk4, hr4⟩
  have hT4 := hT3.left hd4 hk4 hr4
  have hA4 := hA3.kept hk4 (fun b hb => ⟨by have := hb.1; omega, hb.2.1, hb.2.2⟩)
  have hO4 : ∀ b, (b < w1.heap.size ∧ b ≠ p ∧ r ≠ some b) → r4 ≠ some b := by
    rintro b ⟨h1, -, h3⟩ e
    rcases hr4 with h | ⟨g, h, hg⟩
    · exact h3 (h ▸ e)
    · rw [h] at e
      have := Option.some.inj e
      omega
  have hb4 := hb3.trans (hT3.d1.low hk4)
  have hs4 : w1.heap.size ≤ w4.heap.size := Nat.le_trans hs13 hk4.size
  have HC2 := Lib.hid (cut_any (mx : Int) (by omega) (by omega) hT4.d2)
  rw [HCUT.out mx (by omega)] at HC2
  clear HC1 hT3 hA3 hd4 hk4 hr4 hb3 hs13
  dsimp only
  go_wp2_with fail
  refine HC2.out.mono ?_
  rintro e w5 ⟨rfl, r5, hd5, hk5, hr5⟩
  have hT5 := (hT4.symm.left hd5 hk5 hr5).symm
  have hA5 := hA4.kept hk5 (fun b hb => ⟨by have := hb.1; omega, by have := hb.1; omega, fun e => by have := hr1 b e; have := hb.1; omega⟩)
  have hr15 : ∀ g, r5 = some g → w1.heap.size ≤ g := by
    intro g e
    rcases hr5 with h | ⟨g', h, hg⟩
    · exact hr1 g (h ▸ e)
    · rw [h] at e
      have := Option.some.inj e
      omega
  have hb5 := hb4.trans (hT4.symm.d1.low hk5)
  have hs5 : w1.heap.size ≤ w5.heap.size := Nat.le_trans hs4 hk5.size
  obtain ⟨da, hoa, hba, -⟩ := HOP.out mn mn
  obtain ⟨db, hob, hbb, -⟩ := HOP.out mx mx
  have hcc := HMO.out mn mx hmm
  have hcl := HLE.out mx
  generalize lcnt all mn = cu at *
  generalize lcnt all mx = cv at *
  have hU1 : all.take cu = (all.take cv).take (all.take cu).length := by
    rw [List.take_take]
    have e1 : (all.take cu).length = cu := by rw [List.length_take]; omega
    rw [e1, Nat.min_eq_left hcc]
  have hV1 : all.take cv = all.take (all.take cv).length := by
    have e1 : (all.take cv).length = cv := by rw [List.length_take]; omega
    rw [e1]
  have hUV : (all.take cu).length ≤ (all.take cv).length := by rw [List.length_take, List.length_take]; omega
  have hVA : (all.take cv).length ≤ all.length := by rw [List.length_take]; omega
  generalize all.take cu = U at *
  generalize all.take cv = V at *
  have HU1 := Lib.hid hU1
  have HV1 := Lib.hid hV1
  clear hU1 hV1 hcc hcl
  clear HC2 hT4 hA4 hd5 hk5 hr5 hb4 hs4 HCUT HOP HMO HLE
  dsimp only
  go_wp2_with fail
  refine (open_any hT5.d1).mono ?_
  rintro e w6 ⟨r6, hd6, hk6, hr6, hop⟩
  rw [hoa] at hd6 hop
  obtain ⟨A6, c6, q6, m6, rfl, hc6, hm6, hmq6, -, hq6, hbS6, -⟩ := hop
  have hT6 := hT5.left hd6 hk6 hr6
  have hA6 := hA5.kept hk6 (fun b hb => ⟨by have := hb.1; omega, hb.2.1, hO4 b hb⟩)
  have hb6 := hb5.trans (hT5.d1.low hk6)
  have hs6 : w1.heap.size ≤ w6.heap.size := Nat.le_trans hs5 hk6.size
  have hp5 := hT5.d2.lt
  have hoff : Off r5 w5.heap.size m6 := fun b h1 _ e => by have := (hT5.d2.row_lt e).2; omega
  have hmw6 : m6 ≤ w6.heap.size := by have := lt_heap hq6; omega
  clear hT5 hA5 hd6 hk6 hr6 hb5 hoa hO4
  go_wp2_with fail
  refine (open_any hT6.d2).mono ?_
  rintro e w7 ⟨r7, hd7, hk7, hr7, hop⟩
  rw [hob] at hd7 hop
  obtain ⟨A7, c7, q7, m7, rfl, hc7, hm7, hmq7, -, hq7, hbS7, -⟩ := hop
  have hT7 := (hT6.symm.left hd7 hk7 hr7).symm
  have hA7 := hA6.kept hk7 (fun b hb => ⟨by have := hb.1; omega, by have := hb.1; omega, fun e => by have := hr15 b e; have := hb.1; omega⟩)
  have hbS67 := hbS6.kr hk7 hp5 hmw6 hoff
  have hq67 := hq6.krx hT6.symm hk7
  have hb7 := hb6.trans (hT6.symm.d1.low hk7)
  have hs7 : w1.heap.size ≤ w7.heap.size := Nat.le_trans hs6 hk7.size
  have hmw7 : m7 ≤ w7.heap.size := by have := lt_heap hq7; omega
  have hmw67 : m6 ≤ w7.heap.size := Nat.le_trans hmw6 hk7.size
  have hbVU : BlkS w7 (fun b => w6.heap.size ≤ b ∧ b < m7) A7 U := by rw [HU1.out]; exact hbS7.take _
  have HS1 := Lib.hid (samel_any A6 A7 c6 c7 U U w7 _ _ true hbS67 hbVU (fun b hb => by have := hb.2; omega) (fun b hb => by have := hb.2; omega) (by omega) (decide_eq_true rfl))
  have z1 : decide (U.length ≤ V.length) = true := decide_eq_true hUV
  have z1' : decide ((U.length : Int) ≤ (V.length : Int)) = true := decide_eq_true (by omega)
  have z2 : decide (V.length ≤ all.length) = true := decide_eq_true hVA
  have z2' : decide ((V.length : Int) ≤ (all.length : Int)) = true := decide_eq_true (by omega)
  have z3 : (U.length : Int) ≤ (c7 : Int) := by omega
  clear hbVU hT6 hA6 hbS6 hq6 hd7 hk7 hr7 hb6 hs6 hs5 hob hoff HU1
  go_wp2_with fail
  refine HS1.out.mono ?_
  rintro e w8 ⟨rfl, hb8'⟩
  have hA8 := hA7.keep (fun z hz => hb8'.cell (by have := hz.1; omega)) (fun _ h => h)
  have hbS8 := hbS7.low hb8' hmw7
  have hs8 := hb8'.size
  have hbAV : BlkS w8 (fun b => b < w1.heap.size ∧ b ≠ p ∧ r ≠ some b) A V := by rw [HV1.out]; exact hA8.take _
  have HS2 := Lib.hid (samel_any A7 A c7 c V V w8 _ _ true hbS8 hbAV (fun b hb => by have := hb.2; omega) (fun b hb => by have := hb.1; omega) (by omega) (decide_eq_true rfl))
  clear hA8 hbS8 hbAV HV1 HS1
  go_wp2_with fail
  refine HS2.out.mono ?_
  rintro e w9 ⟨rfl, hb9'⟩
  have hb79 := nxt hb8' hb9'
  have hT9 := hT7.below hb79
  have hq69 : LgAt w9 q6 p (plOf U) := heap_below hq67 hb79
  have hq79 : LgAt w9 q7 p' (plOf V) := heap_below hq7 hb79
  have hb9 := nxt hb7 hb79
  have HBA : Hid ((da.bs.length : Int) = ((plOf U).size : Int)) := by
    show _ = _
    rw [hba]
    rfl
  have HBB : Hid ((db.bs.length : Int) = ((plOf V).size : Int)) := by
    show _ = _
    rw [hbb]
    rfl
  clear HS2 hb8' hb9' hb79 hT7 hq67 hq7 hb7 hA7 hbS7 hbS67 hs7 hs8
  go_wp2_with fail
  refine (lg_bytes hq69).mono ?_
  rintro e wx ⟨rfl, rfl⟩
  go_wp2_with fail
  refine (size_any hT9.d1).mono ?_
  rintro e wx ⟨rfl, rfl⟩
  rw [HBA.out]
  go_wp2_with fail
  refine (lg_bytes hq79).mono ?_
  rintro e wx ⟨rfl, rfl⟩
  go_wp2_with fail
  refine (size_any hT9.d2).mono ?_
  rintro e wx ⟨rfl, rfl⟩
  rw [HBB.out]
  go_wp2_with fail
  refine (awake05_any _).mono ?_
  rintro e w10 ⟨rfl, hb10⟩
  go_wp2_with fail
  go_ret
  exact ⟨rfl, nxt hb9 hb10⟩

set_option maxRecDepth 100000 in
theorem lifted (os : Os) (started : os.Started) (H : Type) (enc : TypeId × Value → H) :
    ReturnsInHanded {} Try.checked os 8 .any (Rows.logLessSpec.pre6 enc Try.prog Try.f8 Rows.logLessRow.domain false) (Rows.logLessSpec.post enc Try.prog Try.f8 false true false false) := by
  refine returnsInHanded_of_change (C := Try.checked) knob_own started (by kernel_rfl) Try.func8
    (ChangeSpec.witness6 (enc := enc) (C := Try.checked) false ⟨#[], #[.slice none 0 0, .int .u16 0, .int .u16 0], []⟩ 8 (by kernel_rfl) (by kernel_rfl) (by kernel_rfl) (by kernel_rfl)) ?_
  intro W base args ds gs before hval0 hW hcnd _
  have hval : ∀ (j : Nat) t v, Try.f8.params[j]? = some t → args[j]? = some v → Value.okWide Try.prog W .any base t v := hval0
  have hW' := hW
  obtain ⟨p, q, hA0, hV, rfl, hfz, hnd⟩ := hW
  have hA : DataW.TrodAll enc Try.prog W 0 (fun _ => true) true Try.f8.params.toList args.toList ds p := hA0
  rw [Try.params8] at hA hval
  obtain ⟨v0, vs0, d0, ds0, p0, q0, hargs, rfl, rfl, h0, r0⟩ := trodAll_cons hA
  obtain ⟨v1, vs1, d1, ds1, p1, q1, rfl, rfl, rfl, h1, r1⟩ := trodAll_cons r0
  obtain ⟨v2, vs2, d2, ds2, p2, q2, rfl, rfl, rfl, h2, r2⟩ := trodAll_cons r1
  obtain ⟨rfl, rfl, rfl⟩ := trodAll_nil r2
  obtain rfl : args = #[v0, v1, v2] := by cases args; simp_all
  obtain ⟨rfl, rfl⟩ := trodVars_none hV
  obtain ⟨a0, n0, c0, rfl⟩ := okWide_slice Try.underlying30 (hval 0 30 v0 rfl rfl)
  have k0 := h0
  have lt0 : ∀ x ∈ p0, x.block < W.heap.size := by obtain ⟨m, hm⟩ := k0; exact DataW.trod_lt m _ _ _ hm
  have w0 := brows_open h0
  have lt1 : ∀ x ∈ p1, x.block < W.heap.size := by obtain ⟨m, hm⟩ := h1; exact DataW.trod_lt m _ _ _ hm
  have k1 := h1
  obtain ⟨a1, rfl, _, _, w1⟩ := open_int Try.underlying65 (hval 1 65 v1 rfl rfl) h1
  have lt2 : ∀ x ∈ p2, x.block < W.heap.size := by obtain ⟨m, hm⟩ := h2; exact DataW.trod_lt m _ _ _ hm
  have k2 := h2
  obtain ⟨a2, rfl, _, _, w2⟩ := open_int Try.underlying65 (hval 2 65 v2 rfl rfl) h2
  clear hA0 hval0
  refine (walk W a0 n0 c0 a1 a2 w0 w1 w2).mono fun e W' ⟨he, bel⟩ => ?_
  subst he
  exact ⟨_, rfl, _, _, _, [], _, [], hW', trodAll_mk1 (shut_bool Try.underlying4 _), (trodAll_cons_mk (Below.trod laid_out (by kernel_rfl) (of_decide_eq_true (by kernel_rfl)) k0 bel lt0) (trodAll_cons_mk (Below.trod laid_out (by kernel_rfl) (of_decide_eq_true (by kernel_rfl)) k1 bel lt1) (trodAll_cons_mk (Below.trod laid_out (by kernel_rfl) (of_decide_eq_true (by kernel_rfl)) k2 bel lt2) (trodAll_mk0)))), rfl, bel.frame _, fun h => by cases h⟩

theorem over : Rows.logLessRow.holds Try.pinned (OpenSpec.ofChange Rows.logLessSpec) :=
  OpenClaim.holds_of_wide 8 Try.f8 rfl rfl rfl rfl rfl rfl rfl ⟨rfl, rfl, rfl, rfl, rfl⟩ rfl rfl rfl rfl rfl (by kernel_rfl) Try.func8 (by kernel_rfl)
    (of_decide_eq_true (by kernel_rfl)) (by unfold Func.isWrapper; first | (rw [if_pos (by decide +kernel)]; kernel_rfl) | (rw [if_neg (by decide +kernel)]; exact ⟨rfl, rfl⟩))
    (fun os started H enc _ => lifted os started H enc)

theorem proved : Rows.LogLessSaid := over
end Go.Proofs.Ytfcokndpkkhnjaa.logLess
