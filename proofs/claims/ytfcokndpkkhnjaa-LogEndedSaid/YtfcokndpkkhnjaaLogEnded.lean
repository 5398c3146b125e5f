/- droverlaw05.LogEnded returns true whatever its arguments: behind an error of the disk a log takes no more; on a full disk it goes on. For every input, without conditions. -/
import Derived.Test.YtfcokndpkkhnjaaRow
import Derived.Test.YtfcokndpkkhnjaaBrw
import Derived.Test.YtfcokndpkkhnjaaAwake05
import Derived.Test.YtfcokndpkkhnjaaLk
namespace Go.Proofs.Ytfcokndpkkhnjaa.logEnded
open Go.ChangeShapes Go.WideShapes Go.ChangeAt Go.RowKit
set_option linter.unusedVariables false



set_option maxRecDepth 100000 in
set_option maxHeartbeats 4000000 in
theorem walk (w : World) (a0 : Option Addr) (n0 c0 : Nat) (a1 : Int) (a2 : Int) (w0 : ∃ ll : List (List Nat), BRows w a0 n0 c0 ll) (w1 : (Lit.int .u16 a1).wf = true) (w2 : (Lit.int .u16 a2).wf = true) :
    Calls Try.prog 9 #[.slice a0 n0 c0, .int .u16 a1, .int .u16 a2] w fun e w' => e = .returned (.bool true) ∧ Below w.heap.size w w' := by
  obtain ⟨ll, hr⟩ := w0
  obtain ⟨mo, rfl, hmo⟩ := wf_u16 w1
  obtain ⟨ar, rfl, har⟩ := wf_u16 w2
  have hll := hr.len
  have HR := Lib.hid hr
  clear hr w1 w2
  obtain ⟨M, hM⟩ : ∃ M : Nat, M = mo % 501 := ⟨_, rfl⟩
  have hM2 : M ≤ 500 := by omega
  have s0 : (mo : Int).tmod 501 = (M : Int) := by rw [Int.tmod_eq_emod_of_nonneg (by omega)]; omega
  have s0' : (mo : Int) % 501 = (M : Int) := by omega
  have s1 : IntKind.u16.wrap (M : Int) = (M : Int) := by rw [IntKind.wrap_u16]; omega
  have s2 : IntKind.i64.wrap (M : Int) = (M : Int) := by rw [IntKind.wrap_i64]; omega
  obtain ⟨K, hK⟩ : ∃ K : Nat, K = ar % 60 := ⟨_, rfl⟩
  have hK2 : K < 60 := by omega
  have s3 : (ar : Int).tmod 60 = (K : Int) := by rw [Int.tmod_eq_emod_of_nonneg (by omega)]; omega
  have s3' : (ar : Int) % 60 = (K : Int) := by omega
  have s4 : IntKind.u16.wrap (K : Int) = (K : Int) := by rw [IntKind.wrap_u16]; omega
  have s5 : IntKind.i64.wrap (K : Int) = (K : Int) := by rw [IntKind.wrap_i64]; omega
  clear hM hK hmo har
  have hcv : ∀ (w : World) (C : Array Value) (n c g : Nat), g = w.heap.size → (convert 22 22 (.slice (some ⟨g, 0, none⟩) n c)).run Try.prog (w.alloc (.cells C 5)) = .ok (.slice (some ⟨g, 0, none⟩) n c) (w.alloc (.cells C 5 (C.size, C.size + 1))) := by
    intro w C n c g hg
    subst hg
    exact Lib.run_convert_bytes_const (P := Try.prog) w 22 5 C n c Try.underlying22 Try.underlying5
  go_enter Try.func9, Try.ntmps9
  go_wp2_with fail
  refine (new_any M (by omega) w).mono ?_
  rintro e w1 ⟨rfl, hd1, hb1⟩
  obtain ⟨p, hp⟩ : ∃ p, p = w.heap.size := ⟨_, rfl⟩
  have hd1 : Dk w1 w.heap.size p none (.new M) := by rw [hp]; exact hd1
  rw [← hp]
  have HP := Lib.hid hp
  clear hp
  go_wp2_with fail
  refine (open_any hd1).mono ?_
  rintro e w2 ⟨r2, hd2, hk2, hr2, hop⟩
  rw [open_new] at hd2 hop
  obtain ⟨A1, c1, q, m1, rfl, -, hm1, hmq1, -, hq1, -⟩ := hop
  have hb2 := hb1.trans (hd1.low hk2)
  have hg2 : Lg w2 w.heap.size p q r2 (.new M) (plOf []) := ⟨hd2, hq1, by have := hb1.size; omega⟩
  clear hd1 hb1 hk2 hr2 hd2 hq1 hm1 hmq1
  go_wp2_with fail
  refine (arm_any (K : Int) (by omega) hg2.dk).mono ?_
  rintro e w3 ⟨rfl, r3, hd3, hk3, hr3⟩
  have e3 : Pd.arm (.new M) (K : Int) = ⟨M, [], 0, true, K, false⟩ := rfl
  rw [e3] at hd3
  have hb3 := hb2.trans (hg2.dk.low hk3)
  have hg3 : Lg w3 w.heap.size p q r3 ⟨M, [], 0, true, K, false⟩ ⟨0, 0, false⟩ := ⟨hd3, hk3.heap hg2.at_ (fun e => hg2.ne e.symm) (hg2.dk.lg_row hg2.at_), hg2.low⟩
  clear hg2 hb2 hk3 hr3 hd3 e3 s3 s3' s4 s5
  go_wp2_with fail
  go_loopw [12, 13, 14] (fun n u i wr => ∃ (j k us : Nat) (d : Pd) (r : Option Nat), j ≤ n0 ∧ k ≤ j ∧ i = .int .i64 (j : Int) ∧ n = .int .i64 (k : Int) ∧ u = .int .i64 (us : Int) ∧ us ≤ 500 ∧ j ≤ 30 ∧ d.bs.length = us ∧ d.most = M ∧ d.down = false ∧ Lg wr w.heap.size p q r d ⟨k, us, false⟩ ∧ Below w.heap.size w wr) (fun _ _ i _ => n0 - (intOf i).toNat)
  case atStart => exact ⟨0, 0, 0, _, r3, Nat.zero_le _, Nat.le_refl _, rfl, rfl, rfl, by omega, by omega, rfl, rfl, rfl, hg3, hb3⟩
  case round =>
    clear hg3 hb3
    obtain ⟨j, k, us, d, r, hj, hkj, rfl, rfl, rfl, hus, hj30, hbs, hmost, hdown, hg, hbr⟩ := hrel
    by_cases hgo : j < n0 ∧ j < 30
    · obtain ⟨hlt, h30⟩ := hgo
      have t1 : decide ((j : Int) < (n0 : Int)) = true := decide_eq_true (by omega)
      have t1' : decide (j < n0) = true := decide_eq_true hlt
      have t2 : decide ((j : Int) < 30) = true := decide_eq_true (by omega)
      have t2' : decide (j < 30) = true := decide_eq_true h30
      have x1 : (j : Int) < (n0 : Int) := by omega
      obtain ⟨b, o, A, c, rfl, c0, hpc⟩ := HR.out.at hbr j hlt
      obtain ⟨x, hx⟩ : ∃ x, x = ll.getD j [] := ⟨_, rfl⟩
      have HX := Lib.hid hx
      rw [← hx] at c0 hpc
      clear hx
      by_cases hlen : 1 ≤ x.length ∧ x.length ≤ 100
      · obtain ⟨hl1, hl2⟩ := hlen
        have t3 : ((x.length : Int) == 0) = false := beq_eq_false_iff_ne.2 (by omega)
        have t4 : decide ((100 : Int) < (x.length : Int)) = false := decide_eq_false (by omega)
        have t4' : decide (100 < x.length) = false := decide_eq_false (by omega)
        have z1 : IntKind.i64.wrap ((us : Int) + 8) = ((us + 8 : Nat) : Int) := by rw [IntKind.wrap_i64]; omega
        have z2 : IntKind.i64.wrap (((us + 8 : Nat) : Int) + (x.length : Int)) = ((us + 8 + x.length : Nat) : Int) := by rw [IntKind.wrap_i64]; omega
        have hyl := lrec_length x
        have hcs := addL_cases ⟨k, us, false⟩ d x ⟨hl1, by omega⟩ rfl hdown
        have HAdd := Lib.hid (add_any _ x hg hpc (by dsimp only; omega) (by dsimp only; omega))
        rw [hbs, hmost, hyl] at hcs
        rcases hcs with ⟨hf, hA⟩ | ⟨hf, d', hA, hb', hm', hd', hs'⟩ | ⟨hf, -, d', hA, hb', hm', hd', hs'⟩
        · have t5 : decide ((M : Int) < (us : Int) + 8 + (x.length : Int)) = true := decide_eq_true (by omega)
          rw [hA] at HAdd
          clear hA hf hyl
          go_wp2_with fail
          refine HAdd.out.mono ?_
          rintro e w4 ⟨rfl, r4, hg4, hk4, hr4⟩
          have hbr4 := hbr.trans (hg.low_of hk4)
          clear HAdd hg hk4 hr4 hbr c0 hpc
          dsimp only at hg4 ⊢
          go_wp2_with fail
          go_roundw
          case rel => exact ⟨j + 1, k, us, d, r4, by omega, by omega, by go_num, rfl, rfl, hus, by omega, hbs, hmost, hdown, hg4, hbr4⟩
          case measure => simp [intOf]; omega
        · have t5 : decide ((M : Int) < (us : Int) + 8 + (x.length : Int)) = false := decide_eq_false (by omega)
          rw [hA] at HAdd
          have hbl : d'.bs.length = us + (8 + x.length) := by rw [hb', List.length_append, hbs, hyl]
          clear hA hyl
          go_wp2_with fail
          refine HAdd.out.mono ?_
          rintro e w4 ⟨rfl, r4, hg4, hk4, hr4⟩
          have hbr4 := hbr.trans (hg.low_of hk4)
          clear HAdd hg hk4 hr4 hbr c0 hpc
          dsimp only at hg4 ⊢
          obtain ⟨b', o', A', c', eb, c0', hpc'⟩ := HR.out.at hbr4 j hlt
          obtain ⟨rfl, rfl⟩ : b = b' ∧ o = o' := by simpa using eb
          rw [← HX.out] at c0'
          have s6 : IntKind.i64.wrap ((k : Int) + 1) = ((k + 1 : Nat) : Int) := by rw [IntKind.wrap_i64]; omega
          go_wp2_with fail
          go_quiet (fail)
          have hgq := hg4.below (bel_drewN1 (Below.refl _ _) nq)
          have hbq := bel_drewN1 hbr4 nq
          go_wp2_with fail
          go_roundw
          case rel => exact ⟨j + 1, k + 1, us + (8 + x.length), d', r4, by omega, by omega, by go_num, by go_num, by go_num, by omega, by omega, hbl, hm', hd', hgq, hbq⟩
          case measure => simp [intOf]; omega
        · have t5 : decide ((M : Int) < (us : Int) + 8 + (x.length : Int)) = false := decide_eq_false (by omega)
          rw [hA] at HAdd
          clear hA hf hyl
          go_wp2_with fail
          refine HAdd.out.mono ?_
          rintro e w4 ⟨rfl, r4, hg4, hk4, hr4⟩
          have hbr4 := hbr.trans (hg.low_of hk4)
          clear HAdd hg hk4 hr4 hbr c0 hpc
          dsimp only at hg4 ⊢
          go_wp2_with fail
          refine (crash_any 0 (by omega) (by omega) hg4.dk).mono ?_
          rintro e w5 ⟨rfl, r5, hd5, hk5, hr5⟩
          have hg5 : Lg w5 w.heap.size p q r5 (d'.crash 0) ⟨k, us, true⟩ := ⟨hd5, hk5.heap hg4.at_ (fun e => hg4.ne e.symm) (hg4.dk.lg_row hg4.at_), hg4.low⟩
          have hbr5 := hbr4.trans (hg4.dk.low hk5)
          clear hg4 hk5 hr5 hd5 hbr4
          generalize d'.crash 0 = d5 at *
          go_wp2_with fail
          have hv6 := Bs.made' w5 #[.int .u8 120] 5 [120] 1 w5.heap.size rfl rfl rfl (by simp) (1, 2)
          have hal6 := (Below.refl w5.heap.size w5).alloc (Nat.le_refl _) (.cells #[.int .u8 120] 5 (1, 2))
          have hg6 := hg5.below hal6
          have hbr6 := nxt hbr5 hal6
          have HAd := Lib.hid (add_any _ [120] hg6 hv6 (by dsimp only; omega) (by dsimp only; omega))
          rw [addL_shut _ _ _ _ (by simp)] at HAd
          clear hv6 hal6 hg5 hbr5
          refine HAd.out.mono ?_
          rintro e w7 ⟨rfl, r7, hg7, hk7, hr7⟩
          have hbr7 := hbr6.trans (hg6.low_of hk7)
          clear HAd hg6 hk7 hr7 hbr6
          dsimp only at hg7 ⊢
          obtain ⟨b', o', A', c', eb, c0', hpc'⟩ := HR.out.at hbr7 j hlt
          obtain ⟨rfl, rfl⟩ : b = b' ∧ o = o' := by simpa using eb
          rw [← HX.out] at c0' hpc'
          have HAd := Lib.hid (add_any _ x hg7 hpc' (by dsimp only; omega) (by dsimp only; omega))
          rw [addL_shut _ _ _ _ ⟨hl1, by omega⟩] at HAd
          go_wp2_with fail
          refine HAd.out.mono ?_
          rintro e w8 ⟨rfl, r8, hg8, hk8, hr8⟩
          have hbr8 := hbr7.trans (hg7.low_of hk8)
          clear HAd hg7 hk8 hr8 hbr7 c0' hpc'
          dsimp only at hg8 ⊢
          go_wp2_with fail
          refine (lg_len hg8.at_).mono ?_
          rintro e wx ⟨rfl, rfl⟩
          dsimp only
          go_wp2_with fail
          refine (lg_bytes hg8.at_).mono ?_
          rintro e wx ⟨rfl, rfl⟩
          dsimp only
          go_wp2_with fail
          refine (awake05_any _).mono ?_
          rintro e w9 ⟨rfl, hb9⟩
          go_wp2_with fail
          go_ret
          exact ⟨rfl, nxt hbr8 hb9⟩
      · have hor : x.length = 0 ∨ 100 < x.length := by omega
        clear hlen
        rcases hor with h0 | h1
        · have t3 : ((x.length : Int) == 0) = true := by rw [h0]; rfl
          clear h0
          go_wp2_with fail
          go_roundw
          case rel => exact ⟨j + 1, k, us, d, r, by omega, by omega, by go_num, rfl, rfl, hus, by omega, hbs, hmost, hdown, hg, hbr⟩
          case measure => simp [intOf]; omega
        · have t3 : ((x.length : Int) == 0) = false := beq_eq_false_iff_ne.2 (by omega)
          have t4 : decide ((100 : Int) < (x.length : Int)) = true := decide_eq_true (by omega)
          have t4' : decide (100 < x.length) = true := decide_eq_true (by omega)
          go_wp2_with fail
          go_roundw
          case rel => exact ⟨j + 1, k, us, d, r, by omega, by omega, by go_num, rfl, rfl, hus, by omega, hbs, hmost, hdown, hg, hbr⟩
          case measure => simp [intOf]; omega
    · have hor : (j = n0) ∨ (j < n0 ∧ ¬ j < 30) := by omega
      clear hgo
      rcases hor with hjn | ⟨h1, h2⟩
      · have t1 : decide ((j : Int) < (n0 : Int)) = false := decide_eq_false (by omega)
        have t1' : decide (j < n0) = false := decide_eq_false (by omega)
        go_wp2_with fail
        refine (lg_len hg.at_).mono ?_
        rintro e wx ⟨rfl, rfl⟩
        dsimp only
        go_wp2_with fail
        refine (lg_bytes hg.at_).mono ?_
        rintro e wx ⟨rfl, rfl⟩
        dsimp only
        go_wp2_with fail
        refine (awake05_any _).mono ?_
        rintro e w9 ⟨rfl, hb9⟩
        go_wp2_with fail
        go_ret
        exact ⟨rfl, nxt hbr hb9⟩
      · have t1 : decide ((j : Int) < (n0 : Int)) = true := decide_eq_true (by omega)
        have t1' : decide (j < n0) = true := decide_eq_true h1
        have t2 : decide ((j : Int) < 30) = false := decide_eq_false (by omega)
        have t2' : decide (j < 30) = false := decide_eq_false h2
        go_wp2_with fail
        refine (lg_len hg.at_).mono ?_
        rintro e wx ⟨rfl, rfl⟩
        dsimp only
        go_wp2_with fail
        refine (lg_bytes hg.at_).mono ?_
        rintro e wx ⟨rfl, rfl⟩
        dsimp only
        go_wp2_with fail
        refine (awake05_any _).mono ?_
        rintro e w9 ⟨rfl, hb9⟩
        go_wp2_with fail
        go_ret
        exact ⟨rfl, nxt hbr hb9⟩

set_option maxRecDepth 100000 in
theorem lifted (os : Os) (started : os.Started) (H : Type) (enc : TypeId × Value → H) :
    ReturnsInHanded {} Try.checked os 9 .any (Rows.logEndedSpec.pre6 enc Try.prog Try.f9 Rows.logEndedRow.domain false) (Rows.logEndedSpec.post enc Try.prog Try.f9 false true false false) := by
  refine returnsInHanded_of_change (C := Try.checked) knob_own started (by kernel_rfl) Try.func9
    (ChangeSpec.witness6 (enc := enc) (C := Try.checked) false ⟨#[], #[.slice none 0 0, .int .u16 0, .int .u16 0], []⟩ 8 (by kernel_rfl) (by kernel_rfl) (by kernel_rfl) (by kernel_rfl)) ?_
  intro W base args ds gs before hval0 hW hcnd _
  have hval : ∀ (j : Nat) t v, Try.f9.params[j]? = some t → args[j]? = some v → Value.okWide Try.prog W .any base t v := hval0
  have hW' := hW
  obtain ⟨p, q, hA0, hV, rfl, hfz, hnd⟩ := hW
  have hA : DataW.TrodAll enc Try.prog W 0 (fun _ => true) true Try.f9.params.toList args.toList ds p := hA0
  rw [Try.params9] at hA hval
  obtain ⟨v0, vs0, d0, ds0, p0, q0, hargs, rfl, rfl, h0, r0⟩ := trodAll_cons hA
  obtain ⟨v1, vs1, d1, ds1, p1, q1, rfl, rfl, rfl, h1, r1⟩ := trodAll_cons r0
  obtain ⟨v2, vs2, d2, ds2, p2, q2, rfl, rfl, rfl, h2, r2⟩ := trodAll_cons r1
  obtain ⟨rfl, rfl, rfl⟩ := trodAll_nil r2
  obtain rfl : args = #[v0, v1, v2] := by cases args; simp_all
  obtain ⟨rfl, rfl⟩ := trodVars_none hV
  obtain ⟨a0, n0, c0, rfl⟩ := okWide_slice Try.underlying30 (hval 0 30 v0 rfl rfl)
  have k0 := h0
  have lt0 : ∀ x ∈ p0, x.block < W.heap.size := by obtain ⟨m, hm⟩ := k0; exact DataW.trod_lt m _ _ _ hm
  have w0 := brows_open h0
  have lt1 : ∀ x ∈ p1, x.block < W.heap.size := by obtain ⟨m, hm⟩ := h1; exact DataW.trod_lt m _ _ _ hm
  have k1 := h1
  obtain ⟨a1, rfl, _, _, w1⟩ := open_int Try.underlying65 (hval 1 65 v1 rfl rfl) h1
  have lt2 : ∀ x ∈ p2, x.block < W.heap.size := by obtain ⟨m, hm⟩ := h2; exact DataW.trod_lt m _ _ _ hm
  have k2 := h2
  obtain ⟨a2, rfl, _, _, w2⟩ := open_int Try.underlying65 (hval 2 65 v2 rfl rfl) h2
  clear hA0 hval0
  refine (walk W a0 n0 c0 a1 a2 w0 w1 w2).mono fun e W' ⟨he, bel⟩ => ?_
  subst he
  exact ⟨_, rfl, _, _, _, [], _, [], hW', trodAll_mk1 (shut_bool Try.underlying4 _), (trodAll_cons_mk (Below.trod laid_out (by kernel_rfl) (of_decide_eq_true (by kernel_rfl)) k0 bel lt0) (trodAll_cons_mk (Below.trod laid_out (by kernel_rfl) (of_decide_eq_true (by kernel_rfl)) k1 bel lt1) (trodAll_cons_mk (Below.trod laid_out (by kernel_rfl) (of_decide_eq_true (by kernel_rfl)) k2 bel lt2) (trodAll_mk0)))), rfl, bel.frame _, fun h => by cases h⟩

theorem over : Rows.logEndedRow.holds Try.pinned (OpenSpec.ofChange Rows.logEndedSpec) :=
  OpenClaim.holds_of_wide 9 Try.f9 rfl rfl rfl rfl rfl rfl rfl ⟨rfl, rfl, rfl, rfl, rfl⟩ rfl rfl rfl rfl rfl (by kernel_rfl) Try.func9 (by kernel_rfl)
    (of_decide_eq_true (by kernel_rfl)) (by unfold Func.isWrapper; first | (rw [if_pos (by decide +kernel)]; kernel_rfl) | (rw [if_neg (by decide +kernel)]; exact ⟨rfl, rfl⟩))
    (fun os started H enc _ => lifted os started H enc)

theorem proved : Rows.LogEndedSaid := over
end Go.Proofs.Ytfcokndpkkhnjaa.logEnded
