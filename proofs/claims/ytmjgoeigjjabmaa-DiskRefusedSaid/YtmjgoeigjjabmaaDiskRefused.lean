/- droverlaw04.DiskRefused returns true whatever its arguments: what is refused changes nothing, and takes nothing from an arm. For every input, without conditions. -/
import Derived.Test.YtmjgoeigjjabmaaRow
import Derived.Test.YtmjgoeigjjabmaaAwake04
import Derived.Test.YtmjgoeigjjabmaaPlayed
namespace Go.Proofs.Ytmjgoeigjjabmaa.diskRefused
open Go.ChangeShapes Go.WideShapes Go.ChangeAt Go.RowKit
set_option linter.unusedVariables false

theorem wf_u16 {a : Int} (h : (Lit.int .u16 a).wf = true) : ∃ n : Nat, a = n ∧ n < 65536 := by
  have h1 : IntKind.u16.min = 0 := rfl
  have h2 : IntKind.u16.max = 65535 := rfl
  simp only [Lit.wf, Bool.and_eq_true, decide_eq_true_eq] at h
  exact ⟨a.toNat, by omega, by omega⟩
theorem op_codes (d : Pd) (f : Pd → Pd) : (d.op f).2 = 0 ∨ (d.op f).2 = 15 := by
  unfold Pd.op
  split
  · exact .inr rfl
  · exact .inl rfl
theorem step_codes (d : Pd) (x : Po) : ((d.step x).2 = 0 ∨ (d.step x).2 = 15) ∨ (d.step x).1 = d := by
  unfold Pd.step
  split
  · unfold Pd.app
    split
    · exact .inr rfl
    · split
      · exact .inr rfl
      · exact .inl (op_codes _ _)
  · split
    · unfold Pd.sync
      split
      · exact .inr rfl
      · exact .inl (op_codes _ _)
    · split
      · unfold Pd.cut
        split
        · exact .inr rfl
        · split
          · exact .inr rfl
          · exact .inl (op_codes _ _)
      · split
        · exact .inl (.inl rfl)
        · split
          · exact .inl (.inl rfl)
          · exact .inr rfl

set_option maxRecDepth 100000 in
set_option maxHeartbeats 4000000 in
theorem walk (w : World) (a0 : Int) (a1 : Option Addr) (n1 c1 : Nat) (w0 : (Lit.int .u16 a0).wf = true) (w1 : ∃ l, l.length = n1 ∧ n1 ≤ c1 ∧ c1 ≤ maxLen ∧ Ops w w.heap.size a1 l) :
    Calls Try.prog 9 #[.int .u16 a0, .slice a1 n1 c1] w fun e w' => e = .returned (.bool true) ∧ Below w.heap.size w w' := by
  obtain ⟨m0, rfl, hm0⟩ := wf_u16 w0
  obtain ⟨l, hl, hc, hcm, hops⟩ := w1
  subst hl
  have HO := Lib.hid hops
  clear hops w0
  obtain ⟨m, hm⟩ : ∃ m : Nat, m = m0 % 1001 := ⟨_, rfl⟩
  have s0 : (m0 : Int).tmod 1001 = (m : Int) := by rw [Int.tmod_eq_emod_of_nonneg (by omega)]; omega
  have s1 : IntKind.u16.wrap (m : Int) = (m : Int) := by rw [IntKind.wrap_u16]; omega
  have s2 : IntKind.i64.wrap (m : Int) = (m : Int) := by rw [IntKind.wrap_i64]; omega
  have hm2 : m ≤ 67108864 := by omega
  clear hm hm0
  go_enter Try.func9, Try.ntmps9
  go_wp2_with fail
  refine (new_any m hm2 w).mono ?_
  rintro e w1 ⟨rfl, hd1, hb1⟩
  obtain ⟨p, hp⟩ : ∃ p, p = w.heap.size := ⟨_, rfl⟩
  have hd1 : Dk w1 w.heap.size p none (.new m) := by rw [hp]; exact hd1
  rw [← hp]
  have HP := Lib.hid hp
  clear hp
  go_wp2_with fail
  refine (new_any m hm2 w1).mono ?_
  rintro e w2 ⟨rfl, hd2, hb2⟩
  have hd1' := hd1.below hb2
  have hd2' := hd2.mono hb1.size
  have hpq : p ≠ w1.heap.size := by have := hd1.lt; omega
  have h2 : Two w2 w.heap.size p none (.new m) w1.heap.size none (.new m) := ⟨hd1', hd2', hpq, fun g e => by cases e⟩
  have hb : Below w.heap.size w w2 := nxt hb1 hb2
  generalize w1.heap.size = q at *
  clear hd1 hd1' hd2 hd2' hb1 hb2 hpq s0 s1 s2
  go_wp2_with fail
  go_loopw [9] (fun i wr => ∃ (j : Nat) (r r' : Option Nat) (d : Pd), j ≤ l.length ∧ j ≤ 50 ∧ i = .int .i64 (j : Int) ∧ Two wr w.heap.size p r d q r' d ∧ Below w.heap.size w wr) (fun i _ => l.length - (intOf i).toNat)
  case atStart => exact ⟨0, none, none, _, Nat.zero_le _, Nat.zero_le _, rfl, h2, hb⟩
  case round =>
    obtain ⟨j, r, r', d, hj, hj50, rfl, htw, hbr⟩ := hrel
    by_cases hlt : j < l.length
    · have t1 : decide ((j : Int) < (l.length : Int)) = true := decide_eq_true (by omega)
      by_cases h50 : j < 50
      · have t2 : decide ((j : Int) < 50) = true := decide_eq_true (by omega)
        obtain ⟨b, o, A, c', rfl, c0, c1, c2, hop⟩ := HO.out.at hbr j hlt
        have hbsz := hbr.size
        by_cases h200 : 200 < l[j].b.length
        · have t3 : decide ((200 : Int) < (l[j].b.length : Int)) = true := decide_eq_true (by omega)
          generalize l[j] = x at *
          go_wp2_with fail
          go_roundw
          case rel => exact ⟨j + 1, r, r', d, by omega, by omega, by go_num, htw, hbr⟩
          case measure => simp [intOf]; omega
        · have t3 : decide ((200 : Int) < (l[j].b.length : Int)) = false := decide_eq_false (by omega)
          generalize hx : l[j] = x at *
          have HX := Lib.hid hx
          clear hx
          have HC := Lib.hid (step_codes d x)
          go_wp2_with fail
          refine (does_any _ _ _ x _ hbsz hop htw.one).mono ?_
          rintro e w3 ⟨rfl, ha3⟩
          by_cases he : (d.step x).2 = 0 ∨ (d.step x).2 = 15
          · obtain ⟨r3, htw3, hk3⟩ := htw.left ha3
            have hbr3 := hbr.trans (htw.one.low hk3)
            obtain ⟨b', o', A', c'', e', c0', c1', c2', hop'⟩ := HO.out.at hbr3 j hlt
            clear c0 c1 c2 hop ha3 hk3 htw hbr HC
            obtain ⟨rfl, rfl⟩ : b = b' ∧ o = o' := by simpa using e'
            rw [HX.out] at c0' c1' c2' hop'
            have hbsz3 := hbr3.size
            have t4 : ((((d.step x).2 : Int) != 0) && (((d.step x).2 : Int) != 15)) = false := by rcases he with h | h <;> rw [h] <;> rfl
            obtain ⟨z, hz⟩ : ∃ z : Int, z = ((d.step x).2 : Int) := ⟨_, rfl⟩
            rw [← hz] at t4 ⊢
            have HZ := Lib.hid hz
            clear hz he
            have t5 : (z == z) = true := by simp
            have fin : ∀ w5, Two w5 w.heap.size q r' (d.step x).1 p r3 (d.step x).1 → True := fun _ _ => trivial
            rcases hz0 : (z != 0) with _ | _
            · go_wp2_with fail
              refine (does_any _ _ _ x _ hbsz3 hop' htw3.two).mono ?_
              rintro e w4 ⟨rfl, ha4⟩
              obtain ⟨r4, htw4, hk4⟩ := htw3.symm.left ha4
              have hbr4 := hbr3.trans (htw3.two.low hk4)
              rw [← HZ.out]
              go_wp2_with fail
              refine (alike_any htw4.two htw4.one rfl rfl rfl).mono ?_
              rintro e w5 ⟨rfl, hb5⟩
              have htw5 := htw4.below hb5
              have hbr5 := nxt hbr4 hb5
              go_wp2_with fail
              go_roundw
              case rel => exact ⟨j + 1, r3, r4, _, by omega, by omega, by go_num, htw5.symm, hbr5⟩
              case measure => simp [intOf]; omega
            · have hz1 : (z != 15) = false := by rw [hz0] at t4; simpa using t4
              go_wp2_with fail
              refine (does_any _ _ _ x _ hbsz3 hop' htw3.two).mono ?_
              rintro e w4 ⟨rfl, ha4⟩
              obtain ⟨r4, htw4, hk4⟩ := htw3.symm.left ha4
              have hbr4 := hbr3.trans (htw3.two.low hk4)
              rw [← HZ.out]
              go_wp2_with fail
              refine (alike_any htw4.two htw4.one rfl rfl rfl).mono ?_
              rintro e w5 ⟨rfl, hb5⟩
              have htw5 := htw4.below hb5
              have hbr5 := nxt hbr4 hb5
              go_wp2_with fail
              go_roundw
              case rel => exact ⟨j + 1, r3, r4, _, by omega, by omega, by go_num, htw5.symm, hbr5⟩
              case measure => simp [intOf]; omega
          · have e1 : (d.step x).1 = d := by
              rcases HC.out with h | h
              · exact absurd h he
              · exact h
            rw [e1] at ha3
            obtain ⟨r3, htw3, hk3⟩ := htw.left ha3
            have hbr3 := hbr.trans (htw.one.low hk3)
            have t4 : (((d.step x).2 : Int) != 0) = true := bne_iff_ne.2 (by omega)
            have t5 : (((d.step x).2 : Int) != 15) = true := bne_iff_ne.2 (by omega)
            clear ha3 e1 he
            go_wp2_with fail
            go_roundw
            case rel => exact ⟨j + 1, r3, r', d, by omega, by omega, by go_num, htw3, hbr3⟩
            case measure => simp [intOf]; omega
      · have t2 : decide ((j : Int) < 50) = false := decide_eq_false (by omega)
        obtain rfl : j = 50 := by omega
        go_wp2_with fail
        all_goals
          refine (awake_any _).mono ?_
          rintro e w7 ⟨rfl, hb9⟩
          go_wp2_with fail
          go_ret
          exact ⟨rfl, nxt hbr hb9⟩
    · have t1 : decide ((j : Int) < (l.length : Int)) = false := decide_eq_false (by omega)
      go_wp2_with fail
      refine (awake_any _).mono ?_
      rintro e w7 ⟨rfl, hb9⟩
      go_wp2_with fail
      go_ret
      exact ⟨rfl, nxt hbr hb9⟩

set_option maxRecDepth 100000 in
theorem lifted (os : Os) (started : os.Started) (H : Type) (enc : TypeId × Value → H) :
    ReturnsInHanded {} Try.checked os 9 .any (Rows.diskRefusedSpec.pre6 enc Try.prog Try.f9 Rows.diskRefusedRow.domain false) (Rows.diskRefusedSpec.post enc Try.prog Try.f9 false true false false) := by
  refine returnsInHanded_of_change (C := Try.checked) knob_own started (by kernel_rfl) Try.func9
    (ChangeSpec.witness6 (enc := enc) (C := Try.checked) false ⟨#[], #[.int .u16 0, .slice none 0 0], []⟩ 8 (by kernel_rfl) (by kernel_rfl) (by kernel_rfl) (by kernel_rfl)) ?_
  intro W base args ds gs before hval0 hW hcnd _
  have hval : ∀ (j : Nat) t v, Try.f9.params[j]? = some t → args[j]? = some v → Value.okWide Try.prog W .any base t v := hval0
  have hW' := hW
  obtain ⟨p, q, hA0, hV, rfl, hfz, hnd⟩ := hW
  have hA : DataW.TrodAll enc Try.prog W 0 (fun _ => true) true Try.f9.params.toList args.toList ds p := hA0
  rw [Try.params9] at hA hval
  obtain ⟨v0, vs0, d0, ds0, p0, q0, hargs, rfl, rfl, h0, r0⟩ := trodAll_cons hA
  obtain ⟨v1, vs1, d1, ds1, p1, q1, rfl, rfl, rfl, h1, r1⟩ := trodAll_cons r0
  obtain ⟨rfl, rfl, rfl⟩ := trodAll_nil r1
  obtain rfl : args = #[v0, v1] := by cases args; simp_all
  obtain ⟨rfl, rfl⟩ := trodVars_none hV
  have lt0 : ∀ x ∈ p0, x.block < W.heap.size := by obtain ⟨m, hm⟩ := h0; exact DataW.trod_lt m _ _ _ hm
  have k0 := h0
  obtain ⟨a0, rfl, _, _, w0⟩ := open_int Try.underlying62 (hval 0 62 v0 rfl rfl) h0
  obtain ⟨a1, n1, c1, rfl⟩ := okWide_slice Try.underlying36 (hval 1 36 v1 rfl rfl)
  have k1 := h1
  have lt1 : ∀ x ∈ p1, x.block < W.heap.size := by obtain ⟨m, hm⟩ := k1; exact DataW.trod_lt m _ _ _ hm
  have w1 := ops_open h1
  clear hA0 hval0
  refine (walk W a0 a1 n1 c1 w0 w1).mono fun e W' ⟨he, bel⟩ => ?_
  subst he
  exact ⟨_, rfl, _, _, _, [], _, [], hW', trodAll_mk1 (shut_bool Try.underlying4 _), (trodAll_cons_mk (Below.trod laid_out (by kernel_rfl) (of_decide_eq_true (by kernel_rfl)) k0 bel lt0) (trodAll_cons_mk (Below.trod laid_out (by kernel_rfl) (of_decide_eq_true (by kernel_rfl)) k1 bel lt1) (trodAll_mk0))), rfl, bel.frame _, fun h => by cases h⟩

theorem over : Rows.diskRefusedRow.holds Try.pinned (OpenSpec.ofChange Rows.diskRefusedSpec) :=
  OpenClaim.holds_of_wide 9 Try.f9 rfl rfl rfl rfl rfl rfl rfl ⟨rfl, rfl, rfl, rfl, rfl⟩ rfl rfl rfl rfl rfl (by kernel_rfl) Try.func9 (by kernel_rfl)
    (of_decide_eq_true (by kernel_rfl)) (by unfold Func.isWrapper; first | (rw [if_pos (by decide +kernel)]; kernel_rfl) | (rw [if_neg (by decide +kernel)]; exact ⟨rfl, rfl⟩))
    (fun os started H enc _ => lifted os started H enc)

theorem proved : Rows.DiskRefusedSaid := over
end Go.Proofs.Ytmjgoeigjjabmaa.diskRefused
