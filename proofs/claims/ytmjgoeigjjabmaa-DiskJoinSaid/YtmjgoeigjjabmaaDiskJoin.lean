/- droverlaw04.DiskJoin returns true whatever its arguments: bytes that are appended piece by piece are as bytes that are appended at once. For every input, without conditions. -/
import Derived.Test.YtmjgoeigjjabmaaRow
import Derived.Test.YtmjgoeigjjabmaaAwake04
import Derived.Test.YtmjgoeigjjabmaaHelp04
import Derived.Test.YtmjgoeigjjabmaaBrw
import Derived.Test.YtmjgoeigjjabmaaDl
namespace Go.Proofs.Ytmjgoeigjjabmaa.diskJoin
open Go.ChangeShapes Go.WideShapes Go.ChangeAt Go.RowKit
set_option linter.unusedVariables false

theorem wf_u16 {a : Int} (h : (Lit.int .u16 a).wf = true) : ∃ n : Nat, a = n ∧ n < 65536 := by
  have h1 : IntKind.u16.min = 0 := rfl
  have h2 : IntKind.u16.max = 65535 := rfl
  simp only [Lit.wf, Bool.and_eq_true, decide_eq_true_eq] at h
  exact ⟨a.toNat, by omega, by omega⟩
/-- The pieces, but those of too many bytes. -/
def cat (ll : List (List Nat)) : List Nat := (ll.filter fun b => decide (b.length ≤ 50)).flatten
theorem cat_step (ll : List (List Nat)) (j : Nat) (h : j < ll.length) : cat (ll.take (j + 1)) = if (ll.getD j []).length ≤ 50 then cat (ll.take j) ++ ll.getD j [] else cat (ll.take j) := by
  unfold cat
  rw [List.take_succ_eq_append_getElem h, List.filter_append, List.flatten_append]
  have e : ll.getD j [] = ll[j] := by simp [h]
  rw [e]
  by_cases h5 : ll[j].length ≤ 50
  · rw [if_pos h5]
    simp [h5]
  · rw [if_neg h5]
    simp [h5]
theorem cat_len (ll : List (List Nat)) : (cat ll).length ≤ 50 * ll.length := by
  induction ll with
  | nil => simp [cat]
  | cons b ll ih =>
    unfold cat at ih ⊢
    by_cases h5 : b.length ≤ 50
    · simp [h5] at ih ⊢
      omega
    · simp [h5] at ih ⊢
      omega
abbrev st (l : List Nat) : Pd := ⟨2000, l, 0, false, 0, false⟩
theorem st_app (l b : List Nat) (h : l.length + b.length ≤ 2000) : (st l).app b = (st (l ++ b), 0) := by
  unfold Pd.app
  rw [if_neg (by simp), if_neg (by show ¬ 2000 - l.length < b.length; omega)]
  rfl
theorem st_cut (l : List Nat) (k : Nat) (h : k ≤ l.length) : (st l).cut (k : Int) = (⟨2000, l.take k, k, false, 0, false⟩, 0) := by
  unfold Pd.cut
  rw [if_neg (by simp), if_neg (by show ¬ ((k : Int) < 0 ∨ (l.length : Int) < (k : Int)); omega)]
  unfold Pd.op
  rw [if_neg (by simp)]
  rfl
theorem st_crash (l : List Nat) (k : Nat) (h : l.length = k) : (Pd.crash ⟨2000, l, k, false, 0, false⟩ 1073741824).read = (l, 0) := by
  show (l.take _, 0) = (l, 0)
  rw [List.take_of_length_le]
  unfold Pd.kept
  show l.length ≤ k + _
  omega

set_option maxRecDepth 100000 in
set_option maxHeartbeats 4000000 in
theorem walk (w : World) (a0 : Option Addr) (n0 c0 : Nat) (a1 : Int) (w0 : ∃ ll : List (List Nat), BRows w a0 n0 c0 ll) (w1 : (Lit.int .u16 a1).wf = true) :
    Calls Try.prog 10 #[.slice a0 n0 c0, .int .u16 a1] w fun e w' => e = .returned (.bool true) ∧ Below w.heap.size w w' := by
  obtain ⟨ll, hr⟩ := w0
  obtain ⟨m, rfl, hm⟩ := wf_u16 w1
  have hll := hr.len
  have HR := Lib.hid hr
  clear hr w1
  go_enter Try.func10, Try.ntmps10
  go_wp2_with fail
  refine (new_any 2000 (by omega) w).mono ?_
  rintro e w1 ⟨rfl, hd1, hb1⟩
  obtain ⟨p, hp⟩ : ∃ p, p = w.heap.size := ⟨_, rfl⟩
  have hd1 : Dk w1 w.heap.size p none (.new 2000) := by rw [hp]; exact hd1
  rw [← hp]
  have HP := Lib.hid hp
  clear hp
  go_wp2_with fail
  refine (new_any 2000 (by omega) w1).mono ?_
  rintro e w2 ⟨rfl, hd2, hb2⟩
  have hd1' := hd1.below hb2
  have hd2' := hd2.mono hb1.size
  have hpq : p ≠ w1.heap.size := by have := hd1.lt; omega
  have hside : Beside w2 w.heap.size p none (st []) (.slice none 0 0) [] := ⟨hd1', Own.nil _ _, fun g e => by cases e⟩
  have hb : Below w.heap.size w w2 := nxt hb1 hb2
  have hq2 : Dk w2 w.heap.size w1.heap.size none (st []) := hd2'
  generalize w1.heap.size = q at *
  clear hd1 hd1' hd2 hd2' hb1 hb2
  go_wp2_with fail
  go_loopw [9, 10] (fun v i wr => ∃ (j : Nat) (r : Option Nat), j ≤ n0 ∧ j ≤ 20 ∧ i = .int .i64 (j : Int) ∧ Beside wr w.heap.size p r (st (cat (ll.take j))) v (cat (ll.take j)) ∧ Dk wr w.heap.size q none (st []) ∧ Below w.heap.size w wr) (fun _ i _ => n0 - (intOf i).toNat)
  case atStart => exact ⟨0, none, Nat.zero_le _, Nat.zero_le _, rfl, hside, hq2, hb⟩
  case round =>
    obtain ⟨j, r, hj, hj20, rfl, hbs, hdq, hbr⟩ := hrel
    obtain ⟨Av, cv, rfl, hcv, -, hav, -, -⟩ := id hbs.own.form
    by_cases hgo : j < n0 ∧ j < 20
    · obtain ⟨hlt, h20⟩ := hgo
      have t1 : decide ((j : Int) < (n0 : Int)) = true := decide_eq_true (by omega)
      have t2 : decide ((j : Int) < 20) = true := decide_eq_true (by omega)
      · obtain ⟨b, o, A, k, rfl, c0, hpc⟩ := HR.out.at hbr j hlt
        have HC := Lib.hid (cat_step ll j (by omega))
        by_cases h50 : 50 < (ll.getD j []).length
        · have t3 : decide ((50 : Int) < ((ll.getD j []).length : Int)) = true := decide_eq_true (by omega)
          have HC' : Hid (cat (ll.take (j + 1)) = cat (ll.take j)) := HC.out.trans (if_neg (by omega))
          generalize ll.getD j [] = x at *
          go_wp2_with fail
          go_roundw
          case rel =>
            refine ⟨j + 1, r, by omega, by omega, by go_num, ?_, hdq, hbr⟩
            rw [HC'.out]
            exact hbs
          case measure => simp [intOf]; omega
        · have t3 : decide ((50 : Int) < ((ll.getD j []).length : Int)) = false := decide_eq_false (by omega)
          have HC' : Hid (cat (ll.take (j + 1)) = cat (ll.take j) ++ ll.getD j []) := HC.out.trans (if_pos (by omega))
          have hlen : (cat (ll.take j)).length ≤ 1000 := by
            have := cat_len (ll.take j)
            rw [List.length_take] at this
            omega
          have HA := Lib.hid (st_app (cat (ll.take j)) (ll.getD j []) (by omega))
          generalize hx : ll.getD j [] = x at *
          have HX := Lib.hid hx
          clear hx
          generalize cat (ll.take j) = z at *
          go_wp2_with fail
          refine (append_any _ x hbs.dk hpc).mono ?_
          rintro e w3 ⟨rfl, ha3⟩
          rw [HA.out] at ha3 ⊢
          obtain ⟨r3, hbs3, hk3⟩ := hbs.disk ha3
          have hb3 := hbs.dk.low hk3
          have hbr3 := hbr.trans hb3
          obtain ⟨uq, hcq⟩ := hdq.blk
          have hdq3 := hdq.other hk3 hpq.symm (hbs.dk.row_ne hcq (by decide)) (by simp) (by simp)
          obtain ⟨b', o', A', k', e', c0', hpc'⟩ := HR.out.at hbr3 j hlt
          obtain ⟨rfl, rfl⟩ : b = b' ∧ o = o' := by simpa using e'
          rw [HX.out] at c0' hpc'
          obtain ⟨-, hk', ha', -⟩ := hpc'.parts
          have hzl : z.length ≤ 1000 := hlen
          clear c0 hpc hdq hcq hk3 ha3 hbs hb3 e' hbr uq
          have hwb := hbs3.dk.base_le
          go_wp2_with (at_builtin
                       refine wpList_app rfl (.tmp 51) (.tmp 55) rfl rfl hbs3.own rfl ha' rfl (by omega) hwb ?_
                       intro v4 w4 hown4 hb4 hg4 hr4)
          obtain ⟨uq, hcq⟩ := hdq3.blk
          have hbs4 := hbs3.row hown4 hg4 hr4
          have hdq4 := hdq3.grown hg4 (own_ne hbs3.own hcq (by decide)) (by simp)
          go_roundw
          case rel =>
            refine ⟨j + 1, r3, by omega, by omega, by go_num, ?_, hdq4, hbr3.trans hb4⟩
            rw [HC'.out]
            exact hbs4
          case measure => simp [intOf]; omega
    · have hlen : (cat (ll.take j)).length ≤ 1000 := by
        have := cat_len (ll.take j)
        rw [List.length_take] at this
        omega
      have h8 := hbs.dk.ok.byte
      have hvz := Bs.of_own hbs.own h8
      have HA := Lib.hid (st_app [] (cat (ll.take j)) (by simp; omega))
      rw [List.nil_append] at HA
      have hbr0 := hbr
      generalize cat (ll.take j) = z at *
      obtain ⟨k, hk⟩ : ∃ k : Nat, k = m % (z.length + 1) := ⟨_, rfl⟩
      have hkl : k ≤ z.length := by have := Nat.mod_lt m (show 0 < z.length + 1 by omega); omega
      have s0 : IntKind.i64.wrap (m : Int) = (m : Int) := by rw [IntKind.wrap_i64]; omega
      have s1 : IntKind.i64.wrap ((z.length : Int) + 1) = ((z.length + 1 : Nat) : Int) := by rw [IntKind.wrap_i64]; omega
      have s2 : (m : Int) % ((z.length : Int) + 1) = (k : Int) := by rw [hk]; rfl
      have s3 : IntKind.i64.wrap (k : Int) = (k : Int) := by rw [IntKind.wrap_i64]; omega
      have s4 : (((z.length + 1 : Nat) : Int) == 0) = false := beq_eq_false_iff_ne.2 (by omega)
      have HC := Lib.hid (st_cut z k hkl)
      have HX := Lib.hid (st_crash (z.take k) k (by simp; omega))
      have hpre := (Own.pre hbs.own rfl k hkl).1
      obtain ⟨uq, hcq⟩ := hdq.blk
      have hvq := own_ne hbs.own hcq (by decide)
      have hrq := hbs.dk.row_ne hcq (by decide)
      have hex : (¬ j < n0 ∧ decide ((j : Int) < (n0 : Int)) = false) ∨ j = 20 := by
        by_cases h : j < n0
        · exact .inr (by omega)
        · exact .inl ⟨h, decide_eq_false (by omega)⟩
      clear hk hgo h8 hcq hpre
      rcases hex with ⟨h0, t1⟩ | rfl
      all_goals go_wp2_with fail
      all_goals
        refine (append_any _ z hdq hvz).mono ?_
        rintro e w3 ⟨rfl, ha3⟩
        rw [HA.out] at ha3 ⊢
        obtain ⟨rq, hdq3, hk3, hrw3⟩ := ha3
        have hbr3 := hbr0.trans (hdq.low hk3)
        have hbs3 : Beside w3 w.heap.size p r (st z) (.slice Av z.length cv) z := ⟨hbs.dk.other hk3 hpq (by simp) hrq (by simp), own_kr hbs.own hk3 hvq (by simp), hbs.sep⟩
        clear hk3 hrw3 hbs hvz hdq hav
        go_wp2_with fail
        refine (alike_any hbs3.dk hdq3 rfl rfl rfl).mono ?_
        rintro e w4 ⟨rfl, hb4⟩
        have hbs4 := hbs3.below hb4
        have hbr4 := nxt hbr3 hb4
        clear hbs3 hdq3 hb4 hbr3
        go_wp2_with fail
        refine (cut_any k (by omega) (by omega) hbs4.dk).mono ?_
        rintro e w5 ⟨rfl, ha5⟩
        rw [HC.out] at ha5 ⊢
        obtain ⟨r5, hbs5, hk5⟩ := hbs4.disk ha5
        have hbr5 := hbr4.trans (hbs4.dk.low hk5)
        clear ha5 hk5 hbs4 hbr4
        go_wp2_with fail
        refine (crash_any 1073741824 (by omega) (by omega) hbs5.dk).mono ?_
        rintro e w6 ⟨rfl, ha6⟩
        obtain ⟨r6, hbs6, hk6⟩ := hbs5.disk ha6
        have hbr6 := hbr5.trans (hbs5.dk.low hk6)
        clear ha6 hk6 hbs5 hbr5
        go_wp2_with fail
        refine (read_any hbs6.dk).mono ?_
        rintro e w7 ⟨v7, rfl, -, hv7, hb7⟩
        rw [HX.out] at hv7 ⊢
        have hbs7 := hbs6.below hb7
        have hbr7 := nxt hbr6 hb7
        have hpre7 := (Own.pre hbs7.own rfl k hkl).1
        have hpv := Bs.of_own hpre7 hv7.2
        obtain ⟨⟨A7, c7, rfl, -, -⟩, -⟩ := id hv7
        have e7 : (z.take k).length = k := by simp; omega
        rw [e7] at hv7 ⊢
        clear hb7 hbs6 hbr6 hpre7
        go_wp2_with fail
        refine (same_bs _ _ _ _ true _ hv7 hpv (by simp)).mono ?_
        rintro e wx ⟨rfl, rfl⟩
        go_wp2_with fail
        refine (awake_any _).mono ?_
        rintro e w8 ⟨rfl, hb9⟩
        go_wp2_with fail
        go_ret
        exact ⟨rfl, nxt hbr7 hb9⟩

set_option maxRecDepth 100000 in
theorem lifted (os : Os) (started : os.Started) (H : Type) (enc : TypeId × Value → H) :
    ReturnsInHanded {} Try.checked os 10 .any (Rows.diskJoinSpec.pre6 enc Try.prog Try.f10 Rows.diskJoinRow.domain false) (Rows.diskJoinSpec.post enc Try.prog Try.f10 false true false false) := by
  refine returnsInHanded_of_change (C := Try.checked) knob_own started (by kernel_rfl) Try.func10
    (ChangeSpec.witness6 (enc := enc) (C := Try.checked) false ⟨#[], #[.slice none 0 0, .int .u16 0], []⟩ 8 (by kernel_rfl) (by kernel_rfl) (by kernel_rfl) (by kernel_rfl)) ?_
  intro W base args ds gs before hval0 hW hcnd _
  have hval : ∀ (j : Nat) t v, Try.f10.params[j]? = some t → args[j]? = some v → Value.okWide Try.prog W .any base t v := hval0
  have hW' := hW
  obtain ⟨p, q, hA0, hV, rfl, hfz, hnd⟩ := hW
  have hA : DataW.TrodAll enc Try.prog W 0 (fun _ => true) true Try.f10.params.toList args.toList ds p := hA0
  rw [Try.params10] at hA hval
  obtain ⟨v0, vs0, d0, ds0, p0, q0, hargs, rfl, rfl, h0, r0⟩ := trodAll_cons hA
  obtain ⟨v1, vs1, d1, ds1, p1, q1, rfl, rfl, rfl, h1, r1⟩ := trodAll_cons r0
  obtain ⟨rfl, rfl, rfl⟩ := trodAll_nil r1
  obtain rfl : args = #[v0, v1] := by cases args; simp_all
  obtain ⟨rfl, rfl⟩ := trodVars_none hV
  obtain ⟨a0, n0, c0, rfl⟩ := okWide_slice Try.underlying52 (hval 0 52 v0 rfl rfl)
  have k0 := h0
  have lt0 : ∀ x ∈ p0, x.block < W.heap.size := by obtain ⟨m, hm⟩ := k0; exact DataW.trod_lt m _ _ _ hm
  have w0 := brows_open h0
  have lt1 : ∀ x ∈ p1, x.block < W.heap.size := by obtain ⟨m, hm⟩ := h1; exact DataW.trod_lt m _ _ _ hm
  have k1 := h1
  obtain ⟨a1, rfl, _, _, w1⟩ := open_int Try.underlying62 (hval 1 62 v1 rfl rfl) h1
  clear hA0 hval0
  refine (walk W a0 n0 c0 a1 w0 w1).mono fun e W' ⟨he, bel⟩ => ?_
  subst he
  exact ⟨_, rfl, _, _, _, [], _, [], hW', trodAll_mk1 (shut_bool Try.underlying4 _), (trodAll_cons_mk (Below.trod laid_out (by kernel_rfl) (of_decide_eq_true (by kernel_rfl)) k0 bel lt0) (trodAll_cons_mk (Below.trod laid_out (by kernel_rfl) (of_decide_eq_true (by kernel_rfl)) k1 bel lt1) (trodAll_mk0))), rfl, bel.frame _, fun h => by cases h⟩

theorem over : Rows.diskJoinRow.holds Try.pinned (OpenSpec.ofChange Rows.diskJoinSpec) :=
  OpenClaim.holds_of_wide 10 Try.f10 rfl rfl rfl rfl rfl rfl rfl ⟨rfl, rfl, rfl, rfl, rfl⟩ rfl rfl rfl rfl rfl (by kernel_rfl) Try.func10 (by kernel_rfl)
    (of_decide_eq_true (by kernel_rfl)) (by unfold Func.isWrapper; first | (rw [if_pos (by decide +kernel)]; kernel_rfl) | (rw [if_neg (by decide +kernel)]; exact ⟨rfl, rfl⟩))
    (fun os started H enc _ => lifted os started H enc)

theorem proved : Rows.DiskJoinSaid := over
end Go.Proofs.Ytmjgoeigjjabmaa.diskJoin
