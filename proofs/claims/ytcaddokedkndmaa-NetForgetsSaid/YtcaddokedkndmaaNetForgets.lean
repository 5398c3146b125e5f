/- droverlaw06.NetForgets returns true whatever its arguments: Forget takes just what is on its way to a node, and tells how many; all others stay, in order. For every input, without conditions. -/
import Derived.Test.YtcaddokedkndmaaRow
import Derived.Test.YtcaddokedkndmaaNf
import Derived.Test.YtcaddokedkndmaaNk
namespace Go.Proofs.Ytcaddokedkndmaa.netForgets
open Go.ChangeShapes Go.WideShapes Go.ChangeAt Go.RowKit
set_option linter.unusedVariables false

theorem wsub (j k : Nat) (h : k ≤ j) (h2 : j ≤ 40) : wrap64 ((j : Int) - (k : Int)) = ((j - k : Nat) : Int) := by
  rw [IntWalk.wrap64_in _ ⟨by omega, by omega⟩]
  omega
theorem wadd (p q : Nat) (h : p + q ≤ 40) : wrap64 ((p : Int) + (q : Int)) = (p : Int) + (q : Int) := IntWalk.wrap64_in _ ⟨by omega, by omega⟩
theorem wadd3 (p q s k : Nat) (h : p + q + s = k) (h2 : k ≤ 40) : wrap64 ((p : Int) + (q : Int) + (s : Int)) = (k : Int) := by
  rw [IntWalk.wrap64_in _ ⟨by omega, by omega⟩]
  omega
theorem wfoot (k k1 k2 p1 p2 : Nat) (q1 : k1 ≤ k) (q2 : k2 ≤ k1) (h40 : k ≤ 40) (hp1 : k - k1 = p1) (hp2 : k1 - k2 = p2) : wrap64 ((p1 : Int) + (p2 : Int)) = (p1 : Int) + (p2 : Int) ∧ wrap64 ((p1 : Int) + (p2 : Int) + (k2 : Int)) = (k : Int) :=
  ⟨wadd p1 p2 (by omega), wadd3 p1 p2 k2 k (by omega) h40⟩

set_option maxRecDepth 100000 in
set_option maxHeartbeats 4000000 in
theorem walk (w : World) (a0 : Option Addr) (n0 c0 : Nat) (a1 : Int) (w0 : ∃ l, l.length = n0 ∧ n0 ≤ c0 ∧ c0 ≤ maxLen ∧ Grams w w.heap.size a0 l) (w1 : (Lit.int .i64 a1).wf = true) :
    Calls Try.prog 8 #[.slice a0 n0 c0, .int .i64 a1] w fun e w' => e = .returned (.bool true) ∧ Below w.heap.size w w' := by
  obtain ⟨l, hl, hc, hcm, hg⟩ := w0
  have HF := Lib.hid (filled_any a0 n0 c0 hl hc hcm hg)
  clear hl hc hcm hg
  go_enter Try.func8, Try.ntmps8
  go_wp2_with fail
  refine HF.out.mono ?_
  rintro e w1 ⟨v, r, rfl, hn1, hG1, hb1⟩
  obtain ⟨L, hL⟩ : ∃ L, L = fl (l.take 40) := ⟨_, rfl⟩
  have hmem := fl_mem (l.take 40)
  have hlen := fl_len (l.take 40)
  rw [List.length_take] at hlen
  rw [← hL] at hn1 hG1 hmem hlen
  clear hL
  obtain ⟨A, c, rfl, hc, hcm⟩ := hG1.slice
  unfold maxLen at hcm
  obtain ⟨m, hm⟩ : ∃ m, Hid (L.length = m) := ⟨_, Lib.hid rfl⟩
  rw [hm.out] at hc hlen
  have hm40 : m ≤ 40 := by omega
  have HV := Lib.hid hG1
  rw [show (Value.slice A L.length c) = .slice A m c by rw [hm.out]] at HV ⊢
  have HM := Lib.hid hmem
  clear hmem hG1 hlen
  go_wp2_with fail
  have hW1 := hb1.size
  go_loopw [8, 9] (fun vr i wr => ∃ j : Nat, j ≤ m ∧ i = .int .i64 (j : Int) ∧ Below w1.heap.size w1 wr ∧ Hid (GR wr w.heap.size vr (rest (L.take j) a1)) ∧ Hid (New w1 vr)) (fun _ i _ => m - (intOf i).toNat)
  case atStart => exact ⟨0, by omega, rfl, Below.refl _ _, Lib.hid (by simpa [rest] using GR.nil _ _), Lib.hid (New.nil _)⟩
  case round =>
    obtain ⟨j, hj, rfl, hbr, HR, HW⟩ := hrel
    by_cases hlt : j < m
    · have hjl : j < L.length := by have := hm.out; omega
      obtain ⟨x, hx⟩ : ∃ x, Hid (L[j]? = some x) := ⟨L[j], Lib.hid (List.getElem?_eq_getElem hjl)⟩
      have hGa := HV.out.below hbr
      obtain ⟨g, u, rfl, t0, t1, t2, hbx⟩ := hGa.cell hx.out
      have hrs := rest_snoc L a1 j x hx.out
      have hu1 : u.oneCell' = true := by obtain ⟨⟨A', c', rfl, -⟩, -⟩ := hbx; rfl
      have hgr := (hGa.blk (g := g) rfl).2.1
      have HBX := Lib.hid hbx
      clear hjl hGa hbx
      by_cases hto : x.to = a1
      · rw [if_pos hto, List.append_nil] at hrs
        have d1 : (x.to != a1) = false := by simp [hto]
        clear hto
        go_wp2_with fail
        go_roundw
        case rel => exact ⟨j + 1, by omega, by go_num, hbr, by rw [hrs]; exact HR, HW⟩
        case measure => simp [intOf]; omega
      · rw [if_neg hto] at hrs
        have d1 : (x.to != a1) = true := by simp [hto]
        clear hto
        obtain ⟨Ar, cr, rfl, hcr, hcmr⟩ := HR.out.slice
        have hrl := rest_len (L.take j) a1
        rw [List.length_take, hm.out] at hrl
        obtain ⟨k, hk⟩ : ∃ k, Hid ((rest (L.take j) a1).length = k) := ⟨_, Lib.hid rfl⟩
        rw [show (Value.slice Ar (rest (L.take j) a1).length cr) = .slice Ar k cr by rw [hk.out]] at HR HW ⊢
        have hk2 := hk.out
        rw [hk2] at hcr hrl
        unfold maxLen at hcmr
        clear hk2
        have hbA := (Below.refl wr.heap.size wr).alloc (Nat.le_refl _) (.cells #[.int .i64 x.fr, .int .i64 x.to, u] 29)
        have hbB := nxt hbr hbA
        have hRA := Lib.hid (HR.out.below hbA)
        have hat := gm_at wr (.int .i64 x.fr) (.int .i64 x.to) u
        have HCS := Lib.hid (Gcs.one (x := x) (HBX.out.below hbA))
        have H1 := Lib.hid (gm_ones (y0 := .int .i64 x.fr) (y1 := .int .i64 x.to) rfl rfl hu1)
        have hsz := hbr.size
        clear hbr hbA hu1
        go_wp2_with (at_builtin
                     refine wpList_gr rfl (.tmp 32) (.tmp 37) rfl rfl hRA.out rfl hat rfl HCS.out rfl H1.out (by have := hk.out; omega) (by simp; omega) ?_
                     intro v10 w10 hG10 hg10 hr10 hn10)
        rw [← hrs] at hG10
        have hb10 : Below w1.heap.size w1 w10 := below_row hbB hg10 (by simp; omega) (fun g hg => HW.out g hg)
        have hW10 := HW.out.grown (by simp; omega) hn10
        clear hg10 hr10 hn10 hat hbB
        go_wp2_with fail
        go_roundw
        case rel => exact ⟨j + 1, by omega, by go_num, hb10, Lib.hid hG10, Lib.hid hW10⟩
        case measure => simp [intOf]; omega
    · obtain rfl : j = m := by omega
      rw [List.take_of_length_le (by have := hm.out; omega)] at HR
      obtain ⟨Ar, cr, rfl, hcr, hcmr⟩ := HR.out.slice
      have hrl := rest_len L a1
      rw [hm.out] at hrl
      obtain ⟨k, hk⟩ : ∃ k, Hid ((rest L a1).length = k) := ⟨_, Lib.hid rfl⟩
      have hk2 := hk.out
      rw [show (Value.slice Ar (rest L a1).length cr) = .slice Ar k cr by rw [hk.out]] at HR ⊢
      rw [hk2] at hcr hrl
      unfold maxLen at hcmr
      clear hk2 HW
      have hnr := hn1.below hbr
      have hb := hb1.trans (hbr.mono hb1.size)
      clear hn1 hb1 hbr HV
      go_wp2_with fail
      refine (forget_any hnr a1).mono ?_
      rintro e w2 ⟨rfl, ha2⟩
      have hR2 := HR.out.aft hnr ha2
      have hb2 := hb.trans (ha2.low hnr)
      obtain ⟨r2, hn2, -, -⟩ := ha2
      rw [show L.length - (rest L a1).length = j - k by rw [hm.out, hk.out]]
      have e1 := wsub j k hrl hm40
      have d1 : (((j - k : Nat) : Int) != ((j - k : Nat) : Int)) = false := bne_eq_false_iff_eq.2 rfl
      clear hnr hb
      go_wp2_with fail
      refine (holds_any hn2 hR2).mono ?_
      rintro e w3 ⟨rfl, hb3⟩
      replace hn2 := hn2.below hb3
      replace hb2 := nxt hb2 hb3
      clear hb3 hR2
      go_wp2_with fail
      refine (forget_any hn2 a1).mono ?_
      rintro e w4 ⟨rfl, ha4⟩
      rw [rest_rest, Nat.sub_self]
      rw [rest_rest] at ha4
      replace hb2 := hb2.trans (ha4.low hn2)
      obtain ⟨r4, hn4, -, -⟩ := ha4
      clear hn2
      go_wp2_with fail
      refine (forget_any hn4 0).mono ?_
      rintro e w5 ⟨rfl, ha5⟩
      replace hb2 := hb2.trans (ha5.low hn4)
      obtain ⟨r5, hn5, -, -⟩ := ha5
      go_wp2_with fail
      refine (forget_any hn5 1).mono ?_
      rintro e w6 ⟨rfl, ha6⟩
      replace hb2 := hb2.trans (ha6.low hn5)
      obtain ⟨r6, hn6, -, -⟩ := ha6
      go_wp2_with fail
      refine (forget_any hn6 2).mono ?_
      rintro e w7 ⟨rfl, ha7⟩
      replace hb2 := hb2.trans (ha7.low hn6)
      obtain ⟨r7, hn7, -, -⟩ := ha7
      have hnil := rest_all (rest L a1) (fun x hx => (HM.out x (rest_mem L a1 hx)).2.1)
      rw [hnil] at hn7 ⊢
      have q1 := rest_len (rest L a1) 0
      have q2 := rest_len (rest (rest L a1) 0) 1
      rw [hk.out] at q1 ⊢
      generalize (rest (rest L a1) 0).length = k1 at q1 q2 ⊢
      generalize (rest (rest (rest L a1) 0) 1).length = k2 at q2 ⊢
      clear hn4 hn5 hn6 hnil HM
      rw [show k2 - ([] : List Gr).length = k2 from rfl]
      obtain ⟨p1, hp1⟩ : ∃ p, k - k1 = p := ⟨_, rfl⟩
      obtain ⟨p2, hp2⟩ : ∃ p, k1 - k2 = p := ⟨_, rfl⟩
      rw [hp1, hp2]
      obtain ⟨e2, e3⟩ := wfoot k k1 k2 p1 p2 q1 q2 (Nat.le_trans hrl hm40) hp1 hp2
      clear hp1 hp2 q1 q2 hrl hm40 hcr hcmr hc hcm d1 e1
      go_wp2_with fail
      refine (flying_any hn7).mono ?_
      rintro e w8 ⟨rfl, rfl⟩
      rw [show ([] : List Gr).length = 0 from rfl]
      go_wp2_with fail
      refine (awake06_any _).mono ?_
      rintro e w9 ⟨rfl, hb9⟩
      go_wp2_with fail
      go_ret
      exact ⟨rfl, nxt hb2 hb9⟩

set_option maxRecDepth 100000 in
theorem lifted (os : Os) (started : os.Started) (H : Type) (enc : TypeId × Value → H) :
    ReturnsInHanded {} Try.checked os 8 .any (Rows.netForgetsSpec.pre6 enc Try.prog Try.f8 Rows.netForgetsRow.domain false) (Rows.netForgetsSpec.post enc Try.prog Try.f8 false true false false) := by
  refine returnsInHanded_of_change (C := Try.checked) knob_own started (by kernel_rfl) Try.func8
    (ChangeSpec.witness6 (enc := enc) (C := Try.checked) false ⟨#[], #[.slice none 0 0, .int .i64 0], []⟩ 8 (by kernel_rfl) (by kernel_rfl) (by kernel_rfl) (by kernel_rfl)) ?_
  intro W base args ds gs before hval0 hW hcnd _
  have hval : ∀ (j : Nat) t v, Try.f8.params[j]? = some t → args[j]? = some v → Value.okWide Try.prog W .any base t v := hval0
  have hW' := hW
  obtain ⟨p, q, hA0, hV, rfl, hfz, hnd⟩ := hW
  have hA : DataW.TrodAll enc Try.prog W 0 (fun _ => true) true Try.f8.params.toList args.toList ds p := hA0
  rw [Try.params8] at hA hval
  obtain ⟨v0, vs0, d0, ds0, p0, q0, hargs, rfl, rfl, h0, r0⟩ := trodAll_cons hA
  obtain ⟨v1, vs1, d1, ds1, p1, q1, rfl, rfl, rfl, h1, r1⟩ := trodAll_cons r0
  obtain ⟨rfl, rfl, rfl⟩ := trodAll_nil r1
  obtain rfl : args = #[v0, v1] := by cases args; simp_all
  obtain ⟨rfl, rfl⟩ := trodVars_none hV
  obtain ⟨a0, n0, c0, rfl⟩ := okWide_slice Try.underlying38 (hval 0 38 v0 rfl rfl)
  have k0 := h0
  have lt0 : ∀ x ∈ p0, x.block < W.heap.size := by obtain ⟨m, hm⟩ := k0; exact DataW.trod_lt m _ _ _ hm
  have w0 := grams_open h0
  have lt1 : ∀ x ∈ p1, x.block < W.heap.size := by obtain ⟨m, hm⟩ := h1; exact DataW.trod_lt m _ _ _ hm
  have k1 := h1
  obtain ⟨a1, rfl, _, _, w1⟩ := open_int Try.underlying3 (hval 1 3 v1 rfl rfl) h1
  clear hA0 hval0
  refine (walk W a0 n0 c0 a1 w0 w1).mono fun e W' ⟨he, bel⟩ => ?_
  subst he
  exact ⟨_, rfl, _, _, _, [], _, [], hW', trodAll_mk1 (shut_bool Try.underlying4 _), (trodAll_cons_mk (Below.trod laid_out (by kernel_rfl) (of_decide_eq_true (by kernel_rfl)) k0 bel lt0) (trodAll_cons_mk (Below.trod laid_out (by kernel_rfl) (of_decide_eq_true (by kernel_rfl)) k1 bel lt1) (trodAll_mk0))), rfl, bel.frame _, fun h => by cases h⟩

theorem over : Rows.netForgetsRow.holds Try.pinned (OpenSpec.ofChange Rows.netForgetsSpec) :=
  OpenClaim.holds_of_wide 8 Try.f8 rfl rfl rfl rfl rfl rfl rfl ⟨rfl, rfl, rfl, rfl, rfl⟩ rfl rfl rfl rfl rfl (by kernel_rfl) Try.func8 (by kernel_rfl)
    (of_decide_eq_true (by kernel_rfl)) (by unfold Func.isWrapper; first | (rw [if_pos (by decide +kernel)]; kernel_rfl) | (rw [if_neg (by decide +kernel)]; exact ⟨rfl, rfl⟩))
    (fun os started H enc _ => lifted os started H enc)

theorem proved : Rows.NetForgetsSaid := over
end Go.Proofs.Ytcaddokedkndmaa.netForgets
