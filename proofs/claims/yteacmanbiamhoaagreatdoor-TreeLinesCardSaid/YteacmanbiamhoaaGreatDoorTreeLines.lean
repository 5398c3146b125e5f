/- droverlaw09.TreeLines returns true whatever its arguments: a statement stands in the line where it begins. For every input, without conditions. -/
import Derived.Test.YteacmanbiamhoaaGreatDoorRow
import Derived.Test.YteacmanbiamhoaaGreatDoorZf
import Derived.Test.YteacmanbiamhoaaGreatDoorDoor09
import Derived.Test.YteacmanbiamhoaaGreatDoorCards
import Derived.SevenTiedAt
import Derived.Test.YteacmanbiamhoaaGreatDoorRe
import Derived.Deep.LoopGhost
namespace Go.Proofs.YteacmanbiamhoaaGreatDoor.treeLines
open Go.ChangeShapes Go.WideShapes Go.ChangeAt Go.RowKit
set_option linter.unusedVariables false

theorem rets_at : ∀ (m ln j : Nat), j < m → (retsS ln m)[j]? = some (retS (ln + j))
  | 0, ln, j, h => absurd h (by omega)
  | m + 1, ln, 0, h => by rw [retsS]; rfl
  | m + 1, ln, j + 1, h => by
    rw [retsS, List.getElem?_cons_succ, rets_at m (ln + 1) j (by omega), Nat.add_assoc, Nat.add_comm 1 j]
theorem tl_8 {T : List Nat} (h : ∀ x ∈ T, x < 256) : ∀ n, ∀ x ∈ repN T n, x < 256
  | 0, x, hx => by simp [repN] at hx
  | n + 1, x, hx => by
    rw [repN] at hx
    rcases List.mem_append.1 hx with hx | hx
    · exact h x hx
    · exact tl_8 h n x hx
theorem tlT_8 (n m : Nat) : (∀ x ∈ tlT n m, x < 256) ∧ ∀ x ∈ tlU n m, x < 256 := by
  have h1 := tl_8 (T := [10]) (by decide) n
  have h2 := tl_8 (T := retB) (by decide) m
  have h3 : ∀ x ∈ fnB, x < 256 := by decide
  have h4 : ∀ x ∈ letB, x < 256 := by decide
  unfold tlT tlU
  simp only [List.mem_append]
  refine ⟨?_, ?_⟩
  · rintro x (hx | hx | hx | hx)
    · exact h1 x hx
    · exact h3 x hx
    · exact h2 x hx
    · simp at hx; omega
  · rintro x (hx | hx | hx | hx)
    · exact h1 x hx
    · exact h3 x hx
    · exact h2 x hx
    · exact h4 x hx
/-- What TreeLines' program reads as. -/
theorem tlG_rd {w : World} {S : Nat → Prop} {n m : Nat} {v : Value} (hS : ∀ b, S b → b < w.heap.size) (h : Rd w S (tlG n m).nd v) : ∃ b1 o1 c1 A2 n2 c2 A3 c3, v = .agg #[.slice (some ⟨b1, o1, none⟩) 1 c1, .slice A2 n2 c2] ∧ 1 ≤ c1 ∧ b1 < w.heap.size ∧
    w.cell? ⟨b1, o1 + 2, none⟩ = some (.slice A3 m c3) ∧ w.cell? ⟨b1, o1 + 3, none⟩ = some (.int .i64 ((n : Int) + 1)) ∧ m ≤ c3 ∧ c3 ≤ maxLen ∧
    ∀ j, j < m → ∃ b2 o2 a0 a1 a2 a3 a4, A3 = some ⟨b2, o2, none⟩ ∧ b2 < w.heap.size ∧ w.cell? ⟨b2, o2 + j * 6, none⟩ = some a0 ∧ w.cell? ⟨b2, o2 + j * 6 + 1, none⟩ = some a1 ∧ w.cell? ⟨b2, o2 + j * 6 + 2, none⟩ = some a2 ∧ w.cell? ⟨b2, o2 + j * 6 + 3, none⟩ = some a3 ∧ w.cell? ⟨b2, o2 + j * 6 + 4, none⟩ = some a4 ∧ w.cell? ⟨b2, o2 + j * 6 + 5, none⟩ = some (.int .i64 ((n : Int) + 2 + (j : Int))) ∧ (∃ k, a0 = .int .u8 k) ∧ (∃ s, a1 = .string s) ∧ (∃ A n c, a2 = .slice A n c) ∧ (∃ A n c, a3 = .slice A n c) ∧ ∃ A n c, a4 = .slice A n c := by
  obtain ⟨y, z, rfl, hy, hz⟩ := (Pg.rd _ _).1 h
  obtain ⟨A2, n2, c2, rfl⟩ := hz.rowf
  obtain ⟨b1, o1, c1, vs1, rfl, hS1, hc1, hl1, hr1, hx1⟩ := row_head hy
  obtain ⟨u1, u2, e1, -, -, -, hu2⟩ := (hd_rd _ _ _ _ _ _).1 hx1
  obtain rfl := bx4v e1
  rw [Rd] at hu2
  obtain ⟨A3, c3, rfl, h3, h4, h5⟩ := hu2
  have hlen : ((retsS (n + 2) m).map Sm.nd).length = m := by rw [List.length_map, rets_len]
  rw [hlen] at h3 hr1
  have q3 := hr1 3 _ rfl
  rw [show (((n + 1 : Nat)) : Int) = (n : Int) + 1 by omega] at q3
  refine ⟨b1, o1, c1, A2, n2, c2, A3, c3, rfl, hc1, hS _ hS1, hr1 2 _ rfl, q3, h3, h4, fun j hj => ?_⟩
  obtain ⟨b2, o2, vs, rfl, hSb, hvl, hrg, hx⟩ := h5.at j (Sm.nd (retS (n + 2 + j))) (by rw [List.getElem?_map, rets_at m (n + 2) j hj]; rfl)
  unfold retS at hx
  obtain ⟨t2, t3, t4, e2, -, -, q1, q2, q3⟩ := (Sm.rd _ _ _ _ _ _ _).1 hx
  obtain rfl := bx6v e2
  rw [Nat.zero_add] at hrg
  obtain ⟨A4, n4, c4, rfl⟩ := q1.rowf
  obtain ⟨A5, n5, c5, rfl⟩ := q2.rowf
  obtain ⟨A6, n6, c6, rfl⟩ := q3.rowf
  have r5 := hrg 5 _ rfl
  rw [show (((n + 2 + j : Nat)) : Int) = (n : Int) + 2 + (j : Int) by omega] at r5
  exact ⟨b2, o2, _, _, _, _, _, rfl, hS _ hSb, hrg 0 _ rfl, hrg 1 _ rfl, hrg 2 _ rfl, hrg 3 _ rfl, hrg 4 _ rfl, r5, ⟨_, rfl⟩, ⟨_, rfl⟩, ⟨_, _, _, rfl⟩, ⟨_, _, _, rfl⟩, ⟨_, _, _, rfl⟩⟩

set_option maxRecDepth 100000 in
set_option maxHeartbeats 8000000 in
theorem walk (w : World) (htab : W9 w) (a0 : Int) (a1 : Int) (w0 : (Lit.int .u8 a0).wf = true) (w1 : (Lit.int .u8 a1).wf = true) :
    Calls Tryz.prog 7 #[.int .u8 a0, .int .u8 a1] w fun e w' => e = .returned (.bool true) ∧ Below w.heap.size w w' := by
  obtain ⟨n0, rfl, hn0⟩ := wf_u8 w0
  obtain ⟨n1, rfl, hn1⟩ := wf_u8 w1
  obtain ⟨n, hn, hn21⟩ : ∃ a : Nat, (n0 : Int) % 21 = (a : Int) ∧ a < 21 := ⟨n0 % 21, by omega, by omega⟩
  obtain ⟨m0, hm, hm30⟩ : ∃ a : Nat, (n1 : Int) % 30 = (a : Int) ∧ a < 30 := ⟨n1 % 30, by omega, by omega⟩
  obtain ⟨m, hmm⟩ : ∃ m : Nat, m = m0 + 1 := ⟨_, rfl⟩
  have hm1 : (1 : Int) + (m0 : Int) = (m : Int) := by omega
  have hm31 : m ≤ 30 := by omega
  have hmp : 1 ≤ m := by omega
  clear w0 w1 hmm
  have HW0 := Lib.hid htab
  have HAW := Lib.hid (fun w hw => awake09_any w hw)
  obtain ⟨t8, u8⟩ := tlT_8 n m
  obtain ⟨tl, ul⟩ := tl_len n m
  have hp1 := tl_parse (n := n) (m := m) (by omega) (by omega) (N := 2010) (by omega)
  obtain ⟨g2, hp2⟩ := tlU_parse (n := n) (m := m) (by omega) (by omega) (N := 2010) (by omega)
  have HP1 := Lib.hid (fun (W : World) (hb : Below w.heap.size w W) => parse_any (tlT n m) t8 (by omega) W (htab.wt.below hb) (right_any _ (htab.wt.below hb)) 2010 (by omega) (tlG n m) 0 0 hp1)
  have HP2 := Lib.hid (fun (W : World) (hb : Below w.heap.size w W) => parse_any (tlU n m) u8 (by omega) W (htab.wt.below hb) (right_any _ (htab.wt.below hb)) 2010 (by omega) g2 101 (n + 2 + m) hp2)
  unfold OutP at HP1 HP2
  have HR1 := Lib.hid (fun w' => rep_any [10] n _ rfl w' (by rw [show [10].length = 1 from rfl]; omega) (by omega))
  have HR2 := Lib.hid (fun w' => rep_any retB m _ rfl w' (by rw [show retB.length = 10 from rfl]; omega) (by omega))
  have k1 := repN_len [10] n
  have k2 := repN_len retB m
  rw [show [10].length = 1 from rfl] at k1
  rw [show retB.length = 10 from rfl] at k2
  have k3 : fnB.length = 11 := rfl
  obtain ⟨A1, hA1⟩ : ∃ S, Hid (strOf (repN [10] n) = S) := ⟨_, Lib.hid rfl⟩
  obtain ⟨A2, hA2⟩ : ∃ S, Hid (strOf (repN retB m) = S) := ⟨_, Lib.hid rfl⟩
  obtain ⟨B1, hB1⟩ : ∃ S, Hid (strOf (repN [10] n ++ fnB) = S) := ⟨_, Lib.hid rfl⟩
  obtain ⟨B2, hB2⟩ : ∃ S, Hid (strOf (repN [10] n ++ fnB ++ repN retB m) = S) := ⟨_, Lib.hid rfl⟩
  obtain ⟨Z1, hZ1⟩ : ∃ S, Hid (strOf (tlT n m) = S) := ⟨_, Lib.hid rfl⟩
  obtain ⟨Z2, hZ2⟩ : ∃ S, Hid (strOf (tlU n m) = S) := ⟨_, Lib.hid rfl⟩
  have s1 : ∀ w, (Op.stringOp .add A1 ⟨#[102, 117, 110, 99, 32, 102, 40, 41, 32, 123, 10]⟩).run Tryz.prog w = .ok (.string B1) w := fun w => by
    rw [← hA1.out, ← hB1.out]
    exact add_strs2 _ fnB (by omega) w
  have s2 : ∀ w, (Op.stringOp .add B1 A2).run Tryz.prog w = .ok (.string B2) w := fun w => by
    rw [← hA2.out, ← hB1.out, ← hB2.out]
    exact add_strs2 _ _ (by rw [List.length_append]; omega) w
  have s3 : ∀ w, (Op.stringOp .add B2 ⟨#[125]⟩).run Tryz.prog w = .ok (.string Z1) w := fun w => by
    have e : tlT n m = (repN [10] n ++ fnB ++ repN retB m) ++ [125] := by unfold tlT; simp
    rw [← hB2.out, ← hZ1.out, e]
    exact add_strs2 (repN [10] n ++ fnB ++ repN retB m) [125] (by simp only [List.length_append]; simp; omega) w
  have s4 : ∀ w, (Op.stringOp .add B2 ⟨#[108, 101, 116, 32, 125]⟩).run Tryz.prog w = .ok (.string Z2) w := fun w => by
    have e : tlU n m = (repN [10] n ++ fnB ++ repN retB m) ++ letB := by unfold tlU; simp
    rw [← hB2.out, ← hZ2.out, e]
    exact add_strs2 (repN [10] n ++ fnB ++ repN retB m) letB (by simp only [List.length_append]; simp [letB]; omega) w
  rw [hA1.out] at HR1
  rw [hA2.out] at HR2
  rw [hZ1.out] at HP1
  rw [hZ2.out] at HP2
  have HBA : Hid (Below w.heap.size w w) := Lib.hid (Below.refl _ _)
  clear htab t8 u8 tl ul hp1 hp2 k1 k2 k3 hA1 hA2 hB1 hB2 hZ1 hZ2
  go_enter Tryz.func7, Tryz.ntmps7
  go_wp2_with fail
  refine (HR1.out _).mono ?_
  rintro e w1 ⟨rfl, hb1⟩
  have HB1 := Lib.hid (HBA.out.trans (hb1.mono HBA.out.size))
  clear hb1
  go_wp2_with fail
  refine (HR2.out _).mono ?_
  rintro e w2 ⟨rfl, hb2⟩
  have HB2 := Lib.hid (HB1.out.trans (hb2.mono HB1.out.size))
  clear hb2
  go_wp2_with fail
  refine (HP1.out _ HB2.out).mono ?_
  rintro e w3 ⟨v, rfl, hr3, hb3⟩
  obtain ⟨b1, o1, c1, A5, n5, c5, A3, c3, rfl, hc1, hlb1, g2', g3, hmc, hcm, HST⟩ := tlG_rd (fun b hb => hb.2) hr3
  have HST := Lib.hid HST
  have HB3 := Lib.hid (HB2.out.trans (hb3.mono HB2.out.size))
  unfold maxLen at hcm
  clear hr3 hb3
  have HBV : Hid (Below w3.heap.size w3 ((w3.alloc (.cells #[.slice (some ⟨b1, o1, none⟩) 1 c1, .slice A5 n5 c5] 26)).alloc (.cells #[.int .i64 0, .int .i64 0] 29))) := Lib.hid (two w3 _ _)
  obtain ⟨V, hV⟩ : ∃ V, Hid ((w3.alloc (.cells #[.slice (some ⟨b1, o1, none⟩) 1 c1, .slice A5 n5 c5] 26)).alloc (.cells #[.int .i64 0, .int .i64 0] 29) = V) := ⟨_, Lib.hid rfl⟩
  go_wp2_with fail
  rw [hV.out] at HBV ⊢
  have HBW : Hid (Below w.heap.size w V) := Lib.hid (HB3.out.trans (HBV.out.mono HB3.out.size))
  clear hV g2' g3
  go_loopg [66] m (fun g i wr => ∃ (j : Nat), j + g = m ∧ i = .int .i64 (j : Int) ∧ Hid (Below V.heap.size V wr))
  case atStart => exact ⟨0, by omega, rfl, Lib.hid (Below.refl _ _)⟩
  case round =>
    obtain ⟨j, hj, rfl, HB⟩ := hrel
    cases gk with
    | zero =>
      have h1 : ¬ (j : Int) < (m : Int) := by omega
      have HBX : Hid (Below w.heap.size w wr) := Lib.hid (HBW.out.trans (HB.out.mono HBW.out.size))
      clear HST
      go_wp2_with fail
      refine (HR1.out _).mono ?_
      rintro e w4 ⟨rfl, hb4⟩
      have HB4 := Lib.hid (HBX.out.trans (hb4.mono HBX.out.size))
      clear hb4
      go_wp2_with fail
      refine (HR2.out _).mono ?_
      rintro e w5 ⟨rfl, hb5⟩
      have HB5 := Lib.hid (HB4.out.trans (hb5.mono HB4.out.size))
      clear hb5
      go_wp2_with fail
      refine (HP2.out _ HB5.out).mono ?_
      rintro e w6 ⟨v, rfl, hr6, hb6⟩
      obtain ⟨y, z, rfl, hy, hz⟩ := (Pg.rd _ _).1 hr6
      obtain ⟨A7, n7, c7, rfl⟩ := hy.rowf
      obtain ⟨A8, n8, c8, rfl⟩ := hz.rowf
      have HB6 := Lib.hid (HB5.out.trans (hb6.mono HB5.out.size))
      clear hr6 hb6 hy hz
      rw [show (((n + 2 + m : Nat)) : Int) = (n : Int) + (m : Int) + 2 by omega]
      have HB7 := Lib.hid (HB6.out.trans ((two w6 (.cells #[.slice A7 n7 c7, .slice A8 n8 c8] 26) (.cells #[.int .i64 101, .int .i64 ((n : Int) + (m : Int) + 2)] 29)).mono HB6.out.size))
      go_wp2_with fail
      refine (HAW.out _ (HW0.out.below HB7.out)).mono ?_
      rintro e w7 ⟨rfl, hb7⟩
      have HB8 := Lib.hid (HB7.out.trans (hb7.mono HB7.out.size))
      clear hb7
      go_wp2_with fail
      go_ret
      exact ⟨rfl, HB8.out⟩
    | succ g =>
      have h1 : (j : Int) < (m : Int) := by omega
      obtain ⟨b2, o2, a0, a1, a2, a3, a4, rfl, hlt, y0, y1, y2, y3, y4, y5, ⟨k, rfl⟩, ⟨s, rfl⟩, ⟨A9, n9, c9, rfl⟩, ⟨A10, n10, c10, rfl⟩, ⟨A11, n11, c11, rfl⟩⟩ := HST.out j (by omega)
      have J : Hid (Below w3.heap.size w3 wr) := Lib.hid (HBV.out.trans (HB.out.mono HBV.out.size))
      have z0 := (J.out.cell (p := ⟨b2, o2 + j * 6, none⟩) hlt).trans y0
      have z1 := (J.out.cell (p := ⟨b2, o2 + j * 6 + 1, none⟩) hlt).trans y1
      have z2 := (J.out.cell (p := ⟨b2, o2 + j * 6 + 2, none⟩) hlt).trans y2
      have z3 := (J.out.cell (p := ⟨b2, o2 + j * 6 + 3, none⟩) hlt).trans y3
      have z4 := (J.out.cell (p := ⟨b2, o2 + j * 6 + 4, none⟩) hlt).trans y4
      have z5 := (J.out.cell (p := ⟨b2, o2 + j * 6 + 5, none⟩) hlt).trans y5
      have HBN := Lib.hid (HB.out.alloc HB.out.size (.cells #[.int .u8 k, .string s, .slice A9 n9 c9, .slice A10 n10 c10, .slice A11 n11 c11, .int .i64 ((n : Int) + 2 + (j : Int))] 58))
      clear y0 y1 y2 y3 y4 y5 HST
      go_wp2_with fail
      go_roundg g
      case measure => omega
      case rel => exact ⟨j + 1, by omega, by go_num, HBN⟩

set_option maxRecDepth 100000 in
set_option maxHeartbeats 8000000 in
theorem lifted (os : Os) (started : os.Started) (H : Type) (enc : TypeId × Value → H) :
    ReturnsInHanded {} Tryz.checked os 7 .any (fun w args => (Rows.treeLinesSpec.pre enc Tryz.prog Tryz.f7 [] false w args ∧ laidMetH Tryz.prog laidW w) ∧ sizedMet enc Tryz.prog Tryz.f7 (OpenSpec.ofChange Rows.treeLinesSpec) false w args) (Rows.treeLinesSpec.post enc Tryz.prog Tryz.f7 false true false false) := by
  refine returnsInHanded_of_change_and (C := Tryz.checked) (X := fun w _ => laidMetH Tryz.prog laidW w) (fun _ _ _ hh h => h.of_heap hh) knob_own started (by as_aux_lemma => kernel_rfl) Tryz.func7
    (ChangeSpec.witness_shaped (enc := enc) (C := Tryz.checked) (os := os) (X := fun w _ => laidMetH Tryz.prog laidW w) false (World.doorLaid Tryz.prog 400 os) #[.int .u8 0, .int .u8 0] 8 rfl (World.shaped_of_RefB (by as_aux_lemma => kernel_rfl) (by as_aux_lemma => kernel_rfl)) (by as_aux_lemma => kernel_rfl) (by as_aux_lemma => kernel_rfl) (by as_aux_lemma => kernel_rfl) (doorW_met os _)) ?_
  intro W base args ds gs before hval0 hW _ _ hL _
  have hval : ∀ (j : Nat) t v, Tryz.f7.params[j]? = some t → args[j]? = some v → Value.okWide Tryz.prog W .any base t v := hval0
  have hW' := hW
  obtain ⟨p, q, hA0, hV, rfl, hfz, hnd⟩ := hW
  have hA : DataW.TrodAll enc Tryz.prog W 0 (fun _ => true) true Tryz.f7.params.toList args.toList ds p := hA0
  rw [Tryz.params7] at hA hval
  obtain ⟨v0, vs0, d0, ds0, p0, q0, hargs, rfl, rfl, h0, r0⟩ := trodAll_cons hA
  obtain ⟨v1, vs1, d1, ds1, p1, q1, rfl, rfl, rfl, h1, r1⟩ := trodAll_cons r0
  obtain ⟨rfl, rfl, rfl⟩ := trodAll_nil r1
  obtain rfl : args = #[v0, v1] := by cases args; simp_all
  obtain ⟨rfl, rfl⟩ := trodVars_none hV
  have lt0 : ∀ x ∈ p0, x.block < W.heap.size := by obtain ⟨m, hm⟩ := h0; exact DataW.trod_lt m _ _ _ hm
  have k0 := h0
  obtain ⟨a0, rfl, _, _, w0⟩ := open_int Tryz.underlying5 (hval 0 5 v0 rfl rfl) h0
  have lt1 : ∀ x ∈ p1, x.block < W.heap.size := by obtain ⟨m, hm⟩ := h1; exact DataW.trod_lt m _ _ _ hm
  have k1 := h1
  obtain ⟨a1, rfl, _, _, w1⟩ := open_int Tryz.underlying5 (hval 1 5 v1 rfl rfl) h1
  clear hA0 hval0
  refine (walk W (w9_laid hL) a0 a1 w0 w1).mono fun e W' ⟨he, bel⟩ => ?_
  subst he
  exact ⟨_, rfl, _, _, _, [], _, [], hW', trodAll_mk1 (shut_bool Tryz.underlying4 _), (trodAll_cons_mk (Below.trod laid_out (by as_aux_lemma => kernel_rfl) (of_decide_eq_true (by as_aux_lemma => kernel_rfl)) k0 bel lt0) (trodAll_cons_mk (Below.trod laid_out (by as_aux_lemma => kernel_rfl) (of_decide_eq_true (by as_aux_lemma => kernel_rfl)) k1 bel lt1) (trodAll_mk0))), rfl, bel.frame _, fun h => by cases h⟩

set_option maxHeartbeats 8000000 in
theorem closed : joinedFacts Tryz.pinned.checked.prog 7 Tryz.f7 Rows.treeLinesSpec Rows.treeLinesRow = true := by
  unfold joinedFacts
  simp only [Bool.and_eq_true]
  repeat' apply And.intro
  all_goals (as_aux_lemma => kernel_rfl)

set_option maxHeartbeats 8000000 in
theorem over : Rows.treeLinesRow.holds Tryz.pinned (OpenSpec.ofChange Rows.treeLinesSpec) :=
  OpenClaim.holds_of_wide 7 Tryz.f7 rfl rfl rfl rfl rfl rfl rfl ⟨rfl, rfl, rfl, rfl, rfl⟩ rfl rfl rfl rfl rfl (by as_aux_lemma => kernel_rfl) Tryz.func7 closed
    (of_decide_eq_true (by as_aux_lemma => kernel_rfl)) (by unfold Func.isWrapper; first | (rw [if_pos (by decide +kernel)]; kernel_rfl) | (rw [if_neg (by decide +kernel)]; exact ⟨rfl, rfl⟩))
    (fun os started H enc _ => lifted os started H enc)

set_option maxHeartbeats 8000000 in
theorem proved : Rows.TreeLinesCardSaid :=
  Claim7.holds_tied_plain_at .later [] [.data, .data, .data, .sentinel, .sentinel, .data] true Rows.treeLinesCard.stood.harness Rows.treeLinesCard.stood.looks
    over (fun _ h => by cases h) (by as_aux_lemma => kernel_rfl) (fun _ h => by cases h) treeLines_row_tie rfl ⟨rfl, rfl⟩ (by as_aux_lemma => kernel_rfl) rfl
    (fun f fn hf hfn => by
      obtain rfl : f = 7 := Option.some.inj ((show Tryz.prog.funcNamed "drover/droverlaw09.TreeLines" = some 7 by as_aux_lemma => kernel_rfl).symm.trans hf) |>.symm
      obtain rfl : fn = Tryz.f7 := (Option.some.inj (Tryz.func7.symm.trans hfn)).symm
      exact ⟨by as_aux_lemma => kernel_rfl, fun j t ht => by
        have hall : (Tryz.f7.params.toList.all fun u => !Tryz.prog.wantsStandIn u) = true := by as_aux_lemma => kernel_rfl
        have hm : t ∈ Tryz.f7.params.toList := Array.mem_toList_iff.2 (Array.mem_of_getElem? ht)
        exact (show Tryz.prog.wantsStandIn t = false by simpa using List.all_eq_true.1 hall t hm)⟩)
    (by as_aux_lemma => kernel_rfl)
end Go.Proofs.YteacmanbiamhoaaGreatDoor.treeLines
