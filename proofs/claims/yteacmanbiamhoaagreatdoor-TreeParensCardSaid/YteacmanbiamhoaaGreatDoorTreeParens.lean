/- droverlaw09.TreeParens returns true whatever its arguments: parentheses around one expression say nothing. For every input, without conditions. -/
import Derived.Test.YteacmanbiamhoaaGreatDoorRow
import Derived.Test.YteacmanbiamhoaaGreatDoorZf
import Derived.Test.YteacmanbiamhoaaGreatDoorDoor09
import Derived.Test.YteacmanbiamhoaaGreatDoorCards
import Derived.SevenTiedAt
import Derived.Test.YteacmanbiamhoaaGreatDoorRe
import Derived.Test.YteacmanbiamhoaaGreatDoorZk
namespace Go.Proofs.YteacmanbiamhoaaGreatDoor.treeParens
open Go.ChangeShapes Go.WideShapes Go.ChangeAt Go.RowKit
set_option linter.unusedVariables false

theorem rep_one (c : Nat) : ∀ n, repN [c] n = List.replicate n c
  | 0 => rfl
  | n + 1 => by rw [repN, rep_one c n]; rfl
theorem tx_len : ∀ i, i < 8 → (txP.getD i []).length ≤ 9 ∧ ∀ x ∈ txP.getD i [], x < 256 := by
  have h : ((List.range 8).all fun i => decide ((txP.getD i []).length ≤ 9) && (txP.getD i []).all fun x => decide (x < 256)) = true := by decide
  intro i hi
  have h1 := List.all_eq_true.1 h i (by simpa using hi)
  simp only [Bool.and_eq_true, decide_eq_true_eq, List.all_eq_true] at h1
  exact h1
theorem ex_8 {t : List Nat} (h : ∀ x ∈ t, x < 256) : ∀ x ∈ exTx t, x < 256 := by
  intro x hx
  unfold exTx at hx
  simp only [List.mem_append] at hx
  rcases hx with (hx | hx) | hx
  · revert x; unfold preE; decide
  · exact h x hx
  · revert x; unfold endE; decide
theorem pa_8 (i k : Nat) (hi : i < 8) : (∀ x ∈ paTx i k, x < 256) ∧ (paTx i k).length ≤ 9 + 2 * k := by
  obtain ⟨h1, h2⟩ := tx_len i hi
  unfold paTx
  refine ⟨fun x hx => ?_, by simp only [List.length_append, List.length_replicate]; omega⟩
  simp only [List.mem_append, List.mem_replicate] at hx
  rcases hx with (hx | hx) | hx
  · omega
  · exact h2 x hx
  · omega
theorem pr_8 (i : Nat) (hi : i < 8) : (∀ x ∈ prTx i, x < 256) ∧ (prTx i).length ≤ 30 := by
  obtain ⟨h1, h2⟩ := tx_len i hi
  unfold prTx
  refine ⟨fun x hx => ?_, by simp only [List.length_append, List.length_cons, List.length_nil]; omega⟩
  simp only [List.mem_append] at hx
  rcases hx with (((hx | hx) | hx) | hx) | hx
  · simp at hx; omega
  · exact h2 x hx
  · simp at hx; omega
  · exact h2 x hx
  · simp at hx; omega
theorem rd_up {w W : World} {S : Nat → Prop} {x : Nd} {v : Value} (h : Rd w S x v) (hS : ∀ b, S b → b < w.heap.size) (hb : Below w.heap.size w W) : Rd W (fun b => b < W.heap.size) x v :=
  Rd.keep (fun p hp => hb.cell (hS _ hp)) (fun b h => Nat.lt_of_lt_of_le (hS b h) hb.size) _ _ h
theorem row_one {W : World} {S : Nat → Prop} {P c : Nat} {x : Nd} {a0 a1 a2 a3 : Value} {E : TypeId} (h : W.heap[P]? = some (.cells #[a0, a1, a2, a3] E (0, 0))) (hx : Rd W S x (.agg #[a0, a1, a2, a3])) (hS : S P) (h1 : 1 ≤ c) (h2 : c ≤ maxLen) : Rd W S (.row 4 [x]) (.slice (some ⟨P, 0, none⟩) 1 c) := by
  rw [Rd]
  refine ⟨_, c, rfl, h1, h2, Rds.of fun j y hy => ?_⟩
  obtain rfl : j = 0 := by
    have := (List.getElem?_eq_some_iff.1 hy).1
    simp at this
    omega
  simp at hy
  subst hy
  refine ⟨P, 0, [a0, a1, a2, a3], rfl, hS, rfl, fun i u hu => ?_, hx⟩
  have := cell_block h (0 + (0 + 0) * 4 + i)
  rw [this]
  simpa using hu
theorem row_two {W : World} {S : Nat → Prop} {P c : Nat} {x y : Nd} {a0 a1 a2 a3 b0 b1 b2 b3 : Value} {E : TypeId} (h : W.heap[P]? = some (.cells #[a0, a1, a2, a3, b0, b1, b2, b3] E (0, 0))) (hx : Rd W S x (.agg #[a0, a1, a2, a3])) (hy : Rd W S y (.agg #[b0, b1, b2, b3])) (hS : S P) (h1 : 2 ≤ c) (h2 : c ≤ maxLen) : Rd W S (.row 4 [x, y]) (.slice (some ⟨P, 0, none⟩) 2 c) := by
  rw [Rd]
  refine ⟨_, c, rfl, h1, h2, Rds.of fun j z hz => ?_⟩
  match j, hz with
  | 0, hz =>
    simp at hz
    subst hz
    refine ⟨P, 0, [a0, a1, a2, a3], rfl, hS, rfl, fun i u hu => ?_, hx⟩
    have := cell_block h (0 + (0 + 0) * 4 + i)
    rw [this]
    have hi := (List.getElem?_eq_some_iff.1 hu).1
    simp at hi
    match i, hi, hu with
    | 0, _, hu => simpa using hu
    | 1, _, hu => simpa using hu
    | 2, _, hu => simpa using hu
    | 3, _, hu => simpa using hu
  | 1, hz =>
    simp at hz
    subst hz
    refine ⟨P, 0, [b0, b1, b2, b3], rfl, hS, rfl, fun i u hu => ?_, hy⟩
    have := cell_block h (0 + (0 + 1) * 4 + i)
    rw [this]
    have hi := (List.getElem?_eq_some_iff.1 hu).1
    simp at hi
    match i, hi, hu with
    | 0, _, hu => simpa using hu
    | 1, _, hu => simpa using hu
    | 2, _, hu => simpa using hu
    | 3, _, hu => simpa using hu
  | j + 2, hz => simp at hz

set_option maxRecDepth 100000 in
set_option maxHeartbeats 8000000 in
theorem walk (w : World) (htab : W9 w) (a0 : Int) (a1 : Int) (w0 : (Lit.int .u8 a0).wf = true) (w1 : (Lit.int .u8 a1).wf = true) :
    Calls Tryz.prog 6 #[.int .u8 a0, .int .u8 a1] w fun e w' => e = .returned (.bool true) ∧ Below w.heap.size w w' := by
  obtain ⟨z0, rfl, hn0⟩ := wf_u8 w0
  obtain ⟨z1, rfl, hn1⟩ := wf_u8 w1
  obtain ⟨i, hi, hi8⟩ : ∃ a : Nat, (z0 : Int) % 8 = (a : Int) ∧ a < 8 := ⟨z0 % 8, by omega, by omega⟩
  obtain ⟨k, hk, hk31⟩ : ∃ a : Nat, (z1 : Int) % 31 = (a : Int) ∧ a < 31 := ⟨z1 % 31, by omega, by omega⟩
  clear w0 w1
  have HW0 := Lib.hid htab
  have HAW := Lib.hid (fun w hw => awake09_any w hw)
  have hc8 : i = 0 ∨ i = 1 ∨ i = 2 ∨ i = 3 ∨ i = 4 ∨ i = 5 ∨ i = 6 ∨ i = 7 := by omega
  have HC8 := Lib.hid hc8
  have HBA : Hid (Below w.heap.size w (w.alloc (.cells #[.string ⟨#[49]⟩, .string ⟨#[97]⟩, .string ⟨#[49, 32, 43, 32, 50]⟩, .string ⟨#[45, 32, 97]⟩, .string ⟨#[108, 101, 110, 40, 97, 41]⟩, .string ⟨#[99, 97, 108, 108, 32, 102, 40, 49, 41]⟩, .string ⟨#[40, 49, 44, 32, 50, 41]⟩, .string ⟨#[97, 91, 49, 93]⟩] 9))) := Lib.hid ((Below.refl _ _).alloc (Nat.le_refl _) _)
  clear hc8
  go_enter Tryz.func6, Tryz.ntmps6
  go_upto_region 2 with fail
  go_cut [6] (fun s wx => ∃ X, s = .string X ∧ Hid (X = strOf (txP.getD i [])) ∧ Hid (Below w.heap.size w wx))
  case first =>
    rcases HC8.out with rfl | rfl | rfl | rfl | rfl | rfl | rfl | rfl
    all_goals
      go_wp2_with fail
      go_meet
      exact ⟨_, rfl, Lib.hid rfl, HBA⟩
  case rest =>
    obtain ⟨X, rfl, HX, HB0⟩ := hcut
    clear HC8 HBA
    obtain ⟨x, hx⟩ : ∃ x, exP.getD i n1 = x := ⟨_, rfl⟩
    have q0 := pa_ok hi8 (show 0 < 31 by omega)
    have q1 := pa_ok hi8 hk31
    have q2 := pr_ok hi8
    have e0 : paTx i 0 = txP.getD i [] := by simp [paTx]
    rw [e0] at q0
    rw [hx] at q0 q1 q2
    obtain ⟨l0, l8⟩ := tx_len i hi8
    obtain ⟨pk8, pkl⟩ := pa_8 i k hi8
    obtain ⟨pr8, prl⟩ := pr_8 i hi8
    have HE0 := Lib.hid (fun (W : World) (hb : Below w.heap.size w W) => expr_any (txP.getD i []) (ex_8 l8) (by omega) x q0 X HX.out W (htab.wt.below hb))
    have HE1 := Lib.hid (fun (W : World) (hb : Below w.heap.size w W) (S : ByteArray) (hS : S = strOf (paTx i k)) => expr_any (paTx i k) (ex_8 pk8) (by omega) x q1 S hS W (htab.wt.below hb))
    have HE2 := Lib.hid (fun (W : World) (hb : Below w.heap.size w W) (S : ByteArray) (hS : S = strOf (prTx i)) => expr_any (prTx i) (ex_8 pr8) (by omega) (.mk 6 [] 0 [x, x]) q2 S hS W (htab.wt.below hb))
    have HE3 := Lib.hid (fun (W : World) (hb : Below w.heap.size w W) => expr_any [40, 41] (ex_8 (by decide)) (by decide) (.mk 6 [] 0 []) no_ok ⟨#[40, 41]⟩ rfl W (htab.wt.below hb))
    have HR1 := Lib.hid (fun w' => rep_any [40] k _ rfl w' (by rw [show [40].length = 1 from rfl]; omega) (by omega))
    have HR2 := Lib.hid (fun w' => rep_any [41] k _ rfl w' (by rw [show [41].length = 1 from rfl]; omega) (by omega))
    rw [rep_one] at HR1 HR2
    obtain ⟨A1, hA1⟩ : ∃ S, Hid (strOf (List.replicate k 40) = S) := ⟨_, Lib.hid rfl⟩
    obtain ⟨A2, hA2⟩ : ∃ S, Hid (strOf (List.replicate k 41) = S) := ⟨_, Lib.hid rfl⟩
    obtain ⟨B1, hB1⟩ : ∃ S, Hid (strOf (List.replicate k 40 ++ txP.getD i []) = S) := ⟨_, Lib.hid rfl⟩
    obtain ⟨Z1, hZ1⟩ : ∃ S, Hid (strOf (paTx i k) = S) := ⟨_, Lib.hid rfl⟩
    obtain ⟨C1, hC1⟩ : ∃ S, Hid (strOf ([40] ++ txP.getD i []) = S) := ⟨_, Lib.hid rfl⟩
    obtain ⟨C2, hC2⟩ : ∃ S, Hid (strOf ([40] ++ txP.getD i [] ++ [44, 32]) = S) := ⟨_, Lib.hid rfl⟩
    obtain ⟨C3, hC3⟩ : ∃ S, Hid (strOf ([40] ++ txP.getD i [] ++ [44, 32] ++ txP.getD i []) = S) := ⟨_, Lib.hid rfl⟩
    obtain ⟨Z2, hZ2⟩ : ∃ S, Hid (strOf (prTx i) = S) := ⟨_, Lib.hid rfl⟩
    have s1 : ∀ w, (Op.stringOp .add A1 X).run Tryz.prog w = .ok (.string B1) w := fun w => by
      rw [← hA1.out, ← hB1.out, HX.out]
      exact add_strs2 _ _ (by rw [List.length_replicate]; omega) w
    have s2 : ∀ w, (Op.stringOp .add B1 A2).run Tryz.prog w = .ok (.string Z1) w := fun w => by
      rw [← hA2.out, ← hB1.out, ← hZ1.out]
      exact add_strs2 _ _ (by simp only [List.length_append, List.length_replicate]; omega) w
    have s3 : ∀ w, (Op.stringOp .add ⟨#[40]⟩ X).run Tryz.prog w = .ok (.string C1) w := fun w => by
      rw [← hC1.out, HX.out]
      exact add_strs2 [40] _ (by simp only [List.length_cons, List.length_nil]; omega) w
    have s4 : ∀ w, (Op.stringOp .add C1 ⟨#[44, 32]⟩).run Tryz.prog w = .ok (.string C2) w := fun w => by
      rw [← hC1.out, ← hC2.out]
      exact add_strs2 _ [44, 32] (by simp only [List.length_append, List.length_cons, List.length_nil]; omega) w
    have s5 : ∀ w, (Op.stringOp .add C2 X).run Tryz.prog w = .ok (.string C3) w := fun w => by
      rw [← hC2.out, ← hC3.out, HX.out]
      exact add_strs2 _ _ (by simp only [List.length_append, List.length_cons, List.length_nil]; omega) w
    have s6 : ∀ w, (Op.stringOp .add C3 ⟨#[41]⟩).run Tryz.prog w = .ok (.string Z2) w := fun w => by
      rw [← hC3.out, ← hZ2.out]
      exact add_strs2 _ [41] (by simp only [List.length_append, List.length_cons, List.length_nil]; omega) w
    rw [hA1.out] at HR1
    rw [hA2.out] at HR2
    have HZ1 := Lib.hid hZ1.out.symm
    have HZ2 := Lib.hid hZ2.out.symm
    clear q0 q1 q2 e0 l0 l8 pk8 pkl pr8 prl hA1 hA2 hB1 hZ1 hC1 hC2 hC3 hZ2 HX htab hx hi
    obtain ⟨kd, sx, nx, lx⟩ := x
    go_wp2_with fail
    refine (HE0.out _ HB0.out).mono ?_
    rintro e w1 ⟨v, rfl, hr1, hb1⟩
    obtain ⟨y1, rfl, -, -, hy1⟩ := (Ex.rd _ _ _ _ _).1 hr1
    obtain ⟨D1, m1, d1, rfl⟩ := hy1.rowf
    obtain ⟨SX, hSX⟩ : ∃ S, Hid (strOf sx = S) := ⟨_, Lib.hid rfl⟩
    rw [hSX.out] at hr1 ⊢
    have HR1' := Lib.hid hr1
    have HB1 := Lib.hid (HB0.out.trans (hb1.mono HB0.out.size))
    clear hr1 hb1 hy1
    obtain ⟨SN, hSN⟩ : ∃ S, Hid (strOf [] = S) := ⟨_, Lib.hid rfl⟩
    obtain ⟨V1, hV1⟩ : ∃ V, Hid (w1.alloc (.cells #[.int .u8 (kd : Int), .string SX, .int .i64 nx, .slice D1 m1 d1] 46) = V) := ⟨_, Lib.hid rfl⟩
    have HV1 : Hid (Below w1.heap.size w1 V1) := Lib.hid (by rw [← hV1.out]; exact (Below.refl _ _).alloc (Nat.le_refl _) _)
    have QG1 : Hid (V1.heap[w1.heap.size]? = some (.cells #[.int .u8 (kd : Int), .string SX, .int .i64 nx, .slice D1 m1 d1] 46 (0, 0))) := Lib.hid (by rw [← hV1.out]; exact heap_new w1 _)
    have K1 : Hid (Below w.heap.size w V1) := Lib.hid (HB1.out.trans (HV1.out.mono HB1.out.size))
    have R1 : Hid (∀ W, Below V1.heap.size V1 W → Rd W (fun b => b < W.heap.size) (Ex.nd (.mk kd sx nx lx)) (.agg #[.int .u8 (kd : Int), .string SX, .int .i64 nx, .slice D1 m1 d1])) := Lib.hid fun W hb => rd_up HR1'.out (fun b h => h.2) (HV1.out.trans (hb.mono HV1.out.size))
    go_wp2_with fail
    rw [hV1.out]
    refine (HR1.out _).mono ?_
    rintro e w2 ⟨rfl, hb2⟩
    have J2 := Lib.hid hb2
    clear hb2
    go_wp2_with fail
    refine (HR2.out _).mono ?_
    rintro e w3 ⟨rfl, hb3⟩
    have J3 := Lib.hid (J2.out.trans (hb3.mono J2.out.size))
    have K3 : Hid (Below w.heap.size w w3) := Lib.hid (K1.out.trans (J3.out.mono K1.out.size))
    clear hb3
    go_wp2_with fail
    refine (HE1.out _ K3.out _ HZ1.out).mono ?_
    rintro e w4 ⟨v, rfl, hr4, hb4⟩
    obtain ⟨y4, rfl, -, -, hy4⟩ := (Ex.rd _ _ _ _ _).1 hr4
    obtain ⟨D2, m2, d2, rfl⟩ := hy4.rowf
    rw [hSX.out] at hr4 ⊢
    have HR4 := Lib.hid hr4
    have J4 := Lib.hid (J3.out.trans (hb4.mono J3.out.size))
    clear hr4 hb4 hy4
    obtain ⟨V4, hV4⟩ : ∃ V, Hid (w4.alloc (.cells #[.int .u8 (kd : Int), .string SX, .int .i64 nx, .slice D2 m2 d2] 46) = V) := ⟨_, Lib.hid rfl⟩
    have HV4 : Hid (Below w4.heap.size w4 V4) := Lib.hid (by rw [← hV4.out]; exact (Below.refl _ _).alloc (Nat.le_refl _) _)
    have QG4 : Hid (V4.heap[w4.heap.size]? = some (.cells #[.int .u8 (kd : Int), .string SX, .int .i64 nx, .slice D2 m2 d2] 46 (0, 0))) := Lib.hid (by rw [← hV4.out]; exact heap_new w4 _)
    have J5 : Hid (Below V1.heap.size V1 V4) := Lib.hid (J4.out.trans (HV4.out.mono J4.out.size))
    have K4 : Hid (Below w.heap.size w V4) := Lib.hid (K1.out.trans (J5.out.mono K1.out.size))
    have R4 : Hid (∀ W, Below V4.heap.size V4 W → Rd W (fun b => b < W.heap.size) (Ex.nd (.mk kd sx nx lx)) (.agg #[.int .u8 (kd : Int), .string SX, .int .i64 nx, .slice D2 m2 d2])) := Lib.hid fun W hb => rd_up HR4.out (fun b h => h.2) (HV4.out.trans (hb.mono HV4.out.size))
    go_wp2_with fail
    rw [hV4.out]
    refine (HE2.out _ K4.out _ HZ2.out).mono ?_
    rintro e w5 ⟨v, rfl, hr5, hb5⟩
    obtain ⟨y5, rfl, -, -, hy5⟩ := (Ex.rd _ _ _ _ _).1 hr5
    have f5 := hy5
    rw [Rd] at f5
    obtain ⟨D3, d3, rfl, -⟩ := f5
    simp only [List.map_cons, List.map_nil, List.length_cons, List.length_nil, Nat.zero_add, Nat.reduceAdd] at hy5 hr5 ⊢
    rw [hSN.out]
    have HY5 := Lib.hid hy5
    have J6 := Lib.hid hb5
    clear hr5 hb5 hy5
    obtain ⟨V5, hV5⟩ : ∃ V, Hid (w5.alloc (.cells #[.int .u8 6, .string SN, .int .i64 0, .slice D3 2 d3] 46) = V) := ⟨_, Lib.hid rfl⟩
    have HV5 : Hid (Below w5.heap.size w5 V5) := Lib.hid (by rw [← hV5.out]; exact (Below.refl _ _).alloc (Nat.le_refl _) _)
    have QG5 : Hid (V5.heap[w5.heap.size]? = some (.cells #[.int .u8 6, .string SN, .int .i64 0, .slice D3 2 d3] 46 (0, 0))) := Lib.hid (by rw [← hV5.out]; exact heap_new w5 _)
    have J7 : Hid (Below V4.heap.size V4 V5) := Lib.hid (J6.out.trans (HV5.out.mono J6.out.size))
    have K5 : Hid (Below w.heap.size w V5) := Lib.hid (K4.out.trans (J7.out.mono K4.out.size))
    go_wp2_with fail
    rw [hV5.out]
    refine (HE3.out _ K5.out).mono ?_
    rintro e w6 ⟨v, rfl, hr6, hb6⟩
    obtain ⟨y6, rfl, -, -, hy6⟩ := (Ex.rd _ _ _ _ _).1 hr6
    have f6 := hy6
    rw [Rd] at f6
    obtain ⟨D4, d4, rfl, -⟩ := f6
    simp only [List.map_nil, List.length_nil] at hy6 hr6 ⊢
    rw [hSN.out]
    have J8 := Lib.hid hb6
    clear hr6 hb6 hy6
    have J9 : Hid (Below V4.heap.size V4 w6) := Lib.hid (J7.out.trans (J8.out.mono J7.out.size))
    have J10 : Hid (Below V1.heap.size V1 w6) := Lib.hid (J5.out.trans (J9.out.mono J5.out.size))
    have K6 : Hid (Below w.heap.size w w6) := Lib.hid (K5.out.trans (J8.out.mono K5.out.size))
    have QX1 := Lib.hid (heap_below QG1.out J10.out)
    have QX4 := Lib.hid (heap_below QG4.out J9.out)
    have QX5 := Lib.hid (heap_below QG5.out J8.out)
    obtain ⟨⟨x0, x1, x2, x3⟩, -⟩ := box4f QX1.out
    obtain ⟨⟨u0, u1, u2, u3⟩, -⟩ := box4f QX4.out
    obtain ⟨⟨v0, v1, v2, v3⟩, -⟩ := box4f QX5.out
    have l1 := lt_heap QX1.out
    have l4 := lt_heap QX4.out
    have l5 := lt_heap QX5.out
    obtain ⟨W7, hW7⟩ : ∃ V, Hid (((w6.alloc (.cells #[.int .u8 6, .string SN, .int .i64 0, .slice D4 0 d4] 46)).alloc (.cells #[.int .u8 (kd : Int), .string SX, .int .i64 nx, .slice D1 m1 d1] 46)).alloc (.cells #[.int .u8 (kd : Int), .string SX, .int .i64 nx, .slice D2 m2 d2] 46) = V) := ⟨_, Lib.hid rfl⟩
    have B67 : Hid (Below w6.heap.size w6 W7) := Lib.hid (by rw [← hW7.out]; exact (two w6 _ _).alloc (by simp; omega) _)
    have QP : Hid (W7.heap[w6.heap.size + 1]? = some (.cells #[.int .u8 (kd : Int), .string SX, .int .i64 nx, .slice D1 m1 d1] 46 (0, 0))) := Lib.hid (by rw [← hW7.out]; exact heap_old (heap_new' (w6.alloc _) _ _ (by simp)) _)
    have QQ : Hid (W7.heap[w6.heap.size + 1 + 1]? = some (.cells #[.int .u8 (kd : Int), .string SX, .int .i64 nx, .slice D2 m2 d2] 46 (0, 0))) := Lib.hid (by rw [← hW7.out]; exact heap_new' ((w6.alloc _).alloc _) _ _ (by simp))
    have QN : Hid (W7.heap[w6.heap.size]? = some (.cells #[.int .u8 6, .string SN, .int .i64 0, .slice D4 0 d4] 46 (0, 0))) := Lib.hid (by rw [← hW7.out]; exact heap_old (heap_old (heap_new w6 _) _) _)
    have SZ7 : Hid (W7.heap.size = w6.heap.size + 3) := Lib.hid (by rw [← hW7.out]; simp)
    have L17 : Hid (Below V1.heap.size V1 W7) := Lib.hid (J10.out.trans (B67.out.mono J10.out.size))
    have L47 : Hid (Below V4.heap.size V4 W7) := Lib.hid (J9.out.trans (B67.out.mono J9.out.size))
    have L57 : Hid (Below V5.heap.size V5 W7) := Lib.hid (J8.out.trans (B67.out.mono J8.out.size))
    have HC1 := Lib.hid (sameexprs_any _ [.mk kd sx nx lx] (Nat.lt_succ_self _) W7 (fun b => b < W7.heap.size) (fun b => b < W7.heap.size) (.slice (some ⟨w6.heap.size + 1, 0, none⟩) 1 1) (.slice (some ⟨w6.heap.size + 1 + 1, 0, none⟩) 1 1)
      (row_one QP.out (R1.out W7 L17.out) (by have := SZ7.out; omega) (Nat.le_refl _) (by unfold maxLen; omega)) (row_one QQ.out (R4.out W7 L47.out) (by have := SZ7.out; omega) (Nat.le_refl _) (by unfold maxLen; omega)))
    have QW1 := Lib.hid (heap_below QG1.out L17.out)
    have QW5 := Lib.hid (heap_below QG5.out L57.out)
    go_wp2_with fail
    rw [hW7.out]
    clear x0 x1 x2 x3 u0 u1 u2 u3 v0 v1 v2 v3 l1 l4 l5
    refine HC1.out.mono ?_
    rintro e w8 ⟨rfl, q8, rfl⟩
    obtain ⟨⟨x0, x1, x2, x3⟩, -⟩ := box4f QW1.out
    obtain ⟨⟨v0, v1, v2, v3⟩, -⟩ := box4f QW5.out
    obtain ⟨⟨n0, n1, n2, n3⟩, -⟩ := box4f QN.out
    have l1 := lt_heap QW1.out
    have l5 := lt_heap QW5.out
    have l6 := lt_heap QN.out
    obtain ⟨W9, hW9⟩ : ∃ V, Hid ((W7.drewN q8).alloc (.cells #[.int .u8 (kd : Int), .string SX, .int .i64 nx, .slice D1 m1 d1, .int .u8 (kd : Int), .string SX, .int .i64 nx, .slice D1 m1 d1] 46) = V) := ⟨_, Lib.hid rfl⟩
    have B79 : Hid (Below W7.heap.size W7 W9) := Lib.hid (by rw [← hW9.out]; exact (below_drewN (Below.refl _ _) q8).alloc (Nat.le_refl _) _)
    have QR : Hid (W9.heap[W7.heap.size]? = some (.cells #[.int .u8 (kd : Int), .string SX, .int .i64 nx, .slice D1 m1 d1, .int .u8 (kd : Int), .string SX, .int .i64 nx, .slice D1 m1 d1] 46 (0, 0))) := Lib.hid (by rw [← hW9.out]; exact heap_new' (W7.drewN q8) _ _ rfl)
    have L19 : Hid (Below V1.heap.size V1 W9) := Lib.hid (L17.out.trans (B79.out.mono L17.out.size))
    have L59 : Hid (Below V5.heap.size V5 W9) := Lib.hid (L57.out.trans (B79.out.mono L57.out.size))
    have hs9 := lt_heap QR.out
    have HC2 := Lib.hid (sameexprs_any _ [.mk kd sx nx lx, .mk kd sx nx lx] (Nat.lt_succ_self _) W9 (fun b => b < W9.heap.size) (fun b => b < W9.heap.size) (.slice D3 2 d3) (.slice (some ⟨W7.heap.size, 0, none⟩) 2 2)
      (rd_up HY5.out (fun b h => h.2) (HV5.out.trans (L59.out.mono HV5.out.size))) (row_two QR.out (R1.out W9 L19.out) (R1.out W9 L19.out) hs9 (Nat.le_refl _) (by unfold maxLen; omega)))
    have QN9 := Lib.hid (heap_below QN.out B79.out)
    have K9 : Hid (Below w.heap.size w W9) := Lib.hid (K1.out.trans (L19.out.mono K1.out.size))
    go_wp2_with fail
    rw [hW9.out]
    refine HC2.out.mono ?_
    rintro e w10 ⟨rfl, q10, rfl⟩
    clear x0 x1 x2 x3 v0 v1 v2 v3 n0 n1 n2 n3 l1 l5 l6 hs9
    obtain ⟨⟨n0, n1, n2, n3⟩, -⟩ := box4f QN9.out
    have l6 := lt_heap QN9.out
    go_wp2_with fail
    refine (HAW.out _ (HW0.out.below (below_drewN K9.out q10))).mono ?_
    rintro e w11 ⟨rfl, hb11⟩
    have HB11 : Hid (Below w.heap.size w w11) := Lib.hid ((below_drewN K9.out q10).trans (hb11.mono K9.out.size))
    clear hb11
    go_wp2_with fail
    go_ret
    exact ⟨rfl, HB11.out⟩

set_option maxRecDepth 100000 in
set_option maxHeartbeats 8000000 in
theorem lifted (os : Os) (started : os.Started) (H : Type) (enc : TypeId × Value → H) :
    ReturnsInHanded {} Tryz.checked os 6 .any (fun w args => (Rows.treeParensSpec.pre enc Tryz.prog Tryz.f6 [] false w args ∧ laidMetH Tryz.prog laidW w) ∧ sizedMet enc Tryz.prog Tryz.f6 (OpenSpec.ofChange Rows.treeParensSpec) false w args) (Rows.treeParensSpec.post enc Tryz.prog Tryz.f6 false true false false) := by
  refine returnsInHanded_of_change_and (C := Tryz.checked) (X := fun w _ => laidMetH Tryz.prog laidW w) (fun _ _ _ hh h => h.of_heap hh) knob_own started (by as_aux_lemma => kernel_rfl) Tryz.func6
    (ChangeSpec.witness_shaped (enc := enc) (C := Tryz.checked) (os := os) (X := fun w _ => laidMetH Tryz.prog laidW w) false (World.doorLaid Tryz.prog 400 os) #[.int .u8 0, .int .u8 0] 8 rfl (World.shaped_of_RefB (by as_aux_lemma => kernel_rfl) (by as_aux_lemma => kernel_rfl)) (by as_aux_lemma => kernel_rfl) (by as_aux_lemma => kernel_rfl) (by as_aux_lemma => kernel_rfl) (doorW_met os _)) ?_
  intro W base args ds gs before hval0 hW _ _ hL _
  have hval : ∀ (j : Nat) t v, Tryz.f6.params[j]? = some t → args[j]? = some v → Value.okWide Tryz.prog W .any base t v := hval0
  have hW' := hW
  obtain ⟨p, q, hA0, hV, rfl, hfz, hnd⟩ := hW
  have hA : DataW.TrodAll enc Tryz.prog W 0 (fun _ => true) true Tryz.f6.params.toList args.toList ds p := hA0
  rw [Tryz.params6] at hA hval
  obtain ⟨v0, vs0, d0, ds0, p0, q0, hargs, rfl, rfl, h0, r0⟩ := trodAll_cons hA
  obtain ⟨v1, vs1, d1, ds1, p1, q1, rfl, rfl, rfl, h1, r1⟩ := trodAll_cons r0
  obtain ⟨rfl, rfl, rfl⟩ := trodAll_nil r1
  obtain rfl : args = #[v0, v1] := by cases args; simp_all
  obtain ⟨rfl, rfl⟩ := trodVars_none hV
  have lt0 : ∀ x ∈ p0, x.block < W.heap.size := by obtain ⟨m, hm⟩ := h0; exact DataW.trod_lt m _ _ _ hm
  have k0 := h0
  obtain ⟨a0, rfl, _, _, w0⟩ := open_int Tryz.underlying5 (hval 0 5 v0 rfl rfl) h0
  have lt1 : ∀ x ∈ p1, x.block < W.heap.size := by obtain ⟨m, hm⟩ := h1; exact DataW.trod_lt m _ _ _ hm
  have k1 := h1
  obtain ⟨a1, rfl, _, _, w1⟩ := open_int Tryz.underlying5 (hval 1 5 v1 rfl rfl) h1
  clear hA0 hval0
  refine (walk W (w9_laid hL) a0 a1 w0 w1).mono fun e W' ⟨he, bel⟩ => ?_
  subst he
  exact ⟨_, rfl, _, _, _, [], _, [], hW', trodAll_mk1 (shut_bool Tryz.underlying4 _), (trodAll_cons_mk (Below.trod laid_out (by as_aux_lemma => kernel_rfl) (of_decide_eq_true (by as_aux_lemma => kernel_rfl)) k0 bel lt0) (trodAll_cons_mk (Below.trod laid_out (by as_aux_lemma => kernel_rfl) (of_decide_eq_true (by as_aux_lemma => kernel_rfl)) k1 bel lt1) (trodAll_mk0))), rfl, bel.frame _, fun h => by cases h⟩

set_option maxHeartbeats 8000000 in
theorem closed : joinedFacts Tryz.pinned.checked.prog 6 Tryz.f6 Rows.treeParensSpec Rows.treeParensRow = true := by
  unfold joinedFacts
  simp only [Bool.and_eq_true]
  repeat' apply And.intro
  all_goals (as_aux_lemma => kernel_rfl)

set_option maxHeartbeats 8000000 in
theorem over : Rows.treeParensRow.holds Tryz.pinned (OpenSpec.ofChange Rows.treeParensSpec) :=
  OpenClaim.holds_of_wide 6 Tryz.f6 rfl rfl rfl rfl rfl rfl rfl ⟨rfl, rfl, rfl, rfl, rfl⟩ rfl rfl rfl rfl rfl (by as_aux_lemma => kernel_rfl) Tryz.func6 closed
    (of_decide_eq_true (by as_aux_lemma => kernel_rfl)) (by unfold Func.isWrapper; first | (rw [if_pos (by decide +kernel)]; kernel_rfl) | (rw [if_neg (by decide +kernel)]; exact ⟨rfl, rfl⟩))
    (fun os started H enc _ => lifted os started H enc)

set_option maxHeartbeats 8000000 in
theorem proved : Rows.TreeParensCardSaid :=
  Claim7.holds_tied_plain_at .later [] [.data, .data, .data, .sentinel, .sentinel, .data] true Rows.treeParensCard.stood.harness Rows.treeParensCard.stood.looks
    over (fun _ h => by cases h) (by as_aux_lemma => kernel_rfl) (fun _ h => by cases h) treeParens_row_tie rfl ⟨rfl, rfl⟩ (by as_aux_lemma => kernel_rfl) rfl
    (fun f fn hf hfn => by
      obtain rfl : f = 6 := Option.some.inj ((show Tryz.prog.funcNamed "drover/droverlaw09.TreeParens" = some 6 by as_aux_lemma => kernel_rfl).symm.trans hf) |>.symm
      obtain rfl : fn = Tryz.f6 := (Option.some.inj (Tryz.func6.symm.trans hfn)).symm
      exact ⟨by as_aux_lemma => kernel_rfl, fun j t ht => by
        have hall : (Tryz.f6.params.toList.all fun u => !Tryz.prog.wantsStandIn u) = true := by as_aux_lemma => kernel_rfl
        have hm : t ∈ Tryz.f6.params.toList := Array.mem_toList_iff.2 (Array.mem_of_getElem? ht)
        exact (show Tryz.prog.wantsStandIn t = false by simpa using List.all_eq_true.1 hall t hm)⟩)
    (by as_aux_lemma => kernel_rfl)
end Go.Proofs.YteacmanbiamhoaaGreatDoor.treeParens
