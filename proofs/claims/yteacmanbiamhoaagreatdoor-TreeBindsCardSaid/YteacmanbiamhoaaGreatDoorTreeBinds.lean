/- droverlaw09.TreeBinds returns true whatever its arguments: of two operations side by side the tighter one is told first. For every input, without conditions. -/
import Derived.Test.YteacmanbiamhoaaGreatDoorRow
import Derived.Test.YteacmanbiamhoaaGreatDoorZf
import Derived.Test.YteacmanbiamhoaaGreatDoorDoor09
import Derived.Test.YteacmanbiamhoaaGreatDoorCards
import Derived.SevenTiedAt
import Derived.Test.YteacmanbiamhoaaGreatDoorRe
import Derived.Test.YteacmanbiamhoaaGreatDoorZk
import Derived.Test.YteacmanbiamhoaaGreatDoorDoor9k
import Derived.Deep.QuietTactic
namespace Go.Proofs.YteacmanbiamhoaaGreatDoor.treeBinds
open Go.ChangeShapes Go.WideShapes Go.ChangeAt Go.RowKit
set_option linter.unusedVariables false

def sgO : Obj := .cells (sgB.map fun s => Value.string (strOf s)).toArray 9
def sgT : List Nat := [124, 124, 32, 38, 38, 32, 61, 61, 32, 33, 61, 32, 60, 32, 60, 61, 32, 62, 32, 62, 61, 32, 43, 32, 45, 32, 43, 43, 32, 42, 32, 47, 32, 37]
theorem sgO_at (w : World) (p : Nat) (hp : p < 14) (g : Nat) (hg : w.heap[g]? = some sgO) : w.cell? ⟨g, p, none⟩ = some (.string (strOf (sgB.getD p []))) := by
  unfold sgO at hg
  rw [cell_block hg p]
  have h18 : sgB.length = 14 := by decide
  rw [List.getElem?_toArray, List.getElem?_map, List.getElem?_eq_getElem (by omega), List.getD_eq_getElem?_getD, List.getElem?_eq_getElem (by omega)]
  rfl
theorem fields_sgB : Lib.fields (strOf sgT).data.toList = sgB.map fun s => s.map UInt8.ofNat := by kernel_rfl
theorem fields_sg (S : ByteArray) (hS : S = strOf sgT) (w : World) (htab : Lib.TabIs Tryz.prog w "strings.asciiSpace" .u8 Lib.asciiSpaceTab) :
    Calls Tryz.prog 23 #[.string S] w fun e w' => e = .returned (.slice (some ⟨w.heap.size, 0, none⟩) 14 14) ∧ w' = w.alloc sgO := by
  subst hS
  refine (Tryz.strings_Fields (strOf sgT) w (by rw [strOf_size]; decide) ?_ htab).mono ?_
  · intro j b hb
    have h : ∀ x ∈ (strOf sgT).data.toList, x.toNat < 128 := by
      rw [strOf_data]
      decide +kernel
    exact h b (List.mem_of_getElem? hb)
  · rintro e w' ⟨rfl, rfl⟩
    rw [fields_sgB]
    refine ⟨?_, ?_⟩
    · rw [List.length_map]; rfl
    · unfold sgO
      rw [List.map_map]
      rfl
theorem sg_len : ∀ i, i < 14 → (sgB.getD i []).length ≤ 2 ∧ ∀ x ∈ sgB.getD i [], x < 256 := by
  have h : ((List.range 14).all fun i => decide ((sgB.getD i []).length ≤ 2) && (sgB.getD i []).all fun x => decide (x < 256)) = true := by decide
  intro i hi
  have h1 := List.all_eq_true.1 h i (by simpa using hi)
  simp only [Bool.and_eq_true, decide_eq_true_eq, List.all_eq_true] at h1
  exact h1
theorem ex_8 {t : List Nat} (h : ∀ x ∈ t, x < 256) : ∀ x ∈ exTx t, x < 256 := by
  intro x hx
  unfold exTx at hx
  simp only [List.mem_append] at hx
  rcases hx with (hx | hx) | hx
  · revert x; unfold preE; decide
  · exact h x hx
  · revert x; unfold endE; decide
theorem bd_8 {s t : List Nat} (h1 : ∀ x ∈ s, x < 256) (h2 : ∀ x ∈ t, x < 256) : ∀ x ∈ bdTx s t, x < 256 := by
  intro x hx
  unfold bdTx at hx
  simp only [List.mem_append] at hx
  rcases hx with (((hx | hx) | hx) | hx) | hx
  · simp at hx; omega
  · exact h1 x hx
  · simp at hx; omega
  · exact h2 x hx
  · simp at hx; omega
set_option maxRecDepth 100000 in
set_option maxHeartbeats 4000000 in
theorem rank_any (i : Nat) (hi : i < 14) (S : ByteArray) (hS : S = strOf (sgB.getD i [])) (w : World) :
    Calls Tryz.prog 25 #[.string S] w fun e w' => e = .returned (.int .i64 ((rkB (sgB.getD i []) : Nat) : Int)) ∧ w' = w := by
  have hc : i = 0 ∨ i = 1 ∨ i = 2 ∨ i = 3 ∨ i = 4 ∨ i = 5 ∨ i = 6 ∨ i = 7 ∨ i = 8 ∨ i = 9 ∨ i = 10 ∨ i = 11 ∨ i = 12 ∨ i = 13 := by omega
  rcases hc with rfl | rfl | rfl | rfl | rfl | rfl | rfl | rfl | rfl | rfl | rfl | rfl | rfl | rfl
  · have e : S = ⟨#[124, 124]⟩ := hS.trans rfl
    subst e
    clear hS hi
    go_enter Tryz.func25, Tryz.ntmps25
    go_wp2_with fail
    go_ret
    exact ⟨rfl, rfl⟩
  · have e : S = ⟨#[38, 38]⟩ := hS.trans rfl
    subst e
    clear hS hi
    go_enter Tryz.func25, Tryz.ntmps25
    go_wp2_with fail
    go_ret
    exact ⟨rfl, rfl⟩
  · have e : S = ⟨#[61, 61]⟩ := hS.trans rfl
    subst e
    clear hS hi
    go_enter Tryz.func25, Tryz.ntmps25
    go_wp2_with fail
    go_ret
    exact ⟨rfl, rfl⟩
  · have e : S = ⟨#[33, 61]⟩ := hS.trans rfl
    subst e
    clear hS hi
    go_enter Tryz.func25, Tryz.ntmps25
    go_wp2_with fail
    go_ret
    exact ⟨rfl, rfl⟩
  · have e : S = ⟨#[60]⟩ := hS.trans rfl
    subst e
    clear hS hi
    go_enter Tryz.func25, Tryz.ntmps25
    go_wp2_with fail
    go_ret
    exact ⟨rfl, rfl⟩
  · have e : S = ⟨#[60, 61]⟩ := hS.trans rfl
    subst e
    clear hS hi
    go_enter Tryz.func25, Tryz.ntmps25
    go_wp2_with fail
    go_ret
    exact ⟨rfl, rfl⟩
  · have e : S = ⟨#[62]⟩ := hS.trans rfl
    subst e
    clear hS hi
    go_enter Tryz.func25, Tryz.ntmps25
    go_wp2_with fail
    go_ret
    exact ⟨rfl, rfl⟩
  · have e : S = ⟨#[62, 61]⟩ := hS.trans rfl
    subst e
    clear hS hi
    go_enter Tryz.func25, Tryz.ntmps25
    go_wp2_with fail
    go_ret
    exact ⟨rfl, rfl⟩
  · have e : S = ⟨#[43]⟩ := hS.trans rfl
    subst e
    clear hS hi
    go_enter Tryz.func25, Tryz.ntmps25
    go_wp2_with fail
    go_ret
    exact ⟨rfl, rfl⟩
  · have e : S = ⟨#[45]⟩ := hS.trans rfl
    subst e
    clear hS hi
    go_enter Tryz.func25, Tryz.ntmps25
    go_wp2_with fail
    go_ret
    exact ⟨rfl, rfl⟩
  · have e : S = ⟨#[43, 43]⟩ := hS.trans rfl
    subst e
    clear hS hi
    go_enter Tryz.func25, Tryz.ntmps25
    go_wp2_with fail
    go_ret
    exact ⟨rfl, rfl⟩
  · have e : S = ⟨#[42]⟩ := hS.trans rfl
    subst e
    clear hS hi
    go_enter Tryz.func25, Tryz.ntmps25
    go_wp2_with fail
    go_ret
    exact ⟨rfl, rfl⟩
  · have e : S = ⟨#[47]⟩ := hS.trans rfl
    subst e
    clear hS hi
    go_enter Tryz.func25, Tryz.ntmps25
    go_wp2_with fail
    go_ret
    exact ⟨rfl, rfl⟩
  · have e : S = ⟨#[37]⟩ := hS.trans rfl
    subst e
    clear hS hi
    go_enter Tryz.func25, Tryz.ntmps25
    go_wp2_with fail
    go_ret
    exact ⟨rfl, rfl⟩
/-- What reads as an operation of two. -/
theorem op_rd {w : World} {S : Nat → Prop} {s : List Nat} {x y : Ex} {v : Value} (hS : ∀ b, S b → b < w.heap.size) (h : Rd w S (Ex.nd (.mk 7 s 0 [x, y])) v) : ∃ b o c k0 s0 z0 A0 n0 d0 k1 s1 z1 A1 n1 d1, v = .agg #[.int .u8 7, .string (strOf s), .int .i64 0, .slice (some ⟨b, o, none⟩) 2 c] ∧ b < w.heap.size ∧ 2 ≤ c ∧
    (w.cell? ⟨b, o, none⟩ = some (.int .u8 k0) ∧ w.cell? ⟨b, o + 1, none⟩ = some (.string s0) ∧ w.cell? ⟨b, o + 2, none⟩ = some (.int .i64 z0) ∧ w.cell? ⟨b, o + 3, none⟩ = some (.slice A0 n0 d0)) ∧
    (w.cell? ⟨b, o + 4, none⟩ = some (.int .u8 k1) ∧ w.cell? ⟨b, o + 5, none⟩ = some (.string s1) ∧ w.cell? ⟨b, o + 6, none⟩ = some (.int .i64 z1) ∧ w.cell? ⟨b, o + 7, none⟩ = some (.slice A1 n1 d1)) ∧
    Rd w S x.nd (.agg #[.int .u8 k0, .string s0, .int .i64 z0, .slice A0 n0 d0]) ∧ Rd w S y.nd (.agg #[.int .u8 k1, .string s1, .int .i64 z1, .slice A1 n1 d1]) := by
  obtain ⟨u, rfl, -, -, hu⟩ := (Ex.rd _ _ _ _ _).1 h
  rw [Rd] at hu
  obtain ⟨A, c, rfl, hc, -, hr⟩ := hu
  obtain ⟨b, o, vs, rfl, hSb, hvl, hrg, hx⟩ := hr.at 0 x.nd rfl
  obtain ⟨b', o', vs', e, -, hvl', hrg', hy⟩ := hr.at 1 y.nd rfl
  cases e
  obtain ⟨k0, s0, z0, l0⟩ := x
  obtain ⟨k1, s1, z1, l1⟩ := y
  obtain ⟨u0, e0, -, -, h0⟩ := (Ex.rd _ _ _ _ _).1 hx
  obtain ⟨u1, e1, -, -, h1⟩ := (Ex.rd _ _ _ _ _).1 hy
  obtain ⟨A0, n0, d0, rfl⟩ := h0.rowf
  obtain ⟨A1, n1, d1, rfl⟩ := h1.rowf
  obtain rfl := bx4v e0
  obtain rfl := bx4v e1
  exact ⟨b, o, c, _, _, _, A0, n0, d0, _, _, _, A1, n1, d1, rfl, hS b hSb, hc, ⟨hrg 0 _ rfl, hrg 1 _ rfl, hrg 2 _ rfl, hrg 3 _ rfl⟩, ⟨hrg' 0 _ rfl, hrg' 1 _ rfl, hrg' 2 _ rfl, hrg' 3 _ rfl⟩, hx, hy⟩
theorem op_val {w : World} {S : Nat → Prop} {s : List Nat} {x y : Ex} {k : Int} {q : ByteArray} {z : Int} {A : Option Addr} {n d : Nat} (h : Rd w S (Ex.nd (.mk 7 s 0 [x, y])) (.agg #[.int .u8 k, .string q, .int .i64 z, .slice A n d])) : k = 7 ∧ q = strOf s ∧ n = 2 := by
  obtain ⟨u, e, -, -, hu⟩ := (Ex.rd _ _ _ _ _).1 h
  rw [Rd] at hu
  obtain ⟨A', c, rfl, -⟩ := hu
  simp at e
  exact ⟨e.1, e.2.1, e.2.2.2.2.1⟩

set_option maxRecDepth 100000 in
set_option maxHeartbeats 8000000 in
theorem walk (w : World) (htab : W9k w) (a0 : Int) (a1 : Int) (w0 : (Lit.int .u8 a0).wf = true) (w1 : (Lit.int .u8 a1).wf = true) :
    Calls Tryz.prog 5 #[.int .u8 a0, .int .u8 a1] w fun e w' => e = .returned (.bool true) ∧ Below w.heap.size w w' := by
  obtain ⟨z0, rfl, hn0⟩ := wf_u8 w0
  obtain ⟨z1, rfl, hn1⟩ := wf_u8 w1
  obtain ⟨i, hi, hi14⟩ : ∃ a : Nat, (z0 : Int).tmod 14 = (a : Int) ∧ a < 14 := ⟨z0 % 14, (Int.tmod_eq_emod_of_nonneg (by omega)).trans (by omega), by omega⟩
  obtain ⟨j, hj, hj14⟩ : ∃ a : Nat, (z1 : Int).tmod 14 = (a : Int) ∧ a < 14 := ⟨z1 % 14, (Int.tmod_eq_emod_of_nonneg (by omega)).trans (by omega), by omega⟩
  have wz0 : IntKind.i64.wrap (z0 : Int) = (z0 : Int) := IntWalk.i64_in _ (by omega)
  have wz1 : IntKind.i64.wrap (z1 : Int) = (z1 : Int) := IntWalk.i64_in _ (by omega)
  clear w0 w1
  have HW0 := Lib.hid htab.w9
  have HAW := Lib.hid (fun w hw => awake09_any w hw)
  have hij := bd_ok hi14 hj14
  obtain ⟨l1, h81⟩ := sg_len i hi14
  obtain ⟨l2, h82⟩ := sg_len j hj14
  obtain ⟨SI, hSI⟩ : ∃ S, Hid (strOf (sgB.getD i []) = S) := ⟨_, Lib.hid rfl⟩
  obtain ⟨SJ, hSJ⟩ : ∃ S, Hid (strOf (sgB.getD j []) = S) := ⟨_, Lib.hid rfl⟩
  have HRI := Lib.hid (fun w' => rank_any i hi14 SI hSI.out.symm w')
  have HRJ := Lib.hid (fun w' => rank_any j hj14 SJ hSJ.out.symm w')
  have HFI := Lib.hid (fun S (hS : S = strOf sgT) w h => fields_sg S hS w h)
  have HTB := Lib.hid htab.wk.sp
  obtain ⟨W, hW⟩ : ∃ W, Hid (w.alloc sgO = W) := ⟨_, Lib.hid rfl⟩
  have HBA : Hid (Below w.heap.size w W) := Lib.hid (by rw [← hW.out]; exact (Below.refl _ _).alloc (Nat.le_refl _) _)
  have c1 : W.cell? ⟨w.heap.size, i, none⟩ = some (.string SI) := by rw [← hSI.out, ← hW.out]; exact sgO_at _ i hi14 _ (heap_new w _)
  have c2 : W.cell? ⟨w.heap.size, j, none⟩ = some (.string SJ) := by rw [← hSJ.out, ← hW.out]; exact sgO_at _ j hj14 _ (heap_new w _)
  obtain ⟨P1, hP1⟩ : ∃ S, Hid (strOf ([49, 32] ++ sgB.getD i []) = S) := ⟨_, Lib.hid rfl⟩
  obtain ⟨P2, hP2⟩ : ∃ S, Hid (strOf ([49, 32] ++ sgB.getD i [] ++ [32, 50, 32]) = S) := ⟨_, Lib.hid rfl⟩
  obtain ⟨P3, hP3⟩ : ∃ S, Hid (strOf ([49, 32] ++ sgB.getD i [] ++ [32, 50, 32] ++ sgB.getD j []) = S) := ⟨_, Lib.hid rfl⟩
  obtain ⟨P4, hP4⟩ : ∃ S, Hid (strOf (bdTx (sgB.getD i []) (sgB.getD j [])) = S) := ⟨_, Lib.hid rfl⟩
  have s1 : ∀ w, (Op.stringOp .add ⟨#[49, 32]⟩ SI).run Tryz.prog w = .ok (.string P1) w := fun w => by
    rw [← hP1.out, ← hSI.out]
    exact add_strs2 [49, 32] _ (by simp only [List.length_cons, List.length_nil]; omega) w
  have s2 : ∀ w, (Op.stringOp .add P1 ⟨#[32, 50, 32]⟩).run Tryz.prog w = .ok (.string P2) w := fun w => by
    rw [← hP1.out, ← hP2.out]
    exact add_strs2 _ [32, 50, 32] (by simp only [List.length_append, List.length_cons, List.length_nil]; omega) w
  have s3 : ∀ w, (Op.stringOp .add P2 SJ).run Tryz.prog w = .ok (.string P3) w := fun w => by
    rw [← hP2.out, ← hP3.out, ← hSJ.out]
    exact add_strs2 _ _ (by simp only [List.length_append, List.length_cons, List.length_nil]; omega) w
  have s4 : ∀ w, (Op.stringOp .add P3 ⟨#[32, 51]⟩).run Tryz.prog w = .ok (.string P4) w := fun w => by
    rw [← hP3.out, ← hP4.out]
    exact add_strs2 _ [32, 51] (by simp only [List.length_append, List.length_cons, List.length_nil]; omega) w
  have t8 := bd_8 h81 h82
  have tl : (bdTx (sgB.getD i []) (sgB.getD j [])).length ≤ 30 := by unfold bdTx; simp only [List.length_append, List.length_cons, List.length_nil]; omega
  obtain ⟨s, hs⟩ : ∃ s, sgB.getD i [] = s := ⟨_, rfl⟩
  obtain ⟨t, ht⟩ : ∃ t, sgB.getD j [] = t := ⟨_, rfl⟩
  unfold bdOk at hij
  rw [hs, ht] at hij t8 tl
  rw [hs] at HRI hSI
  rw [ht] at HRJ hSJ
  have hP4' : P4 = strOf (bdTx s t) := by rw [← hP4.out, hs, ht]
  obtain ⟨rs, hrs⟩ : ∃ r, rkB s = r := ⟨_, rfl⟩
  obtain ⟨rt, hrt⟩ : ∃ r, rkB t = r := ⟨_, rfl⟩
  rw [hrs] at HRI hij
  rw [hrt] at HRJ hij
  have hli : (i : Int) < 14 := by omega
  have hlj : (j : Int) < 14 := by omega
  clear l1 l2 h81 h82 hP1 hP2 hP3 hP4 hs ht hi14 hj14
  go_enter Tryz.func5, Tryz.ntmps5
  go_wp2_with fail
  refine (HFI.out _ rfl _ HTB.out).mono ?_
  rintro e w1 ⟨rfl, hw1⟩
  rw [hW.out] at hw1
  subst hw1
  go_wp2_with fail
  go_quiet (fail)
  have HBN : Hid (Below w.heap.size w (w1.drewN nq)) := Lib.hid (below_drewN HBA.out nq)
  clear c1 c2 hi hj wz0 wz1 hli hlj
  by_cases hA : rs = 3 ∧ rt = 3
  · rw [if_pos hA] at hij
    obtain ⟨rfl, rfl⟩ := hA
    have HE := Lib.hid (fun (W' : World) (hb : Below w.heap.size w W') => expr_no (bdTx s t) (ex_8 t8) (by omega) hij P4 hP4' W' (htab.w9.wt.below hb))
    clear hij t8 tl hrs hrt hP4' htab
    go_wp2_with fail
    refine (HE.out _ HBN.out).mono ?_
    rintro e w2 ⟨rfl, hb2⟩
    have HB2 := Lib.hid ((HBN.out.trans (hb2.mono HBN.out.size)).alloc (Nat.le_trans HBN.out.size hb2.size) (.cells #[.int .u8 0, .string ⟨#[]⟩, .int .i64 0, .slice none 0 0] 46))
    clear hb2
    go_wp2_with fail
    refine (HRI.out _).mono ?_
    rintro e w3 ⟨rfl, rfl⟩
    go_wp2_with fail
    refine (HRJ.out _).mono ?_
    rintro e w4 ⟨rfl, rfl⟩
    go_wp2_with fail
    refine (HAW.out _ (HW0.out.below HB2.out)).mono ?_
    rintro e w5 ⟨rfl, hb5⟩
    have HB5 := Lib.hid (HB2.out.trans (hb5.mono HB2.out.size))
    clear hb5
    go_wp2_with fail
    go_ret
    exact ⟨rfl, HB5.out⟩
  · rw [if_neg hA] at hij
    have HE := Lib.hid (fun (W' : World) (hb : Below w.heap.size w W') => expr_any (bdTx s t) (ex_8 t8) (by omega) (bdX s t) hij P4 hP4' W' (htab.w9.wt.below hb))
    unfold bdX at HE
    rw [hrs, hrt] at HE
    clear hij t8 tl hrs hrt hP4' htab
    go_wp2_with fail
    refine (HE.out _ HBN.out).mono ?_
    rintro e w2 ⟨v, rfl, hr2, hb2⟩
    have HB2 := Lib.hid (HBN.out.trans (hb2.mono HBN.out.size))
    clear hb2
    by_cases hL : rt ≤ rs
    · rw [if_pos hL] at hr2
      have hLd : decide ((rt : Int) ≤ (rs : Int)) = true := decide_eq_true (by omega)
      have hLi : (rt : Int) ≤ (rs : Int) := by omega
      obtain ⟨b, o, c, k0, s0, z0', A0, n0', d0, k1, s1', z1', A1, n1', d1, rfl, hbl, hc2, ⟨g0, g1, g2, g3⟩, ⟨g4, g5, g6, g7⟩, hx, hy⟩ := op_rd (fun b hb => hb.2) hr2
      obtain ⟨rfl, rfl, rfl⟩ := op_val hx
      rw [hSJ.out]
      rw [hSI.out] at g1
      clear hr2 hx hy hL
      have HB3 := Lib.hid (HB2.out.alloc HB2.out.size (.cells #[.int .u8 7, .string SJ, .int .i64 0, .slice (some ⟨b, o, none⟩) 2 c] 46))
      have HBX := Lib.hid (fun o' => HB3.out.alloc HB3.out.size o')
      by_cases h3 : rs = 3
      · have hrt3 : ¬ rt = 3 := fun e => hA ⟨h3, e⟩
        subst h3
        have r1 : ((rt : Int) == 3) = false := beq_eq_false_iff_ne.2 (by omega)
        clear hA hrt3
        go_wp2_with fail
        refine (HRI.out _).mono ?_
        rintro e w3 ⟨rfl, rfl⟩
        go_wp2_with fail
        refine (HRJ.out _).mono ?_
        rintro e w4 ⟨rfl, rfl⟩
        go_wp2_with fail
        refine (HRI.out _).mono ?_
        rintro e w5 ⟨rfl, rfl⟩
        go_wp2_with fail
        refine (HRJ.out _).mono ?_
        rintro e w6 ⟨rfl, rfl⟩
        go_wp2_with fail
        refine (HAW.out _ (HW0.out.below (HBX.out _))).mono ?_
        rintro e w7 ⟨rfl, hb7⟩
        have HB7 := Lib.hid ((HBX.out _).trans (hb7.mono (HBX.out _).size))
        clear hb7
        go_wp2_with fail
        go_ret
        exact ⟨rfl, HB7.out⟩
      · have r1 : ((rs : Int) == 3) = false := beq_eq_false_iff_ne.2 (by omega)
        clear hA
        go_wp2_with fail
        refine (HRI.out _).mono ?_
        rintro e w3 ⟨rfl, rfl⟩
        go_wp2_with fail
        refine (HRI.out _).mono ?_
        rintro e w5 ⟨rfl, rfl⟩
        go_wp2_with fail
        refine (HRJ.out _).mono ?_
        rintro e w6 ⟨rfl, rfl⟩
        go_wp2_with fail
        refine (HAW.out _ (HW0.out.below (HBX.out _))).mono ?_
        rintro e w7 ⟨rfl, hb7⟩
        have HB7 := Lib.hid ((HBX.out _).trans (hb7.mono (HBX.out _).size))
        clear hb7
        go_wp2_with fail
        go_ret
        exact ⟨rfl, HB7.out⟩
    · rw [if_neg hL] at hr2
      have hLd : decide ((rt : Int) ≤ (rs : Int)) = false := decide_eq_false (by omega)
      have hLi : ¬ (rt : Int) ≤ (rs : Int) := by omega
      obtain ⟨b, o, c, k0, s0, z0', A0, n0', d0, k1, s1', z1', A1, n1', d1, rfl, hbl, hc2, ⟨g0, g1, g2, g3⟩, ⟨g4, g5, g6, g7⟩, hx, hy⟩ := op_rd (fun b hb => hb.2) hr2
      obtain ⟨rfl, rfl, rfl⟩ := op_val hy
      rw [hSI.out]
      rw [hSJ.out] at g5
      clear hr2 hx hy hL
      have HB3 := Lib.hid (HB2.out.alloc HB2.out.size (.cells #[.int .u8 7, .string SI, .int .i64 0, .slice (some ⟨b, o, none⟩) 2 c] 46))
      have HBX := Lib.hid (fun o' => HB3.out.alloc HB3.out.size o')
      by_cases h3 : rs = 3
      · have hrt3 : ¬ rt = 3 := fun e => hA ⟨h3, e⟩
        subst h3
        have r1 : ((rt : Int) == 3) = false := beq_eq_false_iff_ne.2 (by omega)
        clear hA hrt3
        go_wp2_with fail
        refine (HRI.out _).mono ?_
        rintro e w3 ⟨rfl, rfl⟩
        go_wp2_with fail
        refine (HRJ.out _).mono ?_
        rintro e w4 ⟨rfl, rfl⟩
        go_wp2_with fail
        refine (HRI.out _).mono ?_
        rintro e w5 ⟨rfl, rfl⟩
        go_wp2_with fail
        refine (HRJ.out _).mono ?_
        rintro e w6 ⟨rfl, rfl⟩
        go_wp2_with fail
        refine (HAW.out _ (HW0.out.below (HBX.out _))).mono ?_
        rintro e w7 ⟨rfl, hb7⟩
        have HB7 := Lib.hid ((HBX.out _).trans (hb7.mono (HBX.out _).size))
        clear hb7
        go_wp2_with fail
        go_ret
        exact ⟨rfl, HB7.out⟩
      · have r1 : ((rs : Int) == 3) = false := beq_eq_false_iff_ne.2 (by omega)
        clear hA
        go_wp2_with fail
        refine (HRI.out _).mono ?_
        rintro e w3 ⟨rfl, rfl⟩
        go_wp2_with fail
        refine (HRI.out _).mono ?_
        rintro e w5 ⟨rfl, rfl⟩
        go_wp2_with fail
        refine (HRJ.out _).mono ?_
        rintro e w6 ⟨rfl, rfl⟩
        go_wp2_with fail
        refine (HAW.out _ (HW0.out.below (HBX.out _))).mono ?_
        rintro e w7 ⟨rfl, hb7⟩
        have HB7 := Lib.hid ((HBX.out _).trans (hb7.mono (HBX.out _).size))
        clear hb7
        go_wp2_with fail
        go_ret
        exact ⟨rfl, HB7.out⟩

set_option maxRecDepth 100000 in
set_option maxHeartbeats 8000000 in
theorem lifted (os : Os) (started : os.Started) (H : Type) (enc : TypeId × Value → H) :
    ReturnsInHanded {} Tryz.checked os 5 .any (fun w args => (Rows.treeBindsSpec.pre enc Tryz.prog Tryz.f5 [] false w args ∧ laidMetH Tryz.prog laidK w) ∧ sizedMet enc Tryz.prog Tryz.f5 (OpenSpec.ofChange Rows.treeBindsSpec) false w args) (Rows.treeBindsSpec.post enc Tryz.prog Tryz.f5 false true false false) := by
  refine returnsInHanded_of_change_and (C := Tryz.checked) (X := fun w _ => laidMetH Tryz.prog laidK w) (fun _ _ _ hh h => h.of_heap hh) knob_own started (by as_aux_lemma => kernel_rfl) Tryz.func5
    (ChangeSpec.witness_shaped (enc := enc) (C := Tryz.checked) (os := os) (X := fun w _ => laidMetH Tryz.prog laidK w) false (World.doorLaid Tryz.prog 400 os) #[.int .u8 0, .int .u8 0] 8 rfl (World.shaped_of_RefB (by as_aux_lemma => kernel_rfl) (by as_aux_lemma => kernel_rfl)) (by as_aux_lemma => kernel_rfl) (by as_aux_lemma => kernel_rfl) (by as_aux_lemma => kernel_rfl) (doorK_met os _)) ?_
  intro W base args ds gs before hval0 hW _ _ hL _
  have hval : ∀ (j : Nat) t v, Tryz.f5.params[j]? = some t → args[j]? = some v → Value.okWide Tryz.prog W .any base t v := hval0
  have hW' := hW
  obtain ⟨p, q, hA0, hV, rfl, hfz, hnd⟩ := hW
  have hA : DataW.TrodAll enc Tryz.prog W 0 (fun _ => true) true Tryz.f5.params.toList args.toList ds p := hA0
  rw [Tryz.params5] at hA hval
  obtain ⟨v0, vs0, d0, ds0, p0, q0, hargs, rfl, rfl, h0, r0⟩ := trodAll_cons hA
  obtain ⟨v1, vs1, d1, ds1, p1, q1, rfl, rfl, rfl, h1, r1⟩ := trodAll_cons r0
  obtain ⟨rfl, rfl, rfl⟩ := trodAll_nil r1
  obtain rfl : args = #[v0, v1] := by cases args; simp_all
  obtain ⟨rfl, rfl⟩ := trodVars_none hV
  have lt0 : ∀ x ∈ p0, x.block < W.heap.size := by obtain ⟨m, hm⟩ := h0; exact DataW.trod_lt m _ _ _ hm
  have k0 := h0
  obtain ⟨a0, rfl, _, _, w0⟩ := open_int Tryz.underlying5 (hval 0 5 v0 rfl rfl) h0
  have lt1 : ∀ x ∈ p1, x.block < W.heap.size := by obtain ⟨m, hm⟩ := h1; exact DataW.trod_lt m _ _ _ hm
  have k1 := h1
  obtain ⟨a1, rfl, _, _, w1⟩ := open_int Tryz.underlying5 (hval 1 5 v1 rfl rfl) h1
  clear hA0 hval0
  refine (walk W (w9k_laid hL) a0 a1 w0 w1).mono fun e W' ⟨he, bel⟩ => ?_
  subst he
  exact ⟨_, rfl, _, _, _, [], _, [], hW', trodAll_mk1 (shut_bool Tryz.underlying4 _), (trodAll_cons_mk (Below.trod laid_out (by as_aux_lemma => kernel_rfl) (of_decide_eq_true (by as_aux_lemma => kernel_rfl)) k0 bel lt0) (trodAll_cons_mk (Below.trod laid_out (by as_aux_lemma => kernel_rfl) (of_decide_eq_true (by as_aux_lemma => kernel_rfl)) k1 bel lt1) (trodAll_mk0))), rfl, bel.frame _, fun h => by cases h⟩

set_option maxHeartbeats 8000000 in
theorem closed : joinedFacts Tryz.pinned.checked.prog 5 Tryz.f5 Rows.treeBindsSpec Rows.treeBindsRow = true := by
  unfold joinedFacts
  simp only [Bool.and_eq_true]
  repeat' apply And.intro
  all_goals (as_aux_lemma => kernel_rfl)

set_option maxHeartbeats 8000000 in
theorem over : Rows.treeBindsRow.holds Tryz.pinned (OpenSpec.ofChange Rows.treeBindsSpec) :=
  OpenClaim.holds_of_wide 5 Tryz.f5 rfl rfl rfl rfl rfl rfl rfl ⟨rfl, rfl, rfl, rfl, rfl⟩ rfl rfl rfl rfl rfl (by as_aux_lemma => kernel_rfl) Tryz.func5 closed
    (of_decide_eq_true (by as_aux_lemma => kernel_rfl)) (by unfold Func.isWrapper; first | (rw [if_pos (by decide +kernel)]; kernel_rfl) | (rw [if_neg (by decide +kernel)]; exact ⟨rfl, rfl⟩))
    (fun os started H enc _ => lifted os started H enc)

set_option maxHeartbeats 8000000 in
theorem proved : Rows.TreeBindsCardSaid :=
  Claim7.holds_tied_plain_at .later [] [.data, .data, .data, .sentinel, .sentinel, .listed, .data, .data] true Rows.treeBindsCard.stood.harness Rows.treeBindsCard.stood.looks
    over (fun _ h => by cases h) (by as_aux_lemma => kernel_rfl) (fun _ h => by cases h) treeBinds_row_tie rfl ⟨rfl, rfl⟩ (by as_aux_lemma => kernel_rfl) rfl
    (fun f fn hf hfn => by
      obtain rfl : f = 5 := Option.some.inj ((show Tryz.prog.funcNamed "drover/droverlaw09.TreeBinds" = some 5 by as_aux_lemma => kernel_rfl).symm.trans hf) |>.symm
      obtain rfl : fn = Tryz.f5 := (Option.some.inj (Tryz.func5.symm.trans hfn)).symm
      exact ⟨by as_aux_lemma => kernel_rfl, fun j t ht => by
        have hall : (Tryz.f5.params.toList.all fun u => !Tryz.prog.wantsStandIn u) = true := by as_aux_lemma => kernel_rfl
        have hm : t ∈ Tryz.f5.params.toList := Array.mem_toList_iff.2 (Array.mem_of_getElem? ht)
        exact (show Tryz.prog.wantsStandIn t = false by simpa using List.all_eq_true.1 hall t hm)⟩)
    (by as_aux_lemma => kernel_rfl)
end Go.Proofs.YteacmanbiamhoaaGreatDoor.treeBinds
