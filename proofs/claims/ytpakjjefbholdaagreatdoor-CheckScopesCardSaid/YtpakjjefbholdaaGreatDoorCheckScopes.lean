/- droverlaw10.CheckScopes returns true whatever its arguments: a name that is let in braces is seen within them, behind its let, and not behind them. For every input, without conditions. -/
import Derived.Test.YtpakjjefbholdaaGreatDoorRow
import Derived.Test.YtpakjjefbholdaaGreatDoorKkm
import Derived.Test.YtpakjjefbholdaaGreatDoorDoor08
import Derived.Test.YtpakjjefbholdaaGreatDoorCards
import Derived.SevenTiedAt
import Derived.Deep.DeepCutAuto
namespace Go.Proofs.YtpakjjefbholdaaGreatDoor.checkScopes
open Go.ChangeShapes Go.WideShapes Go.ChangeAt Go.RowKit
set_option linter.unusedVariables false

def letT : List Nat := [108, 101, 116, 32, 120, 32, 61, 32, 49, 59, 32]
def setT : List Nat := [115, 101, 116, 32, 120, 32, 61, 32, 50, 59, 32]
def putT (a l i : Nat) : List Nat := (if i = l then letT else []) ++ (if i = a then setT else [])
def c0 : List Nat := [102, 117, 110, 99, 32, 102, 40, 41, 32, 123, 32]
def c1 : List Nat := [105, 102, 32, 40, 116, 114, 117, 101, 41, 32, 123, 32]
def c2 : List Nat := [125, 32]
def c3 : List Nat := [119, 104, 105, 108, 101, 32, 40, 102, 97, 108, 115, 101, 41, 32, 123, 32]
def c4 : List Nat := [125, 32]
def c5 : List Nat := [125]
def txtT (a l : Nat) : List Nat := c0 ++ putT a l 0 ++ c1 ++ putT a l 1 ++ c2 ++ putT a l 2 ++ c3 ++ putT a l 3 ++ c4 ++ putT a l 4 ++ c5
def seesB (a l : Nat) : Bool := decide (l = a) || decide (l = 0) || (decide (l = 2) && decide (2 ≤ a))
theorem all_f : ((List.range 5).all fun a => (List.range 5).all fun l => decide (faultF (txtT a l) = some (if seesB a l then (0, 0) else (110, 1)))) = true := by as_aux_lemma => kernel_rfl
theorem txt_f {a l : Nat} (ha : a < 5) (hl : l < 5) : faultF (txtT a l) = some (if seesB a l then 0 else 110, if seesB a l then 0 else 1) := by
  have h1 := List.all_eq_true.1 (List.all_eq_true.1 all_f a (by simpa using ha)) l (by simpa using hl)
  rw [of_decide_eq_true h1]
  cases seesB a l <;> rfl
theorem txt_8 {a l : Nat} (ha : a < 5) (hl : l < 5) : (∀ x ∈ txtT a l, x < 256) ∧ (txtT a l).length ≤ 200 := by
  have h : ((List.range 5).all fun a => (List.range 5).all fun l => (txtT a l).all (fun x => decide (x < 256)) && decide ((txtT a l).length ≤ 200)) = true := by as_aux_lemma => kernel_rfl
  have h1 := List.all_eq_true.1 (List.all_eq_true.1 h a (by simpa using ha)) l (by simpa using hl)
  simp only [Bool.and_eq_true, decide_eq_true_eq, List.all_eq_true] at h1
  exact h1
def twT : List Nat := [102, 117, 110, 99, 32, 102, 40, 41, 32, 123, 32, 108, 101, 116, 32, 120, 32, 61, 32, 49, 59, 32, 105, 102, 32, 40, 116, 114, 117, 101, 41, 32, 123, 32, 108, 101, 116, 32, 120, 32, 61, 32, 50, 59, 32, 125, 32, 125]
def apT : List Nat := [102, 117, 110, 99, 32, 102, 40, 41, 32, 123, 32, 105, 102, 32, 40, 116, 114, 117, 101, 41, 32, 123, 32, 108, 101, 116, 32, 120, 32, 61, 32, 49, 59, 32, 125, 32, 105, 102, 32, 40, 116, 114, 117, 101, 41, 32, 123, 32, 108, 101, 116, 32, 120, 32, 61, 32, 50, 59, 32, 125, 32, 125]
theorem tw_f : faultF twT = some (112, 1) := by as_aux_lemma => kernel_rfl
theorem ap_f : faultF apT = some (0, 0) := by as_aux_lemma => kernel_rfl
set_option maxRecDepth 100000 in
set_option maxHeartbeats 2000000 in
theorem put_any (a l i bl ba : Nat) (w : World) (hl : w.cell? ⟨bl, 0, none⟩ = some (.int .i64 (l : Int))) (ha : w.cell? ⟨ba, 0, none⟩ = some (.int .i64 (a : Int))) :
    Calls Tryz.prog 38 #[.int .i64 (i : Int), .pointer (some ⟨bl, 0, none⟩), .pointer (some ⟨ba, 0, none⟩)] w fun e w' => e = .returned (.string (strOf (putT a l i))) ∧ w' = w := by
  have e1 : ((i : Int) == (l : Int)) = decide (i = l) := by rw [Bool.eq_iff_iff, beq_iff_eq, decide_eq_true_iff]; omega
  have e2 : ((i : Int) == (a : Int)) = decide (i = a) := by rw [Bool.eq_iff_iff, beq_iff_eq, decide_eq_true_iff]; omega
  have ad1 : ∀ w, (Op.stringOp .add ⟨#[]⟩ ⟨#[108, 101, 116, 32, 120, 32, 61, 32, 49, 59, 32]⟩).run Tryz.prog w = .ok (.string (strOf letT)) w := add_strs2 [] letT (by decide)
  have ad2 : ∀ w, (Op.stringOp .add ⟨#[]⟩ ⟨#[115, 101, 116, 32, 120, 32, 61, 32, 50, 59, 32]⟩).run Tryz.prog w = .ok (.string (strOf setT)) w := add_strs2 [] setT (by decide)
  have ad3 : ∀ w, (Op.stringOp .add (strOf letT) ⟨#[115, 101, 116, 32, 120, 32, 61, 32, 50, 59, 32]⟩).run Tryz.prog w = .ok (.string (strOf (letT ++ setT))) w := add_strs2 letT setT (by decide)
  unfold putT
  obtain ⟨S1, h1⟩ : ∃ S, Hid (strOf letT = S) := ⟨_, Lib.hid rfl⟩
  obtain ⟨S2, h2⟩ : ∃ S, Hid (strOf setT = S) := ⟨_, Lib.hid rfl⟩
  obtain ⟨S3, h3⟩ : ∃ S, Hid (strOf (letT ++ setT) = S) := ⟨_, Lib.hid rfl⟩
  rw [h1.out] at ad1 ad3
  rw [h2.out] at ad2
  rw [h3.out] at ad3
  by_cases q1 : i = l
  · rw [decide_eq_true q1] at e1
    rw [if_pos q1]
    clear q1
    by_cases q2 : i = a
    · rw [decide_eq_true q2] at e2
      rw [if_pos q2, h3.out]
      clear q2
      go_enter Tryz.func38, Tryz.ntmps38
      go_wp2_with fail
      go_ret
      exact ⟨rfl, rfl⟩
    · rw [decide_eq_false q2] at e2
      rw [if_neg q2, List.append_nil, h1.out]
      clear q2
      go_enter Tryz.func38, Tryz.ntmps38
      go_wp2_with fail
      go_ret
      exact ⟨rfl, rfl⟩
  · rw [decide_eq_false q1] at e1
    rw [if_neg q1, List.nil_append]
    clear q1
    by_cases q2 : i = a
    · rw [decide_eq_true q2] at e2
      rw [if_pos q2, h2.out]
      clear q2
      go_enter Tryz.func38, Tryz.ntmps38
      go_wp2_with fail
      go_ret
      exact ⟨rfl, rfl⟩
    · rw [decide_eq_false q2] at e2
      rw [if_neg q2]
      clear q2
      go_enter Tryz.func38, Tryz.ntmps38
      go_wp2_with fail
      go_ret
      exact ⟨rfl, rfl⟩

set_option maxRecDepth 100000 in
set_option maxHeartbeats 8000000 in
theorem walk (w : World) (htab : Wt w) (a0 : Int) (a1 : Int) (w0 : (Lit.int .u8 a0).wf = true) (w1 : (Lit.int .u8 a1).wf = true) :
    Calls Tryz.prog 11 #[.int .u8 a0, .int .u8 a1] w fun e w' => e = .returned (.bool true) ∧ Below w.heap.size w w' := by
  obtain ⟨n0, rfl, hn0⟩ := wf_u8 w0
  obtain ⟨n1, rfl, hn1⟩ := wf_u8 w1
  obtain ⟨a, ha, ha5⟩ : ∃ a : Nat, (n0 : Int) % 5 = (a : Int) ∧ a < 5 := ⟨n0 % 5, by omega, by omega⟩
  obtain ⟨l, hl, hl5⟩ : ∃ a : Nat, (n1 : Int) % 5 = (a : Int) ∧ a < 5 := ⟨n1 % 5, by omega, by omega⟩
  clear w0 w1
  have HW0 := Lib.hid htab
  obtain ⟨t8, tl⟩ := txt_8 ha5 hl5
  have hB := two w (.cells #[.int .i64 (a : Int)] 3) (.cells #[.int .i64 (l : Int)] 3)
  have HB := Lib.hid hB
  have HQA := Lib.hid (heap_old (heap_new w (.cells #[.int .i64 (a : Int)] 3)) (.cells #[.int .i64 (l : Int)] 3))
  have HQL := Lib.hid (heap_new' (w.alloc (.cells #[.int .i64 (a : Int)] 3)) (.cells #[.int .i64 (l : Int)] 3) (w.heap.size + 1) (by simp))
  have HPUT := Lib.hid (fun (i : Nat) => put_any a l i (w.heap.size + 1) w.heap.size _ (cell_block HQL.out 0) (cell_block HQA.out 0))
  have hpl : ∀ i, (putT a l i).length ≤ 22 := fun i => by unfold putT; split <;> split <;> simp [letT, setT]
  obtain ⟨P0, hP0⟩ : ∃ S, Hid (strOf (putT a l 0) = S) := ⟨_, Lib.hid rfl⟩
  obtain ⟨P1, hP1⟩ : ∃ S, Hid (strOf (putT a l 1) = S) := ⟨_, Lib.hid rfl⟩
  obtain ⟨P2, hP2⟩ : ∃ S, Hid (strOf (putT a l 2) = S) := ⟨_, Lib.hid rfl⟩
  obtain ⟨P3, hP3⟩ : ∃ S, Hid (strOf (putT a l 3) = S) := ⟨_, Lib.hid rfl⟩
  obtain ⟨P4, hP4⟩ : ∃ S, Hid (strOf (putT a l 4) = S) := ⟨_, Lib.hid rfl⟩
  obtain ⟨S0, hS0⟩ : ∃ S, Hid (strOf (c0 ++ putT a l 0) = S) := ⟨_, Lib.hid rfl⟩
  have ad0 : ∀ w, (Op.stringOp .add ⟨#[102, 117, 110, 99, 32, 102, 40, 41, 32, 123, 32]⟩ P0).run Tryz.prog w = .ok (.string S0) w := fun w => by
    have := add_strs2 c0 (putT a l 0) (by (try simp only [List.length_append]); have := hpl 0; have := hpl 1; have := hpl 2; have := hpl 3; have := hpl 4; have e0 : c0.length = 11 := rfl; have e1 : c1.length = 12 := rfl; have e2 : c2.length = 2 := rfl; have e3 : c3.length = 16 := rfl; have e4 : c4.length = 2 := rfl; have e5 : c5.length = 1 := rfl; omega) w
    rw [hS0.out] at this
    rw [hP0.out] at this
    exact this
  obtain ⟨S1, hS1⟩ : ∃ S, Hid (strOf ((c0 ++ putT a l 0) ++ c1) = S) := ⟨_, Lib.hid rfl⟩
  have ad1 : ∀ w, (Op.stringOp .add S0 ⟨#[105, 102, 32, 40, 116, 114, 117, 101, 41, 32, 123, 32]⟩).run Tryz.prog w = .ok (.string S1) w := fun w => by
    have := add_strs2 (c0 ++ putT a l 0) (c1) (by (try simp only [List.length_append]); have := hpl 0; have := hpl 1; have := hpl 2; have := hpl 3; have := hpl 4; have e0 : c0.length = 11 := rfl; have e1 : c1.length = 12 := rfl; have e2 : c2.length = 2 := rfl; have e3 : c3.length = 16 := rfl; have e4 : c4.length = 2 := rfl; have e5 : c5.length = 1 := rfl; omega) w
    rw [hS1.out] at this
    rw [hS0.out] at this
    exact this
  obtain ⟨S2, hS2⟩ : ∃ S, Hid (strOf (((c0 ++ putT a l 0) ++ c1) ++ putT a l 1) = S) := ⟨_, Lib.hid rfl⟩
  have ad2 : ∀ w, (Op.stringOp .add S1 P1).run Tryz.prog w = .ok (.string S2) w := fun w => by
    have := add_strs2 ((c0 ++ putT a l 0) ++ c1) (putT a l 1) (by (try simp only [List.length_append]); have := hpl 0; have := hpl 1; have := hpl 2; have := hpl 3; have := hpl 4; have e0 : c0.length = 11 := rfl; have e1 : c1.length = 12 := rfl; have e2 : c2.length = 2 := rfl; have e3 : c3.length = 16 := rfl; have e4 : c4.length = 2 := rfl; have e5 : c5.length = 1 := rfl; omega) w
    rw [hS2.out] at this
    rw [hP1.out] at this
    rw [hS1.out] at this
    exact this
  obtain ⟨S3, hS3⟩ : ∃ S, Hid (strOf ((((c0 ++ putT a l 0) ++ c1) ++ putT a l 1) ++ c2) = S) := ⟨_, Lib.hid rfl⟩
  have ad3 : ∀ w, (Op.stringOp .add S2 ⟨#[125, 32]⟩).run Tryz.prog w = .ok (.string S3) w := fun w => by
    have := add_strs2 (((c0 ++ putT a l 0) ++ c1) ++ putT a l 1) (c2) (by (try simp only [List.length_append]); have := hpl 0; have := hpl 1; have := hpl 2; have := hpl 3; have := hpl 4; have e0 : c0.length = 11 := rfl; have e1 : c1.length = 12 := rfl; have e2 : c2.length = 2 := rfl; have e3 : c3.length = 16 := rfl; have e4 : c4.length = 2 := rfl; have e5 : c5.length = 1 := rfl; omega) w
    rw [hS3.out] at this
    rw [hS2.out] at this
    exact this
  obtain ⟨S4, hS4⟩ : ∃ S, Hid (strOf (((((c0 ++ putT a l 0) ++ c1) ++ putT a l 1) ++ c2) ++ putT a l 2) = S) := ⟨_, Lib.hid rfl⟩
  have ad4 : ∀ w, (Op.stringOp .add S3 P2).run Tryz.prog w = .ok (.string S4) w := fun w => by
    have := add_strs2 ((((c0 ++ putT a l 0) ++ c1) ++ putT a l 1) ++ c2) (putT a l 2) (by (try simp only [List.length_append]); have := hpl 0; have := hpl 1; have := hpl 2; have := hpl 3; have := hpl 4; have e0 : c0.length = 11 := rfl; have e1 : c1.length = 12 := rfl; have e2 : c2.length = 2 := rfl; have e3 : c3.length = 16 := rfl; have e4 : c4.length = 2 := rfl; have e5 : c5.length = 1 := rfl; omega) w
    rw [hS4.out] at this
    rw [hP2.out] at this
    rw [hS3.out] at this
    exact this
  obtain ⟨S5, hS5⟩ : ∃ S, Hid (strOf ((((((c0 ++ putT a l 0) ++ c1) ++ putT a l 1) ++ c2) ++ putT a l 2) ++ c3) = S) := ⟨_, Lib.hid rfl⟩
  have ad5 : ∀ w, (Op.stringOp .add S4 ⟨#[119, 104, 105, 108, 101, 32, 40, 102, 97, 108, 115, 101, 41, 32, 123, 32]⟩).run Tryz.prog w = .ok (.string S5) w := fun w => by
    have := add_strs2 (((((c0 ++ putT a l 0) ++ c1) ++ putT a l 1) ++ c2) ++ putT a l 2) (c3) (by (try simp only [List.length_append]); have := hpl 0; have := hpl 1; have := hpl 2; have := hpl 3; have := hpl 4; have e0 : c0.length = 11 := rfl; have e1 : c1.length = 12 := rfl; have e2 : c2.length = 2 := rfl; have e3 : c3.length = 16 := rfl; have e4 : c4.length = 2 := rfl; have e5 : c5.length = 1 := rfl; omega) w
    rw [hS5.out] at this
    rw [hS4.out] at this
    exact this
  obtain ⟨S6, hS6⟩ : ∃ S, Hid (strOf (((((((c0 ++ putT a l 0) ++ c1) ++ putT a l 1) ++ c2) ++ putT a l 2) ++ c3) ++ putT a l 3) = S) := ⟨_, Lib.hid rfl⟩
  have ad6 : ∀ w, (Op.stringOp .add S5 P3).run Tryz.prog w = .ok (.string S6) w := fun w => by
    have := add_strs2 ((((((c0 ++ putT a l 0) ++ c1) ++ putT a l 1) ++ c2) ++ putT a l 2) ++ c3) (putT a l 3) (by (try simp only [List.length_append]); have := hpl 0; have := hpl 1; have := hpl 2; have := hpl 3; have := hpl 4; have e0 : c0.length = 11 := rfl; have e1 : c1.length = 12 := rfl; have e2 : c2.length = 2 := rfl; have e3 : c3.length = 16 := rfl; have e4 : c4.length = 2 := rfl; have e5 : c5.length = 1 := rfl; omega) w
    rw [hS6.out] at this
    rw [hP3.out] at this
    rw [hS5.out] at this
    exact this
  obtain ⟨S7, hS7⟩ : ∃ S, Hid (strOf ((((((((c0 ++ putT a l 0) ++ c1) ++ putT a l 1) ++ c2) ++ putT a l 2) ++ c3) ++ putT a l 3) ++ c4) = S) := ⟨_, Lib.hid rfl⟩
  have ad7 : ∀ w, (Op.stringOp .add S6 ⟨#[125, 32]⟩).run Tryz.prog w = .ok (.string S7) w := fun w => by
    have := add_strs2 (((((((c0 ++ putT a l 0) ++ c1) ++ putT a l 1) ++ c2) ++ putT a l 2) ++ c3) ++ putT a l 3) (c4) (by (try simp only [List.length_append]); have := hpl 0; have := hpl 1; have := hpl 2; have := hpl 3; have := hpl 4; have e0 : c0.length = 11 := rfl; have e1 : c1.length = 12 := rfl; have e2 : c2.length = 2 := rfl; have e3 : c3.length = 16 := rfl; have e4 : c4.length = 2 := rfl; have e5 : c5.length = 1 := rfl; omega) w
    rw [hS7.out] at this
    rw [hS6.out] at this
    exact this
  obtain ⟨S8, hS8⟩ : ∃ S, Hid (strOf (((((((((c0 ++ putT a l 0) ++ c1) ++ putT a l 1) ++ c2) ++ putT a l 2) ++ c3) ++ putT a l 3) ++ c4) ++ putT a l 4) = S) := ⟨_, Lib.hid rfl⟩
  have ad8 : ∀ w, (Op.stringOp .add S7 P4).run Tryz.prog w = .ok (.string S8) w := fun w => by
    have := add_strs2 ((((((((c0 ++ putT a l 0) ++ c1) ++ putT a l 1) ++ c2) ++ putT a l 2) ++ c3) ++ putT a l 3) ++ c4) (putT a l 4) (by (try simp only [List.length_append]); have := hpl 0; have := hpl 1; have := hpl 2; have := hpl 3; have := hpl 4; have e0 : c0.length = 11 := rfl; have e1 : c1.length = 12 := rfl; have e2 : c2.length = 2 := rfl; have e3 : c3.length = 16 := rfl; have e4 : c4.length = 2 := rfl; have e5 : c5.length = 1 := rfl; omega) w
    rw [hS8.out] at this
    rw [hP4.out] at this
    rw [hS7.out] at this
    exact this
  obtain ⟨S9, hS9⟩ : ∃ S, Hid (strOf ((((((((((c0 ++ putT a l 0) ++ c1) ++ putT a l 1) ++ c2) ++ putT a l 2) ++ c3) ++ putT a l 3) ++ c4) ++ putT a l 4) ++ c5) = S) := ⟨_, Lib.hid rfl⟩
  have ad9 : ∀ w, (Op.stringOp .add S8 ⟨#[125]⟩).run Tryz.prog w = .ok (.string S9) w := fun w => by
    have := add_strs2 (((((((((c0 ++ putT a l 0) ++ c1) ++ putT a l 1) ++ c2) ++ putT a l 2) ++ c3) ++ putT a l 3) ++ c4) ++ putT a l 4) (c5) (by (try simp only [List.length_append]); have := hpl 0; have := hpl 1; have := hpl 2; have := hpl 3; have := hpl 4; have e0 : c0.length = 11 := rfl; have e1 : c1.length = 12 := rfl; have e2 : c2.length = 2 := rfl; have e3 : c3.length = 16 := rfl; have e4 : c4.length = 2 := rfl; have e5 : c5.length = 1 := rfl; omega) w
    rw [hS9.out] at this
    rw [hS8.out] at this
    exact this
  have HT : Hid (strOf (txtT a l) = S9) := Lib.hid hS9.out
  have HF := Lib.hid (fun (w' : World) (hw : Wt w') => fault_any (txtT a l) t8 (by omega) (txt_f ha5 hl5) S9 HT.out.symm w' hw)
  have HTW := Lib.hid (fun (w' : World) (hw : Wt w') => fault_any twT (by decide) (by decide) tw_f _ rfl w' hw)
  have HAP := Lib.hid (fun (w' : World) (hw : Wt w') => fault_any apT (by decide) (by decide) ap_f _ rfl w' hw)
  have HP0 := HPUT.out 0
  have HP1 := HPUT.out 1
  have HP2 := HPUT.out 2
  have HP3 := HPUT.out 3
  have HP4 := HPUT.out 4
  rw [hP0.out] at HP0
  rw [hP1.out] at HP1
  rw [hP2.out] at HP2
  rw [hP3.out] at HP3
  rw [hP4.out] at HP4
  have g1 : ((l : Int) == (a : Int)) = decide (l = a) := by rw [Bool.eq_iff_iff, beq_iff_eq, decide_eq_true_iff]; omega
  have g2 : ((l : Int) == 0) = decide (l = 0) := by rw [Bool.eq_iff_iff, beq_iff_eq, decide_eq_true_iff]; omega
  have g3 : ((l : Int) == 2) = decide (l = 2) := by rw [Bool.eq_iff_iff, beq_iff_eq, decide_eq_true_iff]; omega
  have g4 : decide ((2 : Int) ≤ (a : Int)) = decide (2 ≤ a) := by rw [Bool.eq_iff_iff, decide_eq_true_iff, decide_eq_true_iff]; omega
  obtain ⟨sb, hsb⟩ : ∃ b, Hid (seesB a l = b) := ⟨_, Lib.hid rfl⟩
  rw [hsb.out] at HF
  have HSB := hsb
  have HP0' := Lib.hid HP0
  have HP1' := Lib.hid HP1
  have HP2' := Lib.hid HP2
  have HP3' := Lib.hid HP3
  have HP4' := Lib.hid HP4
  clear htab t8 tl hB hpl HPUT HP0 HP1 HP2 HP3 HP4
  go_enter Tryz.func11, Tryz.ntmps11
  go_wp2_with fail
  refine HP0'.out.mono ?_
  rintro e w' ⟨rfl, rfl⟩
  go_wp2_with fail
  refine HP1'.out.mono ?_
  rintro e w' ⟨rfl, rfl⟩
  go_wp2_with fail
  refine HP2'.out.mono ?_
  rintro e w' ⟨rfl, rfl⟩
  go_wp2_with fail
  refine HP3'.out.mono ?_
  rintro e w' ⟨rfl, rfl⟩
  go_wp2_with fail
  refine HP4'.out.mono ?_
  rintro e w' ⟨rfl, rfl⟩
  go_upto_region 4 with (fail)
  obtain ⟨W, hW⟩ : ∃ W, W = (w.alloc (.cells #[.int .i64 (a : Int)] 3)).alloc (.cells #[.int .i64 (l : Int)] 3) := ⟨_, rfl⟩
  rw [← hW] at HB HQA HQL ⊢
  clear hW
  go_cut [9] (fun s wx => Hid (s = .bool sb) ∧ W = wx)
  case first =>
    have y0 : W.cell? ⟨w.heap.size + 1, 0, none⟩ = some (.int .i64 (l : Int)) := cell_block HQL.out 0
    have y1 : W.cell? ⟨w.heap.size, 0, none⟩ = some (.int .i64 (a : Int)) := cell_block HQA.out 0
    have hs2 := HSB.out
    unfold seesB at hs2
    have HS2 := Lib.hid hs2
    clear hs2
    generalize decide (l = a) = b1 at *
    generalize decide (l = 0) = b2 at *
    generalize decide (l = 2) = b3 at *
    generalize decide (2 ≤ a) = b4 at *
    cases b1 <;> cases b2 <;> cases b3 <;> cases b4
    all_goals
      go_wp2_with fail
      go_meet
      exact ⟨Lib.hid (by rw [← HS2.out]; rfl), rfl⟩
  case rest =>
    obtain ⟨HC, rfl⟩ := hcut
    have hs := HC.out
    subst hs
    have HWW := Lib.hid (HW0.out.below HB.out)
    have HAW := Lib.hid (fun w hw => awake10_any w hw)
    clear HC HP0' HP1' HP2' HP3' HP4' HQA HQL HSB hsb g1 g2 g3 g4 ad0 ad1 ad2 ad3 ad4 ad5 ad6 ad7 ad8 ad9
    cases sb
    all_goals
      go_wp2_with fail
      refine (HF.out _ HWW.out).mono ?_
      rintro e w1 ⟨rfl, hb1⟩
      have HB1 := Lib.hid (HB.out.trans (hb1.mono HB.out.size))
      have HW1 := Lib.hid (HWW.out.below hb1)
      clear hb1
      go_wp2_with fail
      refine (HTW.out _ (HW1.out.below ((Below.refl _ _).alloc (Nat.le_refl _) _))).mono ?_
      rintro e w2 ⟨rfl, hb2⟩
      have HB2 := Lib.hid ((HB1.out.alloc HB1.out.size _).trans (hb2.mono (HB1.out.alloc HB1.out.size _).size))
      have HW2 := Lib.hid ((HW1.out.below ((Below.refl _ _).alloc (Nat.le_refl _) _)).below hb2)
      clear hb2
      go_wp2_with fail
      refine (HAP.out _ (HW2.out.below ((Below.refl _ _).alloc (Nat.le_refl _) _))).mono ?_
      rintro e w3 ⟨rfl, hb3⟩
      have HQ3 := Lib.hid (heap_below (heap_new w2 (.cells #[.int .i64 112, .int .i64 1] 29)) hb3)
      have HB3 := Lib.hid ((HB2.out.alloc HB2.out.size _).trans (hb3.mono (HB2.out.alloc HB2.out.size _).size))
      have HW3 := Lib.hid ((HW2.out.below ((Below.refl _ _).alloc (Nat.le_refl _) _)).below hb3)
      obtain ⟨⟨x0, x1⟩, -⟩ := bx2 HQ3.out
      have h3 := lt_heap HQ3.out
      clear hb3
      go_wp2_with fail
      refine (HAW.out _ (HW3.out.below ((Below.refl _ _).alloc (Nat.le_refl _) _))).mono ?_
      rintro e w4 ⟨rfl, hb4⟩
      have HB4 := Lib.hid ((HB3.out.alloc HB3.out.size _).trans (hb4.mono (HB3.out.alloc HB3.out.size _).size))
      clear hb4
      go_wp2_with fail
      go_ret
      exact ⟨rfl, HB4.out⟩

set_option maxRecDepth 100000 in
theorem lifted (os : Os) (started : os.Started) (H : Type) (enc : TypeId × Value → H) :
    ReturnsInHanded {} Tryz.checked os 11 .any (fun w args => (Rows.checkScopesSpec.pre enc Tryz.prog Tryz.f11 [] false w args ∧ laidMetH Tryz.prog laidW w) ∧ sizedMet enc Tryz.prog Tryz.f11 (OpenSpec.ofChange Rows.checkScopesSpec) false w args) (Rows.checkScopesSpec.post enc Tryz.prog Tryz.f11 false true false false) := by
  refine returnsInHanded_of_change_and (C := Tryz.checked) (X := fun w _ => laidMetH Tryz.prog laidW w) (fun _ _ _ hh h => h.of_heap hh) knob_own started (by kernel_rfl) Tryz.func11
    (ChangeSpec.witness_shaped (enc := enc) (C := Tryz.checked) (os := os) (X := fun w _ => laidMetH Tryz.prog laidW w) false (World.doorLaid Tryz.prog 400 os) #[.int .u8 0, .int .u8 0] 8 rfl (World.shaped_of_RefB (by kernel_rfl) (by kernel_rfl)) (by kernel_rfl) (by kernel_rfl) (by kernel_rfl) (doorW_met os _)) ?_
  intro W base args ds gs before hval0 hW _ _ hL _
  have hval : ∀ (j : Nat) t v, Tryz.f11.params[j]? = some t → args[j]? = some v → Value.okWide Tryz.prog W .any base t v := hval0
  have hW' := hW
  obtain ⟨p, q, hA0, hV, rfl, hfz, hnd⟩ := hW
  have hA : DataW.TrodAll enc Tryz.prog W 0 (fun _ => true) true Tryz.f11.params.toList args.toList ds p := hA0
  rw [Tryz.params11] at hA hval
  obtain ⟨v0, vs0, d0, ds0, p0, q0, hargs, rfl, rfl, h0, r0⟩ := trodAll_cons hA
  obtain ⟨v1, vs1, d1, ds1, p1, q1, rfl, rfl, rfl, h1, r1⟩ := trodAll_cons r0
  obtain ⟨rfl, rfl, rfl⟩ := trodAll_nil r1
  obtain rfl : args = #[v0, v1] := by cases args; simp_all
  obtain ⟨rfl, rfl⟩ := trodVars_none hV
  have lt0 : ∀ x ∈ p0, x.block < W.heap.size := by obtain ⟨m, hm⟩ := h0; exact DataW.trod_lt m _ _ _ hm
  have k0 := h0
  obtain ⟨a0, rfl, _, _, w0⟩ := open_int Tryz.underlying5 (hval 0 5 v0 rfl rfl) h0
  have lt1 : ∀ x ∈ p1, x.block < W.heap.size := by obtain ⟨m, hm⟩ := h1; exact DataW.trod_lt m _ _ _ hm
  have k1 := h1
  obtain ⟨a1, rfl, _, _, w1⟩ := open_int Tryz.underlying5 (hval 1 5 v1 rfl rfl) h1
  clear hA0 hval0
  refine (walk W (wt_laid hL) a0 a1 w0 w1).mono fun e W' ⟨he, bel⟩ => ?_
  subst he
  exact ⟨_, rfl, _, _, _, [], _, [], hW', trodAll_mk1 (shut_bool Tryz.underlying4 _), (trodAll_cons_mk (Below.trod laid_out (by kernel_rfl) (of_decide_eq_true (by kernel_rfl)) k0 bel lt0) (trodAll_cons_mk (Below.trod laid_out (by kernel_rfl) (of_decide_eq_true (by kernel_rfl)) k1 bel lt1) (trodAll_mk0))), rfl, bel.frame _, fun h => by cases h⟩

theorem over : Rows.checkScopesRow.holds Tryz.pinned (OpenSpec.ofChange Rows.checkScopesSpec) :=
  OpenClaim.holds_of_wide 11 Tryz.f11 rfl rfl rfl rfl rfl rfl rfl ⟨rfl, rfl, rfl, rfl, rfl⟩ rfl rfl rfl rfl rfl (by kernel_rfl) Tryz.func11 (by kernel_rfl)
    (of_decide_eq_true (by kernel_rfl)) (by unfold Func.isWrapper; first | (rw [if_pos (by decide +kernel)]; kernel_rfl) | (rw [if_neg (by decide +kernel)]; exact ⟨rfl, rfl⟩))
    (fun os started H enc _ => lifted os started H enc)

theorem proved : Rows.CheckScopesCardSaid :=
  Claim7.holds_tied_plain_at .later [] [.data, .data, .data, .sentinel, .sentinel, .data] true Rows.checkScopesCard.stood.harness Rows.checkScopesCard.stood.looks
    over (fun _ h => by cases h) (by kernel_rfl) (fun _ h => by cases h) checkScopes_row_tie rfl ⟨rfl, rfl⟩ (by kernel_rfl) rfl
    (fun f fn hf hfn => by
      obtain rfl : f = 11 := Option.some.inj ((show Tryz.prog.funcNamed "drover/droverlaw10.CheckScopes" = some 11 by kernel_rfl).symm.trans hf) |>.symm
      obtain rfl : fn = Tryz.f11 := (Option.some.inj (Tryz.func11.symm.trans hfn)).symm
      exact ⟨by kernel_rfl, fun j t ht => by
        have hall : (Tryz.f11.params.toList.all fun u => !Tryz.prog.wantsStandIn u) = true := by kernel_rfl
        have hm : t ∈ Tryz.f11.params.toList := Array.mem_toList_iff.2 (Array.mem_of_getElem? ht)
        exact (show Tryz.prog.wantsStandIn t = false by simpa using List.all_eq_true.1 hall t hm)⟩)
    (by kernel_rfl)
end Go.Proofs.YtpakjjefbholdaaGreatDoor.checkScopes
