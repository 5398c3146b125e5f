/- droverlaw10.CheckPlaces returns true whatever its arguments: what ends a function stands in a function alone, what ends the turn of a message in a role alone. For every input, without conditions. -/
import Derived.Test.YtpakjjefbholdaaGreatDoorRow
import Derived.Test.YtpakjjefbholdaaGreatDoorKkm
import Derived.Test.YtpakjjefbholdaaGreatDoorDoor08
import Derived.Test.YtpakjjefbholdaaGreatDoorCards
import Derived.SevenTiedAt
import Derived.Test.YtpakjjefbholdaaGreatDoorShelfB
import Derived.Deep.DeepCutAuto
namespace Go.Proofs.YtpakjjefbholdaaGreatDoor.checkPlaces
open Go.ChangeShapes Go.WideShapes Go.ChangeAt Go.RowKit
set_option linter.unusedVariables false

def kT (k : Nat) : List Nat := if k = 0 then [114, 101, 116, 117, 114, 110, 32, 49, 59] else if k = 1 then [115, 116, 111, 112, 59] else [98, 101, 99, 111, 109, 101, 32, 114, 40, 41, 59]
def ifT : List Nat := [105, 102, 32, 40, 116, 114, 117, 101, 41, 32, 123, 32]
def clT : List Nat := [32, 125]
def p1 : List Nat := [97, 99, 116, 111, 114, 32, 114, 40, 41, 32, 123, 32, 111, 110, 32, 103, 111, 40, 41, 32, 123, 32, 125, 32, 125, 32, 102, 117, 110, 99, 32, 102, 40, 41, 32, 123, 32]
def q1 : List Nat := [97, 99, 116, 111, 114, 32, 114, 40, 41, 32, 123, 32, 111, 110, 32, 103, 111, 40, 41, 32, 123, 32]
def q2 : List Nat := [32, 125, 32, 125]
def repN (l : List Nat) : Nat → List Nat
  | 0 => []
  | n + 1 => l ++ repN l n
def inT (k n : Nat) : List Nat := repN ifT n ++ kT k ++ repN clT n
def txtT (k n : Nat) (r : Bool) : List Nat := if r then q1 ++ inT k n ++ q2 else p1 ++ inT k n ++ clT
def erT (k : Nat) (r : Bool) : Nat := if decide (k = 0) = r then 113 else 0
def isE (o : Option Flt) (e : Nat) : Bool := match o with
  | none => false
  | some f => f.1 == e
theorem all_f : ((List.range 3).all fun k => (List.range 6).all fun n => [true, false].all fun r => isE (faultF (txtT k n r)) (erT k r)) = true := by as_aux_lemma => kernel_rfl
theorem txt_f {k n : Nat} (hk : k < 3) (hn : n < 6) (r : Bool) : ∃ ln, faultF (txtT k n r) = some (erT k r, ln) := by
  have h1 := List.all_eq_true.1 (List.all_eq_true.1 (List.all_eq_true.1 all_f k (by simpa using hk)) n (by simpa using hn)) r (by cases r <;> simp)
  unfold isE at h1
  split at h1
  · cases h1
  · rename_i f hf
    rw [hf]
    exact ⟨f.2, by rw [← beq_iff_eq.1 h1]⟩
theorem txt_8 {k n : Nat} (hk : k < 3) (hn : n < 6) (r : Bool) : (∀ x ∈ txtT k n r, x < 256) ∧ (txtT k n r).length ≤ 200 := by
  have h : ((List.range 3).all fun k => (List.range 6).all fun n => [true, false].all fun r => (txtT k n r).all (fun x => decide (x < 256)) && decide ((txtT k n r).length ≤ 200)) = true := by as_aux_lemma => kernel_rfl
  have h1 := List.all_eq_true.1 (List.all_eq_true.1 (List.all_eq_true.1 h k (by simpa using hk)) n (by simpa using hn)) r (by cases r <;> simp)
  simp only [Bool.and_eq_true, decide_eq_true_eq, List.all_eq_true] at h1
  exact h1
theorem rep_data (l : List Nat) : ∀ c, Lib.repeatL (l.map UInt8.ofNat) c = (repN l c).map UInt8.ofNat
  | 0 => rfl
  | c + 1 => by
    rw [Lib.repeatL, repN, List.map_append, rep_data l c]
theorem rep_any (l : List Nat) (c : Nat) (S : ByteArray) (hS : S = strOf l) (w : World) (hl : l.length * c ≤ 1000000) (hc : c ≤ 1000000) :
    Calls Tryz.prog 26 #[.string S, .int .i64 (c : Int)] w fun e w' => e = .returned (.string (strOf (repN l c))) ∧ Below w.heap.size w w' := by
  subst hS
  refine (Tryz.strings_Repeat (strOf l) c w (by omega) (by rw [strOf_size]; omega)).mono ?_
  rintro e w' ⟨rfl, hb⟩
  refine ⟨?_, hb⟩
  show Ending.returned (Value.string ⟨(Lib.repeatL (l.map UInt8.ofNat).toArray.toList c).toArray⟩) = _
  rw [List.toList_toArray, rep_data]
  rfl
theorem rep_len (l : List Nat) : ∀ c, (repN l c).length = l.length * c
  | 0 => rfl
  | c + 1 => by rw [repN, List.length_append, rep_len l c, Nat.mul_add, Nat.mul_one, Nat.add_comm]

set_option maxRecDepth 100000 in
set_option maxHeartbeats 8000000 in
theorem walk (w : World) (htab : Wt w) (a0 : Int) (a1 : Int) (b2 : Bool) (w0 : (Lit.int .u8 a0).wf = true) (w1 : (Lit.int .u8 a1).wf = true) (w2 : b2 = b2) :
    Calls Tryz.prog 12 #[.int .u8 a0, .int .u8 a1, .bool b2] w fun e w' => e = .returned (.bool true) ∧ Below w.heap.size w w' := by
  obtain ⟨n0, rfl, hn0⟩ := wf_u8 w0
  obtain ⟨n1, rfl, hn1⟩ := wf_u8 w1
  obtain ⟨k, hk, hk3⟩ : ∃ a : Nat, (n0 : Int) % 3 = (a : Int) ∧ a < 3 := ⟨n0 % 3, by omega, by omega⟩
  obtain ⟨n, hn, hn6⟩ : ∃ a : Nat, (n1 : Int) % 6 = (a : Int) ∧ a < 6 := ⟨n1 % 6, by omega, by omega⟩
  clear w0 w1 w2
  have HW0 := Lib.hid htab
  have HAW := Lib.hid (fun w hw => awake10_any w hw)
  obtain ⟨t8, tl⟩ := txt_8 hk3 hn6 b2
  obtain ⟨ln, hf⟩ := txt_f hk3 hn6 b2
  have HR1 := Lib.hid (fun w' => rep_any ifT n _ rfl w' (by rw [show ifT.length = 12 from rfl]; omega) (by omega))
  have HR2 := Lib.hid (fun w' => rep_any clT n _ rfl w' (by rw [show clT.length = 2 from rfl]; omega) (by omega))
  have l1 := rep_len ifT n
  have l2 := rep_len clT n
  have l3 : ifT.length = 12 := rfl
  have l4 : clT.length = 2 := rfl
  have l5 : p1.length = 37 := rfl
  have l6 : q1.length = 22 := rfl
  have l7 : q2.length = 4 := rfl
  have l8 : (kT k).length ≤ 11 := by unfold kT; split; decide; split <;> decide
  rw [l3] at l1
  rw [l4] at l2
  obtain ⟨A1, hA1⟩ : ∃ S, Hid (strOf (repN ifT n) = S) := ⟨_, Lib.hid rfl⟩
  obtain ⟨A2, hA2⟩ : ∃ S, Hid (strOf (repN clT n) = S) := ⟨_, Lib.hid rfl⟩
  obtain ⟨A3, hA3⟩ : ∃ S, Hid (strOf (repN ifT n ++ kT k) = S) := ⟨_, Lib.hid rfl⟩
  obtain ⟨A4, hA4⟩ : ∃ S, Hid (strOf (inT k n) = S) := ⟨_, Lib.hid rfl⟩
  have s1 : ∀ w, (Op.stringOp .add A1 (strOf (kT k))).run Tryz.prog w = .ok (.string A3) w := fun w => by
    rw [← hA1.out, ← hA3.out]
    exact add_strs2 _ _ (by omega) w
  have s2 : ∀ w, (Op.stringOp .add A3 A2).run Tryz.prog w = .ok (.string A4) w := fun w => by
    rw [← hA3.out, ← hA2.out, ← hA4.out]
    exact add_strs2 _ _ (by rw [List.length_append]; omega) w
  rw [hA1.out] at HR1
  rw [hA2.out] at HR2
  have hin : (inT k n).length ≤ 100 := by unfold inT; simp only [List.length_append]; omega
  have hk2 : k = 0 ∨ k = 1 ∨ k = 2 := by omega
  cases b2
  · obtain ⟨A5, hA5⟩ : ∃ S, Hid (strOf (p1 ++ inT k n) = S) := ⟨_, Lib.hid rfl⟩
    obtain ⟨A6, hA6⟩ : ∃ S, Hid (strOf (p1 ++ inT k n ++ clT) = S) := ⟨_, Lib.hid rfl⟩
    have s3 : ∀ w, (Op.stringOp .add ⟨#[97, 99, 116, 111, 114, 32, 114, 40, 41, 32, 123, 32, 111, 110, 32, 103, 111, 40, 41, 32, 123, 32, 125, 32, 125, 32, 102, 117, 110, 99, 32, 102, 40, 41, 32, 123, 32]⟩ A4).run Tryz.prog w = .ok (.string A5) w := fun w => by
      rw [← hA4.out, ← hA5.out]
      exact add_strs2 p1 _ (by omega) w
    have s4 : ∀ w, (Op.stringOp .add A5 ⟨#[32, 125]⟩).run Tryz.prog w = .ok (.string A6) w := fun w => by
      rw [← hA5.out, ← hA6.out]
      exact add_strs2 _ clT (by rw [List.length_append]; omega) w
    have HF := Lib.hid (fun (w' : World) (hw : Wt w') => fault_any (txtT k n false) t8 (by omega) hf A6 hA6.out.symm w' hw)
    clear htab t8 tl hf hin l1 l2 l3 l4 l5 l6 l7 l8 hA1 hA2 hA3 hA4 hA5 hA6
    rcases hk2 with rfl | rfl | rfl
    · have HBA : Hid (Below w.heap.size w (w.alloc (.cells #[.string ⟨#[114, 101, 116, 117, 114, 110, 32, 49, 59]⟩, .string ⟨#[115, 116, 111, 112, 59]⟩, .string ⟨#[98, 101, 99, 111, 109, 101, 32, 114, 40, 41, 59]⟩] 9))) := Lib.hid ((Below.refl _ _).alloc (Nat.le_refl _) _)
      have s0 : strOf (kT 0) = ⟨#[114, 101, 116, 117, 114, 110, 32, 49, 59]⟩ := rfl
      rw [s0] at s1
      clear s0
      go_enter Tryz.func12, Tryz.ntmps12
      go_wp2_with fail
      refine (HR1.out _).mono ?_
      rintro e w1 ⟨rfl, hb1⟩
      have HB1 := Lib.hid (HBA.out.trans (hb1.mono HBA.out.size))
      clear hb1
      go_wp2_with fail
      refine (HR2.out _).mono ?_
      rintro e w2 ⟨rfl, hb2⟩
      have HB2 := Lib.hid (HB1.out.trans (hb2.mono HB1.out.size))
      clear hb2
      go_wp2_with fail
      refine (HF.out _ (HW0.out.below HB2.out)).mono ?_
      rintro e w3 ⟨rfl, hb3⟩
      have HB3 := Lib.hid (HB2.out.trans (hb3.mono HB2.out.size))
      have hfl := fld0
      clear hb3
      go_wp2_with fail
      refine (HAW.out _ (HW0.out.below HB3.out)).mono ?_
      rintro e w4 ⟨rfl, hb4⟩
      have HB4 := Lib.hid (HB3.out.trans (hb4.mono HB3.out.size))
      clear hb4
      go_wp2_with fail
      go_ret
      exact ⟨rfl, HB4.out⟩
    · have HBA : Hid (Below w.heap.size w (w.alloc (.cells #[.string ⟨#[114, 101, 116, 117, 114, 110, 32, 49, 59]⟩, .string ⟨#[115, 116, 111, 112, 59]⟩, .string ⟨#[98, 101, 99, 111, 109, 101, 32, 114, 40, 41, 59]⟩] 9))) := Lib.hid ((Below.refl _ _).alloc (Nat.le_refl _) _)
      have s0 : strOf (kT 1) = ⟨#[115, 116, 111, 112, 59]⟩ := rfl
      rw [s0] at s1
      clear s0
      go_enter Tryz.func12, Tryz.ntmps12
      go_wp2_with fail
      refine (HR1.out _).mono ?_
      rintro e w1 ⟨rfl, hb1⟩
      have HB1 := Lib.hid (HBA.out.trans (hb1.mono HBA.out.size))
      clear hb1
      go_wp2_with fail
      refine (HR2.out _).mono ?_
      rintro e w2 ⟨rfl, hb2⟩
      have HB2 := Lib.hid (HB1.out.trans (hb2.mono HB1.out.size))
      clear hb2
      go_wp2_with fail
      refine (HF.out _ (HW0.out.below HB2.out)).mono ?_
      rintro e w3 ⟨rfl, hb3⟩
      have HB3 := Lib.hid (HB2.out.trans (hb3.mono HB2.out.size))
      have hfl := fld0
      clear hb3
      go_wp2_with fail
      refine (HAW.out _ (HW0.out.below HB3.out)).mono ?_
      rintro e w4 ⟨rfl, hb4⟩
      have HB4 := Lib.hid (HB3.out.trans (hb4.mono HB3.out.size))
      clear hb4
      go_wp2_with fail
      go_ret
      exact ⟨rfl, HB4.out⟩
    · have HBA : Hid (Below w.heap.size w (w.alloc (.cells #[.string ⟨#[114, 101, 116, 117, 114, 110, 32, 49, 59]⟩, .string ⟨#[115, 116, 111, 112, 59]⟩, .string ⟨#[98, 101, 99, 111, 109, 101, 32, 114, 40, 41, 59]⟩] 9))) := Lib.hid ((Below.refl _ _).alloc (Nat.le_refl _) _)
      have s0 : strOf (kT 2) = ⟨#[98, 101, 99, 111, 109, 101, 32, 114, 40, 41, 59]⟩ := rfl
      rw [s0] at s1
      clear s0
      go_enter Tryz.func12, Tryz.ntmps12
      go_wp2_with fail
      refine (HR1.out _).mono ?_
      rintro e w1 ⟨rfl, hb1⟩
      have HB1 := Lib.hid (HBA.out.trans (hb1.mono HBA.out.size))
      clear hb1
      go_wp2_with fail
      refine (HR2.out _).mono ?_
      rintro e w2 ⟨rfl, hb2⟩
      have HB2 := Lib.hid (HB1.out.trans (hb2.mono HB1.out.size))
      clear hb2
      go_wp2_with fail
      refine (HF.out _ (HW0.out.below HB2.out)).mono ?_
      rintro e w3 ⟨rfl, hb3⟩
      have HB3 := Lib.hid (HB2.out.trans (hb3.mono HB2.out.size))
      have hfl := fld0
      clear hb3
      go_wp2_with fail
      refine (HAW.out _ (HW0.out.below HB3.out)).mono ?_
      rintro e w4 ⟨rfl, hb4⟩
      have HB4 := Lib.hid (HB3.out.trans (hb4.mono HB3.out.size))
      clear hb4
      go_wp2_with fail
      go_ret
      exact ⟨rfl, HB4.out⟩
  · obtain ⟨A5, hA5⟩ : ∃ S, Hid (strOf (q1 ++ inT k n) = S) := ⟨_, Lib.hid rfl⟩
    obtain ⟨A6, hA6⟩ : ∃ S, Hid (strOf (q1 ++ inT k n ++ q2) = S) := ⟨_, Lib.hid rfl⟩
    have s3 : ∀ w, (Op.stringOp .add ⟨#[97, 99, 116, 111, 114, 32, 114, 40, 41, 32, 123, 32, 111, 110, 32, 103, 111, 40, 41, 32, 123, 32]⟩ A4).run Tryz.prog w = .ok (.string A5) w := fun w => by
      rw [← hA4.out, ← hA5.out]
      exact add_strs2 q1 _ (by omega) w
    have s4 : ∀ w, (Op.stringOp .add A5 ⟨#[32, 125, 32, 125]⟩).run Tryz.prog w = .ok (.string A6) w := fun w => by
      rw [← hA5.out, ← hA6.out]
      exact add_strs2 _ q2 (by rw [List.length_append]; omega) w
    obtain ⟨A7, hA7⟩ : ∃ S, Hid (strOf (p1 ++ inT k n) = S) := ⟨_, Lib.hid rfl⟩
    obtain ⟨A8, hA8⟩ : ∃ S, Hid (strOf (p1 ++ inT k n ++ clT) = S) := ⟨_, Lib.hid rfl⟩
    have s5 : ∀ w, (Op.stringOp .add ⟨#[97, 99, 116, 111, 114, 32, 114, 40, 41, 32, 123, 32, 111, 110, 32, 103, 111, 40, 41, 32, 123, 32, 125, 32, 125, 32, 102, 117, 110, 99, 32, 102, 40, 41, 32, 123, 32]⟩ A4).run Tryz.prog w = .ok (.string A7) w := fun w => by
      rw [← hA4.out, ← hA7.out]
      exact add_strs2 p1 _ (by omega) w
    have s6 : ∀ w, (Op.stringOp .add A7 ⟨#[32, 125]⟩).run Tryz.prog w = .ok (.string A8) w := fun w => by
      rw [← hA7.out, ← hA8.out]
      exact add_strs2 _ clT (by rw [List.length_append]; omega) w
    have HF := Lib.hid (fun (w' : World) (hw : Wt w') => fault_any (txtT k n true) t8 (by omega) hf A6 hA6.out.symm w' hw)
    clear htab t8 tl hf hin l1 l2 l3 l4 l5 l6 l7 l8 hA1 hA2 hA3 hA4 hA5 hA6
    rcases hk2 with rfl | rfl | rfl
    · have HBA : Hid (Below w.heap.size w (w.alloc (.cells #[.string ⟨#[114, 101, 116, 117, 114, 110, 32, 49, 59]⟩, .string ⟨#[115, 116, 111, 112, 59]⟩, .string ⟨#[98, 101, 99, 111, 109, 101, 32, 114, 40, 41, 59]⟩] 9))) := Lib.hid ((Below.refl _ _).alloc (Nat.le_refl _) _)
      have s0 : strOf (kT 0) = ⟨#[114, 101, 116, 117, 114, 110, 32, 49, 59]⟩ := rfl
      rw [s0] at s1
      clear s0
      go_enter Tryz.func12, Tryz.ntmps12
      go_wp2_with fail
      refine (HR1.out _).mono ?_
      rintro e w1 ⟨rfl, hb1⟩
      have HB1 := Lib.hid (HBA.out.trans (hb1.mono HBA.out.size))
      clear hb1
      go_wp2_with fail
      refine (HR2.out _).mono ?_
      rintro e w2 ⟨rfl, hb2⟩
      have HB2 := Lib.hid (HB1.out.trans (hb2.mono HB1.out.size))
      clear hb2
      go_wp2_with fail
      refine (HF.out _ (HW0.out.below HB2.out)).mono ?_
      rintro e w3 ⟨rfl, hb3⟩
      have HB3 := Lib.hid (HB2.out.trans (hb3.mono HB2.out.size))
      have hfl := fld0
      clear hb3
      go_wp2_with fail
      refine (HAW.out _ (HW0.out.below HB3.out)).mono ?_
      rintro e w4 ⟨rfl, hb4⟩
      have HB4 := Lib.hid (HB3.out.trans (hb4.mono HB3.out.size))
      clear hb4
      go_wp2_with fail
      go_ret
      exact ⟨rfl, HB4.out⟩
    · have HBA : Hid (Below w.heap.size w (w.alloc (.cells #[.string ⟨#[114, 101, 116, 117, 114, 110, 32, 49, 59]⟩, .string ⟨#[115, 116, 111, 112, 59]⟩, .string ⟨#[98, 101, 99, 111, 109, 101, 32, 114, 40, 41, 59]⟩] 9))) := Lib.hid ((Below.refl _ _).alloc (Nat.le_refl _) _)
      have s0 : strOf (kT 1) = ⟨#[115, 116, 111, 112, 59]⟩ := rfl
      rw [s0] at s1
      clear s0
      go_enter Tryz.func12, Tryz.ntmps12
      go_wp2_with fail
      refine (HR1.out _).mono ?_
      rintro e w1 ⟨rfl, hb1⟩
      have HB1 := Lib.hid (HBA.out.trans (hb1.mono HBA.out.size))
      clear hb1
      go_wp2_with fail
      refine (HR2.out _).mono ?_
      rintro e w2 ⟨rfl, hb2⟩
      have HB2 := Lib.hid (HB1.out.trans (hb2.mono HB1.out.size))
      clear hb2
      go_wp2_with fail
      refine (HF.out _ (HW0.out.below HB2.out)).mono ?_
      rintro e w3 ⟨rfl, hb3⟩
      have HB3 := Lib.hid (HB2.out.trans (hb3.mono HB2.out.size))
      have hfl := fld0
      clear hb3
      go_wp2_with fail
      refine (HAW.out _ (HW0.out.below HB3.out)).mono ?_
      rintro e w4 ⟨rfl, hb4⟩
      have HB4 := Lib.hid (HB3.out.trans (hb4.mono HB3.out.size))
      clear hb4
      go_wp2_with fail
      go_ret
      exact ⟨rfl, HB4.out⟩
    · have HBA : Hid (Below w.heap.size w (w.alloc (.cells #[.string ⟨#[114, 101, 116, 117, 114, 110, 32, 49, 59]⟩, .string ⟨#[115, 116, 111, 112, 59]⟩, .string ⟨#[98, 101, 99, 111, 109, 101, 32, 114, 40, 41, 59]⟩] 9))) := Lib.hid ((Below.refl _ _).alloc (Nat.le_refl _) _)
      have s0 : strOf (kT 2) = ⟨#[98, 101, 99, 111, 109, 101, 32, 114, 40, 41, 59]⟩ := rfl
      rw [s0] at s1
      clear s0
      go_enter Tryz.func12, Tryz.ntmps12
      go_wp2_with fail
      refine (HR1.out _).mono ?_
      rintro e w1 ⟨rfl, hb1⟩
      have HB1 := Lib.hid (HBA.out.trans (hb1.mono HBA.out.size))
      clear hb1
      go_wp2_with fail
      refine (HR2.out _).mono ?_
      rintro e w2 ⟨rfl, hb2⟩
      have HB2 := Lib.hid (HB1.out.trans (hb2.mono HB1.out.size))
      clear hb2
      go_wp2_with fail
      refine (HF.out _ (HW0.out.below HB2.out)).mono ?_
      rintro e w3 ⟨rfl, hb3⟩
      have HB3 := Lib.hid (HB2.out.trans (hb3.mono HB2.out.size))
      have hfl := fld0
      clear hb3
      go_wp2_with fail
      refine (HAW.out _ (HW0.out.below HB3.out)).mono ?_
      rintro e w4 ⟨rfl, hb4⟩
      have HB4 := Lib.hid (HB3.out.trans (hb4.mono HB3.out.size))
      clear hb4
      go_wp2_with fail
      go_ret
      exact ⟨rfl, HB4.out⟩

set_option maxRecDepth 100000 in
theorem lifted (os : Os) (started : os.Started) (H : Type) (enc : TypeId × Value → H) :
    ReturnsInHanded {} Tryz.checked os 12 .any (fun w args => (Rows.checkPlacesSpec.pre enc Tryz.prog Tryz.f12 [] false w args ∧ laidMetH Tryz.prog laidW w) ∧ sizedMet enc Tryz.prog Tryz.f12 (OpenSpec.ofChange Rows.checkPlacesSpec) false w args) (Rows.checkPlacesSpec.post enc Tryz.prog Tryz.f12 false true false false) := by
  refine returnsInHanded_of_change_and (C := Tryz.checked) (X := fun w _ => laidMetH Tryz.prog laidW w) (fun _ _ _ hh h => h.of_heap hh) knob_own started (by kernel_rfl) Tryz.func12
    (ChangeSpec.witness_shaped (enc := enc) (C := Tryz.checked) (os := os) (X := fun w _ => laidMetH Tryz.prog laidW w) false (World.doorLaid Tryz.prog 400 os) #[.int .u8 0, .int .u8 0, .bool false] 8 rfl (World.shaped_of_RefB (by kernel_rfl) (by kernel_rfl)) (by kernel_rfl) (by kernel_rfl) (by kernel_rfl) (doorW_met os _)) ?_
  intro W base args ds gs before hval0 hW _ _ hL _
  have hval : ∀ (j : Nat) t v, Tryz.f12.params[j]? = some t → args[j]? = some v → Value.okWide Tryz.prog W .any base t v := hval0
  have hW' := hW
  obtain ⟨p, q, hA0, hV, rfl, hfz, hnd⟩ := hW
  have hA : DataW.TrodAll enc Tryz.prog W 0 (fun _ => true) true Tryz.f12.params.toList args.toList ds p := hA0
  rw [Tryz.params12] at hA hval
  obtain ⟨v0, vs0, d0, ds0, p0, q0, hargs, rfl, rfl, h0, r0⟩ := trodAll_cons hA
  obtain ⟨v1, vs1, d1, ds1, p1, q1, rfl, rfl, rfl, h1, r1⟩ := trodAll_cons r0
  obtain ⟨v2, vs2, d2, ds2, p2, q2, rfl, rfl, rfl, h2, r2⟩ := trodAll_cons r1
  obtain ⟨rfl, rfl, rfl⟩ := trodAll_nil r2
  obtain rfl : args = #[v0, v1, v2] := by cases args; simp_all
  obtain ⟨rfl, rfl⟩ := trodVars_none hV
  have lt0 : ∀ x ∈ p0, x.block < W.heap.size := by obtain ⟨m, hm⟩ := h0; exact DataW.trod_lt m _ _ _ hm
  have k0 := h0
  obtain ⟨a0, rfl, _, _, w0⟩ := open_int Tryz.underlying5 (hval 0 5 v0 rfl rfl) h0
  have lt1 : ∀ x ∈ p1, x.block < W.heap.size := by obtain ⟨m, hm⟩ := h1; exact DataW.trod_lt m _ _ _ hm
  have k1 := h1
  obtain ⟨a1, rfl, _, _, w1⟩ := open_int Tryz.underlying5 (hval 1 5 v1 rfl rfl) h1
  have k2 := h2
  have lt2 : ∀ x ∈ p2, x.block < W.heap.size := by obtain ⟨m, hm⟩ := k2; exact DataW.trod_lt m _ _ _ hm
  obtain ⟨b2, rfl, _, _⟩ := open_bool Tryz.underlying4 (hval 2 4 v2 rfl rfl) h2
  have w2 : b2 = b2 := rfl
  clear hA0 hval0
  refine (walk W (wt_laid hL) a0 a1 b2 w0 w1 w2).mono fun e W' ⟨he, bel⟩ => ?_
  subst he
  exact ⟨_, rfl, _, _, _, [], _, [], hW', trodAll_mk1 (shut_bool Tryz.underlying4 _), (trodAll_cons_mk (Below.trod laid_out (by kernel_rfl) (of_decide_eq_true (by kernel_rfl)) k0 bel lt0) (trodAll_cons_mk (Below.trod laid_out (by kernel_rfl) (of_decide_eq_true (by kernel_rfl)) k1 bel lt1) (trodAll_cons_mk (Below.trod laid_out (by kernel_rfl) (of_decide_eq_true (by kernel_rfl)) k2 bel lt2) (trodAll_mk0)))), rfl, bel.frame _, fun h => by cases h⟩

theorem over : Rows.checkPlacesRow.holds Tryz.pinned (OpenSpec.ofChange Rows.checkPlacesSpec) :=
  OpenClaim.holds_of_wide 12 Tryz.f12 rfl rfl rfl rfl rfl rfl rfl ⟨rfl, rfl, rfl, rfl, rfl⟩ rfl rfl rfl rfl rfl (by kernel_rfl) Tryz.func12 (by kernel_rfl)
    (of_decide_eq_true (by kernel_rfl)) (by unfold Func.isWrapper; first | (rw [if_pos (by decide +kernel)]; kernel_rfl) | (rw [if_neg (by decide +kernel)]; exact ⟨rfl, rfl⟩))
    (fun os started H enc _ => lifted os started H enc)

theorem proved : Rows.CheckPlacesCardSaid :=
  Claim7.holds_tied_plain_at .later [] [.data, .data, .data, .sentinel, .sentinel, .data] true Rows.checkPlacesCard.stood.harness Rows.checkPlacesCard.stood.looks
    over (fun _ h => by cases h) (by kernel_rfl) (fun _ h => by cases h) checkPlaces_row_tie rfl ⟨rfl, rfl⟩ (by kernel_rfl) rfl
    (fun f fn hf hfn => by
      obtain rfl : f = 12 := Option.some.inj ((show Tryz.prog.funcNamed "drover/droverlaw10.CheckPlaces" = some 12 by kernel_rfl).symm.trans hf) |>.symm
      obtain rfl : fn = Tryz.f12 := (Option.some.inj (Tryz.func12.symm.trans hfn)).symm
      exact ⟨by kernel_rfl, fun j t ht => by
        have hall : (Tryz.f12.params.toList.all fun u => !Tryz.prog.wantsStandIn u) = true := by kernel_rfl
        have hm : t ∈ Tryz.f12.params.toList := Array.mem_toList_iff.2 (Array.mem_of_getElem? ht)
        exact (show Tryz.prog.wantsStandIn t = false by simpa using List.all_eq_true.1 hall t hm)⟩)
    (by kernel_rfl)
end Go.Proofs.YtpakjjefbholdaaGreatDoor.checkPlaces
