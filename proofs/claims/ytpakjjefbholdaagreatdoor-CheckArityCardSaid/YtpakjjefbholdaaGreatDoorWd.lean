/- Package words: keys, escapes: the walks. -/
import Derived.Test.YtpakjjefbholdaaGreatDoorWc
import Derived.Test.YtpakjjefbholdaaGreatDoorShelf
namespace Go.Proofs.YtpakjjefbholdaaGreatDoor
open Go.RowKit
set_option linter.unusedVariables false

theorem strOf_data (l : List Nat) : (strOf l).data.toList = l.map UInt8.ofNat := by simp [strOf]
theorem strOf_extract (T : List Nat) (a b : Nat) : (strOf T).extract a b = strOf ((T.take b).drop a) := by
  apply ByteArray.ext
  simp [strOf, List.map_take, List.map_drop, List.drop_take]
theorem toList_strOf (l : List Nat) : (strOf l).toList = l.map UInt8.ofNat := by
  rw [ByteArray.toList_eq]
  simp [strOf]
theorem key_eq (s k : List Nat) (h8 : ∀ x ∈ s, x < 256) (L : List UInt8) (hk : L = k.map UInt8.ofNat) (k8 : ∀ x ∈ k, x < 256) : ((strOf s).toList == L) = decide (s = k) := by
  subst hk
  rw [← toList_strOf]
  exact strOf_eq s k h8 k8
set_option maxRecDepth 100000 in
set_option maxHeartbeats 4000000 in
theorem isKey_any (s : List Nat) (h8 : ∀ x ∈ s, x < 256) (w : World) : Calls Tryz.prog 216 #[.string (strOf s)] w fun e w' => e = .returned (.bool (decide (s ∈ keys))) ∧ w' = w := by
  have q0 : ((strOf s).toList == ([97, 99, 116, 111, 114] : List UInt8)) = decide (s = [97, 99, 116, 111, 114]) := key_eq s _ h8 _ rfl (by decide)
  have q1 : ((strOf s).toList == ([98, 101, 99, 111, 109, 101] : List UInt8)) = decide (s = [98, 101, 99, 111, 109, 101]) := key_eq s _ h8 _ rfl (by decide)
  have q2 : ((strOf s).toList == ([99, 97, 108, 108] : List UInt8)) = decide (s = [99, 97, 108, 108]) := key_eq s _ h8 _ rfl (by decide)
  have q3 : ((strOf s).toList == ([101, 108, 115, 101] : List UInt8)) = decide (s = [101, 108, 115, 101]) := key_eq s _ h8 _ rfl (by decide)
  have q4 : ((strOf s).toList == ([102, 97, 108, 115, 101] : List UInt8)) = decide (s = [102, 97, 108, 115, 101]) := key_eq s _ h8 _ rfl (by decide)
  have q5 : ((strOf s).toList == ([102, 117, 110, 99] : List UInt8)) = decide (s = [102, 117, 110, 99]) := key_eq s _ h8 _ rfl (by decide)
  have q6 : ((strOf s).toList == ([105, 102] : List UInt8)) = decide (s = [105, 102]) := key_eq s _ h8 _ rfl (by decide)
  have q7 : ((strOf s).toList == ([108, 101, 110] : List UInt8)) = decide (s = [108, 101, 110]) := key_eq s _ h8 _ rfl (by decide)
  have q8 : ((strOf s).toList == ([108, 101, 116] : List UInt8)) = decide (s = [108, 101, 116]) := key_eq s _ h8 _ rfl (by decide)
  have q9 : ((strOf s).toList == ([111, 110] : List UInt8)) = decide (s = [111, 110]) := key_eq s _ h8 _ rfl (by decide)
  have q10 : ((strOf s).toList == ([114, 101, 116, 117, 114, 110] : List UInt8)) = decide (s = [114, 101, 116, 117, 114, 110]) := key_eq s _ h8 _ rfl (by decide)
  have q11 : ((strOf s).toList == ([115, 101, 108, 102] : List UInt8)) = decide (s = [115, 101, 108, 102]) := key_eq s _ h8 _ rfl (by decide)
  have q12 : ((strOf s).toList == ([115, 101, 110, 100] : List UInt8)) = decide (s = [115, 101, 110, 100]) := key_eq s _ h8 _ rfl (by decide)
  have q13 : ((strOf s).toList == ([115, 101, 116] : List UInt8)) = decide (s = [115, 101, 116]) := key_eq s _ h8 _ rfl (by decide)
  have q14 : ((strOf s).toList == ([115, 112, 97, 119, 110] : List UInt8)) = decide (s = [115, 112, 97, 119, 110]) := key_eq s _ h8 _ rfl (by decide)
  have q15 : ((strOf s).toList == ([115, 116, 111, 112] : List UInt8)) = decide (s = [115, 116, 111, 112]) := key_eq s _ h8 _ rfl (by decide)
  have q16 : ((strOf s).toList == ([116, 114, 117, 101] : List UInt8)) = decide (s = [116, 114, 117, 101]) := key_eq s _ h8 _ rfl (by decide)
  have q17 : ((strOf s).toList == ([119, 104, 105, 108, 101] : List UInt8)) = decide (s = [119, 104, 105, 108, 101]) := key_eq s _ h8 _ rfl (by decide)
  have e : decide (s ∈ keys) = (decide (s = [97, 99, 116, 111, 114]) || decide (s = [98, 101, 99, 111, 109, 101]) || decide (s = [99, 97, 108, 108]) || decide (s = [101, 108, 115, 101]) || decide (s = [102, 97, 108, 115, 101]) || decide (s = [102, 117, 110, 99]) || decide (s = [105, 102]) || decide (s = [108, 101, 110]) || decide (s = [108, 101, 116]) || decide (s = [111, 110]) || decide (s = [114, 101, 116, 117, 114, 110]) || decide (s = [115, 101, 108, 102]) || decide (s = [115, 101, 110, 100]) || decide (s = [115, 101, 116]) || decide (s = [115, 112, 97, 119, 110]) || decide (s = [115, 116, 111, 112]) || decide (s = [116, 114, 117, 101]) || decide (s = [119, 104, 105, 108, 101])) := by rw [Bool.eq_iff_iff]; simp [keys, or_assoc]
  rw [e]
  clear e
  generalize decide (s = [97, 99, 116, 111, 114]) = b0 at *
  generalize decide (s = [98, 101, 99, 111, 109, 101]) = b1 at *
  generalize decide (s = [99, 97, 108, 108]) = b2 at *
  generalize decide (s = [101, 108, 115, 101]) = b3 at *
  generalize decide (s = [102, 97, 108, 115, 101]) = b4 at *
  generalize decide (s = [102, 117, 110, 99]) = b5 at *
  generalize decide (s = [105, 102]) = b6 at *
  generalize decide (s = [108, 101, 110]) = b7 at *
  generalize decide (s = [108, 101, 116]) = b8 at *
  generalize decide (s = [111, 110]) = b9 at *
  generalize decide (s = [114, 101, 116, 117, 114, 110]) = b10 at *
  generalize decide (s = [115, 101, 108, 102]) = b11 at *
  generalize decide (s = [115, 101, 110, 100]) = b12 at *
  generalize decide (s = [115, 101, 116]) = b13 at *
  generalize decide (s = [115, 112, 97, 119, 110]) = b14 at *
  generalize decide (s = [115, 116, 111, 112]) = b15 at *
  generalize decide (s = [116, 114, 117, 101]) = b16 at *
  generalize decide (s = [119, 104, 105, 108, 101]) = b17 at *
  generalize strOf s = S at *
  clear h8
  go_enter Tryz.func216, Tryz.ntmps216
  go_wp2_with fail
  all_goals
    go_ret
    refine ⟨?_, rfl⟩
    clear q0 q1 q2 q3 q4 q5 q6 q7 q8 q9 q10 q11 q12 q13 q14 q15 q16 q17
    subst_vars
    first | rfl | simp_all
def hexI (c : Nat) : Int := match hexd c with
  | some d => (d : Int)
  | none => -1
theorem hexI_eq : ∀ c < 256, Lib.indexByte [48, 49, 50, 51, 52, 53, 54, 55, 56, 57, 97, 98, 99, 100, 101, 102] (UInt8.ofNat c) = hexI c := by decide +kernel
def escV (q : Option (Nat × Nat)) : Value := match q with
  | some (x, n) => .tuple #[.int .u8 (x : Int), .int .i64 (n : Int)]
  | none => .tuple #[.int .u8 0, .int .i64 0]
theorem hex_or : ∀ x : Nat, x < 16 → ∀ y : Nat, y < 16 → bits BinOp.or IntKind.i64 ((x : Int) * 16) (y : Int) % 256 = ((16 * x + y : Nat) : Int) := by
  have h : ∀ x : Fin 16, ∀ y : Fin 16, bits BinOp.or IntKind.i64 ((x.val : Int) * 16) (y.val : Int) % 256 = ((16 * x.val + y.val : Nat) : Int) := by decide +kernel
  intro x hx y hy
  exact h ⟨x, hx⟩ ⟨y, hy⟩
set_option maxRecDepth 100000 in
set_option maxHeartbeats 2000000 in
theorem hexed_any (r : List Nat) (h8 : ∀ x ∈ r, x < 256) (hn : r.length ≤ 1099511627776) (w : World) : Calls Tryz.prog 223 #[.string (strOf (92 :: 120 :: r))] w fun e w' => e = .returned (escV (esc (92 :: 120 :: r))) ∧ w' = w := by
  have HS := Lib.hid (strIs (92 :: 120 :: r) (by intro x hx; simp at hx; rcases hx with rfl | rfl | hx; omega; omega; exact h8 x hx))
  have hz := HS.out.1
  match r, h8 with
  | [], _ =>
    generalize strOf [92, 120] = S at *
    simp at hz
    go_enter Tryz.func223, Tryz.ntmps223
    go_wp2_with fail
    go_ret2
    exact ⟨rfl, rfl⟩
  | [a], _ =>
    generalize strOf [92, 120, a] = S at *
    simp at hz
    go_enter Tryz.func223, Tryz.ntmps223
    go_wp2_with fail
    go_ret2
    exact ⟨rfl, rfl⟩
  | a :: b :: r, h8 =>
    have ha : a < 256 := h8 a (by simp)
    have hb : b < 256 := h8 b (by simp)
    obtain ⟨S, hS⟩ : ∃ S, S = strOf (92 :: 120 :: a :: b :: r) := ⟨_, rfl⟩
    rw [← hS] at HS hz ⊢
    clear hS
    have k2 : 2 < S.size := by rw [hz]; simp
    have k3 : 3 < S.size := by rw [hz]; simp
    have x2 := HS.out.2 2 (by simp) k2
    have x3 := HS.out.2 3 (by simp) k3
    simp only [List.getElem_cons_succ, List.getElem_cons_zero] at x2 x3
    have d0 : decide ((S.size : Int) < 4) = false := decide_eq_false (by omega)
    have HA := Lib.hid (hexI_eq a ha)
    have HB := Lib.hid (hexI_eq b hb)
    have he : Hid (esc (92 :: 120 :: a :: b :: r) = match hexd a, hexd b with | some a, some b => some (16 * a + b, 4) | _, _ => none) := Lib.hid rfl
    rw [he.out]
    clear hz he
    have HI := Lib.hid (fun (c : Nat) (hc : c < 256) => show Calls Tryz.prog 235 #[.string ⟨#[48, 49, 50, 51, 52, 53, 54, 55, 56, 57, 97, 98, 99, 100, 101, 102]⟩, .int .u8 (c : Int)] w fun e w' => e = .returned (.int .i64 (hexI c)) ∧ w' = w by
      refine (Tryz.strings_IndexByte _ _ w).mono ?_
      rintro e w' ⟨rfl, rfl⟩
      exact ⟨by rw [← hexI_eq c hc]; rfl, rfl⟩)
    have IA := Lib.hid (HI.out a ha)
    have IB := Lib.hid (HI.out b hb)
    clear HA HB HI
    unfold hexI at IA IB
    go_enter Tryz.func223, Tryz.ntmps223
    cases hA : hexd a with
    | none =>
      rw [hA] at IA
      cases hB : hexd b with
      | none =>
        rw [hB] at IB
        go_wp2_with (first | (go_at_call 235; refine IA.out.mono ?_; rintro e w' ⟨he, hw⟩; subst hw; subst he) | (go_at_call 235; refine IB.out.mono ?_; rintro e w' ⟨he, hw⟩; subst hw; subst he))
        go_ret2
        exact ⟨rfl, rfl⟩
      | some y =>
        rw [hB] at IB
        go_wp2_with (first | (go_at_call 235; refine IA.out.mono ?_; rintro e w' ⟨he, hw⟩; subst hw; subst he) | (go_at_call 235; refine IB.out.mono ?_; rintro e w' ⟨he, hw⟩; subst hw; subst he))
        go_ret2
        exact ⟨rfl, rfl⟩
    | some x =>
      rw [hA] at IA
      have hx16 := (hexd_ne hA).2
      cases hB : hexd b with
      | none =>
        rw [hB] at IB
        go_wp2_with (first | (go_at_call 235; refine IA.out.mono ?_; rintro e w' ⟨he, hw⟩; subst hw; subst he) | (go_at_call 235; refine IB.out.mono ?_; rintro e w' ⟨he, hw⟩; subst hw; subst he))
        go_ret2
        exact ⟨rfl, rfl⟩
      | some y =>
        rw [hB] at IB
        have hy16 := (hexd_ne hB).2
        go_wp2_with (first | (go_at_call 235; refine IA.out.mono ?_; rintro e w' ⟨he, hw⟩; subst hw; subst he) | (go_at_call 235; refine IB.out.mono ?_; rintro e w' ⟨he, hw⟩; subst hw; subst he))
        go_ret2
        refine ⟨?_, rfl⟩
        show Ending.returned (.tuple #[.int .u8 (bits BinOp.or IntKind.i64 ((x : Int) * 16) (y : Int) % 256), .int .i64 4]) = _
        rw [hex_or x hx16 y hy16]
        rfl
theorem esc_none {a b : Nat} {r : List Nat} (h : ¬ (a = 92 ∧ (b = 34 ∨ b = 92 ∨ b = 110 ∨ b = 120))) : esc (a :: b :: r) = none := by
  unfold esc
  split
  all_goals first
    | rfl
    | (rename_i e; simp only [List.cons.injEq] at e; obtain ⟨rfl, rfl, -⟩ := e; exact absurd ⟨rfl, by simp⟩ h)
set_option maxRecDepth 100000 in
set_option maxHeartbeats 2000000 in
theorem escaped_any (T : List Nat) (h8 : ∀ x ∈ T, x < 256) (hn : T.length ≤ 1099511627776) (w : World) : Calls Tryz.prog 213 #[.string (strOf T)] w fun e w' => e = .returned (escV (esc T)) ∧ w' = w := by
  have HS := Lib.hid (strIs T h8)
  have hz := HS.out.1
  match T, h8 with
  | [], _ =>
    generalize strOf [] = S at *
    simp at hz
    go_enter Tryz.func213, Tryz.ntmps213
    go_wp2_with fail
    go_ret2
    exact ⟨rfl, rfl⟩
  | [a], _ =>
    have he : esc [a] = none := by unfold esc; split <;> first | rfl | (rename_i e; simp at e)
    rw [he]
    generalize strOf [a] = S at *
    simp at hz
    go_enter Tryz.func213, Tryz.ntmps213
    go_wp2_with fail
    go_ret2
    exact ⟨rfl, rfl⟩
  | a :: b :: r, h8 =>
    by_cases ha : a = 92
    · subst ha
      by_cases hx : b = 120
      · subst hx
        have HX := Lib.hid (hexed_any r (fun x hx => h8 x (by simp [hx])) (by simp at hn; omega) w)
        obtain ⟨S, hS⟩ : ∃ S, S = strOf (92 :: 120 :: r) := ⟨_, rfl⟩
        rw [← hS] at HS HX hz ⊢
        clear hS
        obtain ⟨V, hV⟩ : ∃ V, Hid (escV (esc (92 :: 120 :: r)) = V ∧ ∃ x n : Nat, V = .tuple #[.int .u8 (x : Int), .int .i64 (n : Int)]) := by
          refine ⟨_, Lib.hid ⟨rfl, ?_⟩⟩
          unfold escV
          split
          · exact ⟨_, _, rfl⟩
          · exact ⟨0, 0, rfl⟩
        rw [hV.out.1] at HX ⊢
        obtain ⟨-, vx, vn, rfl⟩ := hV.out
        have k0 : 0 < S.size := by rw [hz]; simp
        have k1 : 1 < S.size := by rw [hz]; simp
        have x0 := HS.out.2 0 (by simp) k0
        have x1 := HS.out.2 1 (by simp) k1
        simp only [List.getElem_cons_succ, List.getElem_cons_zero] at x0 x1
        have d0 : decide ((S.size : Int) < 2) = false := decide_eq_false (by omega)
        clear hz
        go_enter Tryz.func213, Tryz.ntmps213
        go_wp2_with (go_at_call 223; refine HX.out.mono ?_; rintro e w' ⟨he, hw⟩; subst hw; subst he)
        go_ret2
        exact ⟨rfl, rfl⟩
      · by_cases h1 : b = 34 ∨ b = 92 ∨ b = 110
        · rcases h1 with rfl | rfl | rfl
          · obtain ⟨S, hS⟩ : ∃ S, S = strOf (92 :: 34 :: r) := ⟨_, rfl⟩
            rw [← hS] at HS hz ⊢
            clear hS
            have k0 : 0 < S.size := by rw [hz]; simp
            have k1 : 1 < S.size := by rw [hz]; simp
            have x0 := HS.out.2 0 (by simp) k0
            have x1 := HS.out.2 1 (by simp) k1
            simp only [List.getElem_cons_succ, List.getElem_cons_zero] at x0 x1
            have d0 : decide ((S.size : Int) < 2) = false := decide_eq_false (by omega)
            clear hz
            go_enter Tryz.func213, Tryz.ntmps213
            go_wp2_with fail
            go_ret2
            exact ⟨rfl, rfl⟩
          · obtain ⟨S, hS⟩ : ∃ S, S = strOf (92 :: 92 :: r) := ⟨_, rfl⟩
            rw [← hS] at HS hz ⊢
            clear hS
            have k0 : 0 < S.size := by rw [hz]; simp
            have k1 : 1 < S.size := by rw [hz]; simp
            have x0 := HS.out.2 0 (by simp) k0
            have x1 := HS.out.2 1 (by simp) k1
            simp only [List.getElem_cons_succ, List.getElem_cons_zero] at x0 x1
            have d0 : decide ((S.size : Int) < 2) = false := decide_eq_false (by omega)
            clear hz
            go_enter Tryz.func213, Tryz.ntmps213
            go_wp2_with fail
            go_ret2
            exact ⟨rfl, rfl⟩
          · obtain ⟨S, hS⟩ : ∃ S, S = strOf (92 :: 110 :: r) := ⟨_, rfl⟩
            rw [← hS] at HS hz ⊢
            clear hS
            have k0 : 0 < S.size := by rw [hz]; simp
            have k1 : 1 < S.size := by rw [hz]; simp
            have x0 := HS.out.2 0 (by simp) k0
            have x1 := HS.out.2 1 (by simp) k1
            simp only [List.getElem_cons_succ, List.getElem_cons_zero] at x0 x1
            have d0 : decide ((S.size : Int) < 2) = false := decide_eq_false (by omega)
            clear hz
            go_enter Tryz.func213, Tryz.ntmps213
            go_wp2_with fail
            go_ret2
            exact ⟨rfl, rfl⟩
        · rw [esc_none (by omega)]
          obtain ⟨S, hS⟩ : ∃ S, S = strOf (92 :: b :: r) := ⟨_, rfl⟩
          rw [← hS] at HS hz ⊢
          clear hS
          have k0 : 0 < S.size := by rw [hz]; simp
          have k1 : 1 < S.size := by rw [hz]; simp
          have x0 := HS.out.2 0 (by simp) k0
          have x1 := HS.out.2 1 (by simp) k1
          simp only [List.getElem_cons_succ, List.getElem_cons_zero] at x0 x1
          have d0 : decide ((S.size : Int) < 2) = false := decide_eq_false (by omega)
          have d1 : ((b : Int) == 34) = false := beq_eq_false_iff_ne.2 (by omega)
          have d2 : ((b : Int) == 92) = false := beq_eq_false_iff_ne.2 (by omega)
          have d3 : ((b : Int) == 110) = false := beq_eq_false_iff_ne.2 (by omega)
          have d4 : ((b : Int) == 120) = false := beq_eq_false_iff_ne.2 (by omega)
          clear hz
          go_enter Tryz.func213, Tryz.ntmps213
          go_wp2_with fail
          go_ret2
          exact ⟨rfl, rfl⟩
    · rw [esc_none (by omega)]
      obtain ⟨S, hS⟩ : ∃ S, S = strOf (a :: b :: r) := ⟨_, rfl⟩
      rw [← hS] at HS hz ⊢
      clear hS
      have k0 : 0 < S.size := by rw [hz]; simp
      have x0 := HS.out.2 0 (by simp) k0
      simp only [List.getElem_cons_zero] at x0
      have d0 : decide ((S.size : Int) < 2) = false := decide_eq_false (by rw [hz]; simp; omega)
      have d1 : ((a : Int) != 92) = true := bne_iff_ne.2 (by omega)
      clear hz
      go_enter Tryz.func213, Tryz.ntmps213
      go_wp2_with fail
      go_ret2
      exact ⟨rfl, rfl⟩
end Go.Proofs.YtpakjjefbholdaaGreatDoor
