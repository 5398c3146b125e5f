/- Texts Wd, We, Wf, Wg, Wh of this seat in one: see each part. -/
import Derived.Deep.MidRow
import Derived.Lib.AppendStr
import Derived.Test.YteacmanbiamhoaaGreatDoorWc
import Derived.Test.YteacmanbiamhoaaGreatDoorShelf
namespace Go.Proofs.YteacmanbiamhoaaGreatDoor
open Go.RowKit
set_option linter.unusedVariables false

theorem strOf_data (l : List Nat) : (strOf l).data.toList = l.map UInt8.ofNat := by simp [strOf]
theorem strOf_extract (T : List Nat) (a b : Nat) : (strOf T).extract a b = strOf ((T.take b).drop a) := by
  apply ByteArray.ext
  simp [strOf, List.map_take, List.map_drop, List.drop_take]
theorem toList_strOf (l : List Nat) : (strOf l).toList = l.map UInt8.ofNat := by
  rw [ByteArray.toList_eq]
  simp [strOf]
theorem key_eq (s k : List Nat) (h8 : ∀ x ∈ s, x < 256) (L : List UInt8) (hk : L = k.map UInt8.ofNat) (k8 : ∀ x ∈ k, x < 256) : ((strOf s).toList == L) = decide (s = k) := by
  subst hk
  rw [← toList_strOf]
  exact strOf_eq s k h8 k8
set_option maxRecDepth 100000 in
set_option maxHeartbeats 4000000 in
theorem isKey_any (s : List Nat) (h8 : ∀ x ∈ s, x < 256) (w : World) : Calls Tryz.prog 296 #[.string (strOf s)] w fun e w' => e = .returned (.bool (decide (s ∈ keys))) ∧ w' = w := by
  have q0 : ((strOf s).toList == ([97, 99, 116, 111, 114] : List UInt8)) = decide (s = [97, 99, 116, 111, 114]) := key_eq s _ h8 _ rfl (by decide)
  have q1 : ((strOf s).toList == ([98, 101, 99, 111, 109, 101] : List UInt8)) = decide (s = [98, 101, 99, 111, 109, 101]) := key_eq s _ h8 _ rfl (by decide)
  have q2 : ((strOf s).toList == ([99, 97, 108, 108] : List UInt8)) = decide (s = [99, 97, 108, 108]) := key_eq s _ h8 _ rfl (by decide)
  have q3 : ((strOf s).toList == ([101, 108, 115, 101] : List UInt8)) = decide (s = [101, 108, 115, 101]) := key_eq s _ h8 _ rfl (by decide)
  have q4 : ((strOf s).toList == ([102, 97, 108, 115, 101] : List UInt8)) = decide (s = [102, 97, 108, 115, 101]) := key_eq s _ h8 _ rfl (by decide)
  have q5 : ((strOf s).toList == ([102, 117, 110, 99] : List UInt8)) = decide (s = [102, 117, 110, 99]) := key_eq s _ h8 _ rfl (by decide)
  have q6 : ((strOf s).toList == ([105, 102] : List UInt8)) = decide (s = [105, 102]) := key_eq s _ h8 _ rfl (by decide)
  have q7 : ((strOf s).toList == ([108, 101, 110] : List UInt8)) = decide (s = [108, 101, 110]) := key_eq s _ h8 _ rfl (by decide)
  have q8 : ((strOf s).toList == ([108, 101, 116] : List UInt8)) = decide (s = [108, 101, 116]) := key_eq s _ h8 _ rfl (by decide)
  have q9 : ((strOf s).toList == ([111, 110] : List UInt8)) = decide (s = [111, 110]) := key_eq s _ h8 _ rfl (by decide)
  have q10 : ((strOf s).toList == ([114, 101, 116, 117, 114, 110] : List UInt8)) = decide (s = [114, 101, 116, 117, 114, 110]) := key_eq s _ h8 _ rfl (by decide)
  have q11 : ((strOf s).toList == ([115, 101, 108, 102] : List UInt8)) = decide (s = [115, 101, 108, 102]) := key_eq s _ h8 _ rfl (by decide)
  have q12 : ((strOf s).toList == ([115, 101, 110, 100] : List UInt8)) = decide (s = [115, 101, 110, 100]) := key_eq s _ h8 _ rfl (by decide)
  have q13 : ((strOf s).toList == ([115, 101, 116] : List UInt8)) = decide (s = [115, 101, 116]) := key_eq s _ h8 _ rfl (by decide)
  have q14 : ((strOf s).toList == ([115, 112, 97, 119, 110] : List UInt8)) = decide (s = [115, 112, 97, 119, 110]) := key_eq s _ h8 _ rfl (by decide)
  have q15 : ((strOf s).toList == ([115, 116, 111, 112] : List UInt8)) = decide (s = [115, 116, 111, 112]) := key_eq s _ h8 _ rfl (by decide)
  have q16 : ((strOf s).toList == ([116, 114, 117, 101] : List UInt8)) = decide (s = [116, 114, 117, 101]) := key_eq s _ h8 _ rfl (by decide)
  have q17 : ((strOf s).toList == ([119, 104, 105, 108, 101] : List UInt8)) = decide (s = [119, 104, 105, 108, 101]) := key_eq s _ h8 _ rfl (by decide)
  have e : decide (s ∈ keys) = (decide (s = [97, 99, 116, 111, 114]) || decide (s = [98, 101, 99, 111, 109, 101]) || decide (s = [99, 97, 108, 108]) || decide (s = [101, 108, 115, 101]) || decide (s = [102, 97, 108, 115, 101]) || decide (s = [102, 117, 110, 99]) || decide (s = [105, 102]) || decide (s = [108, 101, 110]) || decide (s = [108, 101, 116]) || decide (s = [111, 110]) || decide (s = [114, 101, 116, 117, 114, 110]) || decide (s = [115, 101, 108, 102]) || decide (s = [115, 101, 110, 100]) || decide (s = [115, 101, 116]) || decide (s = [115, 112, 97, 119, 110]) || decide (s = [115, 116, 111, 112]) || decide (s = [116, 114, 117, 101]) || decide (s = [119, 104, 105, 108, 101])) := by rw [Bool.eq_iff_iff]; simp [keys, or_assoc]
  rw [e]
  clear e
  generalize decide (s = [97, 99, 116, 111, 114]) = b0 at *
  generalize decide (s = [98, 101, 99, 111, 109, 101]) = b1 at *
  generalize decide (s = [99, 97, 108, 108]) = b2 at *
  generalize decide (s = [101, 108, 115, 101]) = b3 at *
  generalize decide (s = [102, 97, 108, 115, 101]) = b4 at *
  generalize decide (s = [102, 117, 110, 99]) = b5 at *
  generalize decide (s = [105, 102]) = b6 at *
  generalize decide (s = [108, 101, 110]) = b7 at *
  generalize decide (s = [108, 101, 116]) = b8 at *
  generalize decide (s = [111, 110]) = b9 at *
  generalize decide (s = [114, 101, 116, 117, 114, 110]) = b10 at *
  generalize decide (s = [115, 101, 108, 102]) = b11 at *
  generalize decide (s = [115, 101, 110, 100]) = b12 at *
  generalize decide (s = [115, 101, 116]) = b13 at *
  generalize decide (s = [115, 112, 97, 119, 110]) = b14 at *
  generalize decide (s = [115, 116, 111, 112]) = b15 at *
  generalize decide (s = [116, 114, 117, 101]) = b16 at *
  generalize decide (s = [119, 104, 105, 108, 101]) = b17 at *
  generalize strOf s = S at *
  clear h8
  go_enter Tryz.func296, Tryz.ntmps296
  go_wp2_with fail
  all_goals
    go_ret
    refine ⟨?_, rfl⟩
    clear q0 q1 q2 q3 q4 q5 q6 q7 q8 q9 q10 q11 q12 q13 q14 q15 q16 q17
    subst_vars
    first | rfl | simp_all
def hexI (c : Nat) : Int := match hexd c with
  | some d => (d : Int)
  | none => -1
theorem hexI_eq : ∀ c < 256, Lib.indexByte [48, 49, 50, 51, 52, 53, 54, 55, 56, 57, 97, 98, 99, 100, 101, 102] (UInt8.ofNat c) = hexI c := by decide +kernel
def escV (q : Option (Nat × Nat)) : Value := match q with
  | some (x, n) => .tuple #[.int .u8 (x : Int), .int .i64 (n : Int)]
  | none => .tuple #[.int .u8 0, .int .i64 0]
theorem hex_or : ∀ x : Nat, x < 16 → ∀ y : Nat, y < 16 → bits BinOp.or IntKind.i64 ((x : Int) * 16) (y : Int) % 256 = ((16 * x + y : Nat) : Int) := by
  have h : ∀ x : Fin 16, ∀ y : Fin 16, bits BinOp.or IntKind.i64 ((x.val : Int) * 16) (y.val : Int) % 256 = ((16 * x.val + y.val : Nat) : Int) := by decide +kernel
  intro x hx y hy
  exact h ⟨x, hx⟩ ⟨y, hy⟩
set_option maxRecDepth 100000 in
set_option maxHeartbeats 2000000 in
theorem hexed_any (r : List Nat) (h8 : ∀ x ∈ r, x < 256) (hn : r.length ≤ 1099511627776) (w : World) : Calls Tryz.prog 307 #[.string (strOf (92 :: 120 :: r))] w fun e w' => e = .returned (escV (esc (92 :: 120 :: r))) ∧ w' = w := by
  have HS := Lib.hid (strIs (92 :: 120 :: r) (by intro x hx; simp at hx; rcases hx with rfl | rfl | hx; omega; omega; exact h8 x hx))
  have hz := HS.out.1
  match r, h8 with
  | [], _ =>
    generalize strOf [92, 120] = S at *
    simp at hz
    go_enter Tryz.func307, Tryz.ntmps307
    go_wp2_with fail
    go_ret2
    exact ⟨rfl, rfl⟩
  | [a], _ =>
    generalize strOf [92, 120, a] = S at *
    simp at hz
    go_enter Tryz.func307, Tryz.ntmps307
    go_wp2_with fail
    go_ret2
    exact ⟨rfl, rfl⟩
  | a :: b :: r, h8 =>
    have ha : a < 256 := h8 a (by simp)
    have hb : b < 256 := h8 b (by simp)
    obtain ⟨S, hS⟩ : ∃ S, S = strOf (92 :: 120 :: a :: b :: r) := ⟨_, rfl⟩
    rw [← hS] at HS hz ⊢
    clear hS
    have k2 : 2 < S.size := by rw [hz]; simp
    have k3 : 3 < S.size := by rw [hz]; simp
    have x2 := HS.out.2 2 (by simp) k2
    have x3 := HS.out.2 3 (by simp) k3
    simp only [List.getElem_cons_succ, List.getElem_cons_zero] at x2 x3
    have d0 : decide ((S.size : Int) < 4) = false := decide_eq_false (by omega)
    have HA := Lib.hid (hexI_eq a ha)
    have HB := Lib.hid (hexI_eq b hb)
    have he : Hid (esc (92 :: 120 :: a :: b :: r) = match hexd a, hexd b with | some a, some b => some (16 * a + b, 4) | _, _ => none) := Lib.hid rfl
    rw [he.out]
    clear hz he
    have HI := Lib.hid (fun (c : Nat) (hc : c < 256) => show Calls Tryz.prog 317 #[.string ⟨#[48, 49, 50, 51, 52, 53, 54, 55, 56, 57, 97, 98, 99, 100, 101, 102]⟩, .int .u8 (c : Int)] w fun e w' => e = .returned (.int .i64 (hexI c)) ∧ w' = w by
      refine (Tryz.strings_IndexByte _ _ w).mono ?_
      rintro e w' ⟨rfl, rfl⟩
      exact ⟨by rw [← hexI_eq c hc]; rfl, rfl⟩)
    have IA := Lib.hid (HI.out a ha)
    have IB := Lib.hid (HI.out b hb)
    clear HA HB HI
    unfold hexI at IA IB
    go_enter Tryz.func307, Tryz.ntmps307
    cases hA : hexd a with
    | none =>
      rw [hA] at IA
      cases hB : hexd b with
      | none =>
        rw [hB] at IB
        go_wp2_with (first | (go_at_call 317; refine IA.out.mono ?_; rintro e w' ⟨he, hw⟩; subst hw; subst he) | (go_at_call 317; refine IB.out.mono ?_; rintro e w' ⟨he, hw⟩; subst hw; subst he))
        go_ret2
        exact ⟨rfl, rfl⟩
      | some y =>
        rw [hB] at IB
        go_wp2_with (first | (go_at_call 317; refine IA.out.mono ?_; rintro e w' ⟨he, hw⟩; subst hw; subst he) | (go_at_call 317; refine IB.out.mono ?_; rintro e w' ⟨he, hw⟩; subst hw; subst he))
        go_ret2
        exact ⟨rfl, rfl⟩
    | some x =>
      rw [hA] at IA
      have hx16 := (hexd_ne hA).2
      cases hB : hexd b with
      | none =>
        rw [hB] at IB
        go_wp2_with (first | (go_at_call 317; refine IA.out.mono ?_; rintro e w' ⟨he, hw⟩; subst hw; subst he) | (go_at_call 317; refine IB.out.mono ?_; rintro e w' ⟨he, hw⟩; subst hw; subst he))
        go_ret2
        exact ⟨rfl, rfl⟩
      | some y =>
        rw [hB] at IB
        have hy16 := (hexd_ne hB).2
        go_wp2_with (first | (go_at_call 317; refine IA.out.mono ?_; rintro e w' ⟨he, hw⟩; subst hw; subst he) | (go_at_call 317; refine IB.out.mono ?_; rintro e w' ⟨he, hw⟩; subst hw; subst he))
        go_ret2
        refine ⟨?_, rfl⟩
        show Ending.returned (.tuple #[.int .u8 (bits BinOp.or IntKind.i64 ((x : Int) * 16) (y : Int) % 256), .int .i64 4]) = _
        rw [hex_or x hx16 y hy16]
        rfl
theorem esc_none {a b : Nat} {r : List Nat} (h : ¬ (a = 92 ∧ (b = 34 ∨ b = 92 ∨ b = 110 ∨ b = 120))) : esc (a :: b :: r) = none := by
  unfold esc
  split
  all_goals first
    | rfl
    | (rename_i e; simp only [List.cons.injEq] at e; obtain ⟨rfl, rfl, -⟩ := e; exact absurd ⟨rfl, by simp⟩ h)
set_option maxRecDepth 100000 in
set_option maxHeartbeats 2000000 in
theorem escaped_any (T : List Nat) (h8 : ∀ x ∈ T, x < 256) (hn : T.length ≤ 1099511627776) (w : World) : Calls Tryz.prog 293 #[.string (strOf T)] w fun e w' => e = .returned (escV (esc T)) ∧ w' = w := by
  have HS := Lib.hid (strIs T h8)
  have hz := HS.out.1
  match T, h8 with
  | [], _ =>
    generalize strOf [] = S at *
    simp at hz
    go_enter Tryz.func293, Tryz.ntmps293
    go_wp2_with fail
    go_ret2
    exact ⟨rfl, rfl⟩
  | [a], _ =>
    have he : esc [a] = none := by unfold esc; split <;> first | rfl | (rename_i e; simp at e)
    rw [he]
    generalize strOf [a] = S at *
    simp at hz
    go_enter Tryz.func293, Tryz.ntmps293
    go_wp2_with fail
    go_ret2
    exact ⟨rfl, rfl⟩
  | a :: b :: r, h8 =>
    by_cases ha : a = 92
    · subst ha
      by_cases hx : b = 120
      · subst hx
        have HX := Lib.hid (hexed_any r (fun x hx => h8 x (by simp [hx])) (by simp at hn; omega) w)
        obtain ⟨S, hS⟩ : ∃ S, S = strOf (92 :: 120 :: r) := ⟨_, rfl⟩
        rw [← hS] at HS HX hz ⊢
        clear hS
        obtain ⟨V, hV⟩ : ∃ V, Hid (escV (esc (92 :: 120 :: r)) = V ∧ ∃ x n : Nat, V = .tuple #[.int .u8 (x : Int), .int .i64 (n : Int)]) := by
          refine ⟨_, Lib.hid ⟨rfl, ?_⟩⟩
          unfold escV
          split
          · exact ⟨_, _, rfl⟩
          · exact ⟨0, 0, rfl⟩
        rw [hV.out.1] at HX ⊢
        obtain ⟨-, vx, vn, rfl⟩ := hV.out
        have k0 : 0 < S.size := by rw [hz]; simp
        have k1 : 1 < S.size := by rw [hz]; simp
        have x0 := HS.out.2 0 (by simp) k0
        have x1 := HS.out.2 1 (by simp) k1
        simp only [List.getElem_cons_succ, List.getElem_cons_zero] at x0 x1
        have d0 : decide ((S.size : Int) < 2) = false := decide_eq_false (by omega)
        clear hz
        go_enter Tryz.func293, Tryz.ntmps293
        go_wp2_with (go_at_call 307; refine HX.out.mono ?_; rintro e w' ⟨he, hw⟩; subst hw; subst he)
        go_ret2
        exact ⟨rfl, rfl⟩
      · by_cases h1 : b = 34 ∨ b = 92 ∨ b = 110
        · rcases h1 with rfl | rfl | rfl
          · obtain ⟨S, hS⟩ : ∃ S, S = strOf (92 :: 34 :: r) := ⟨_, rfl⟩
            rw [← hS] at HS hz ⊢
            clear hS
            have k0 : 0 < S.size := by rw [hz]; simp
            have k1 : 1 < S.size := by rw [hz]; simp
            have x0 := HS.out.2 0 (by simp) k0
            have x1 := HS.out.2 1 (by simp) k1
            simp only [List.getElem_cons_succ, List.getElem_cons_zero] at x0 x1
            have d0 : decide ((S.size : Int) < 2) = false := decide_eq_false (by omega)
            clear hz
            go_enter Tryz.func293, Tryz.ntmps293
            go_wp2_with fail
            go_ret2
            exact ⟨rfl, rfl⟩
          · obtain ⟨S, hS⟩ : ∃ S, S = strOf (92 :: 92 :: r) := ⟨_, rfl⟩
            rw [← hS] at HS hz ⊢
            clear hS
            have k0 : 0 < S.size := by rw [hz]; simp
            have k1 : 1 < S.size := by rw [hz]; simp
            have x0 := HS.out.2 0 (by simp) k0
            have x1 := HS.out.2 1 (by simp) k1
            simp only [List.getElem_cons_succ, List.getElem_cons_zero] at x0 x1
            have d0 : decide ((S.size : Int) < 2) = false := decide_eq_false (by omega)
            clear hz
            go_enter Tryz.func293, Tryz.ntmps293
            go_wp2_with fail
            go_ret2
            exact ⟨rfl, rfl⟩
          · obtain ⟨S, hS⟩ : ∃ S, S = strOf (92 :: 110 :: r) := ⟨_, rfl⟩
            rw [← hS] at HS hz ⊢
            clear hS
            have k0 : 0 < S.size := by rw [hz]; simp
            have k1 : 1 < S.size := by rw [hz]; simp
            have x0 := HS.out.2 0 (by simp) k0
            have x1 := HS.out.2 1 (by simp) k1
            simp only [List.getElem_cons_succ, List.getElem_cons_zero] at x0 x1
            have d0 : decide ((S.size : Int) < 2) = false := decide_eq_false (by omega)
            clear hz
            go_enter Tryz.func293, Tryz.ntmps293
            go_wp2_with fail
            go_ret2
            exact ⟨rfl, rfl⟩
        · rw [esc_none (by omega)]
          obtain ⟨S, hS⟩ : ∃ S, S = strOf (92 :: b :: r) := ⟨_, rfl⟩
          rw [← hS] at HS hz ⊢
          clear hS
          have k0 : 0 < S.size := by rw [hz]; simp
          have k1 : 1 < S.size := by rw [hz]; simp
          have x0 := HS.out.2 0 (by simp) k0
          have x1 := HS.out.2 1 (by simp) k1
          simp only [List.getElem_cons_succ, List.getElem_cons_zero] at x0 x1
          have d0 : decide ((S.size : Int) < 2) = false := decide_eq_false (by omega)
          have d1 : ((b : Int) == 34) = false := beq_eq_false_iff_ne.2 (by omega)
          have d2 : ((b : Int) == 92) = false := beq_eq_false_iff_ne.2 (by omega)
          have d3 : ((b : Int) == 110) = false := beq_eq_false_iff_ne.2 (by omega)
          have d4 : ((b : Int) == 120) = false := beq_eq_false_iff_ne.2 (by omega)
          clear hz
          go_enter Tryz.func293, Tryz.ntmps293
          go_wp2_with fail
          go_ret2
          exact ⟨rfl, rfl⟩
    · rw [esc_none (by omega)]
      obtain ⟨S, hS⟩ : ∃ S, S = strOf (a :: b :: r) := ⟨_, rfl⟩
      rw [← hS] at HS hz ⊢
      clear hS
      have k0 : 0 < S.size := by rw [hz]; simp
      have x0 := HS.out.2 0 (by simp) k0
      simp only [List.getElem_cons_zero] at x0
      have d0 : decide ((S.size : Int) < 2) = false := decide_eq_false (by rw [hz]; simp; omega)
      have d1 : ((a : Int) != 92) = true := bne_iff_ne.2 (by omega)
      clear hz
      go_enter Tryz.func293, Tryz.ntmps293
      go_wp2_with fail
      go_ret2
      exact ⟨rfl, rfl⟩
end Go.Proofs.YteacmanbiamhoaaGreatDoor
namespace Go.Proofs.YteacmanbiamhoaaGreatDoor
open Go.RowKit
set_option linter.unusedVariables false

/-- What the laid variables read as. -/
structure Wt (w : World) : Prop where
  sg : ∀ j, j < 24 → w.cell? ⟨5, j, none⟩ = some (.string (strOf (signs.getD j [])))
  er : ∃ ev, w.cell? ⟨9, 0, none⟩ = some ev ∧ (ev = .nilIface ∨ ∃ te pe, ev = .iface te pe)
theorem Wt.below {w w' : World} (h : Wt w) (hb : Below w.heap.size w w') : Wt w' := by
  refine ⟨fun j hj => (hb.cell (p := ⟨_, j, none⟩) (World.block_lt_of_cell? _ _ (h.sg j hj))).trans (h.sg j hj), ?_⟩
  obtain ⟨ev, h1, h2⟩ := h.er
  exact ⟨ev, (hb.cell (p := ⟨_, 0, none⟩) (World.block_lt_of_cell? _ _ h1)).trans h1, h2⟩
theorem set6 {X : World} {g : Nat} {y0 y1 y2 y3 y4 y5 : Value} (q : X.heap[g]? = some (.cells #[y0, y1, y2, y3, y4, y5] 100 (0, 0))) (z0 z1 z2 z3 z4 z5 : Value) : ((((((X.setCell ⟨g, 0, none⟩ z0).setCell ⟨g, 1, none⟩ z1).setCell ⟨g, 2, none⟩ z2).setCell ⟨g, 3, none⟩ z3).setCell ⟨g, 4, none⟩ z4).setCell ⟨g, 5, none⟩ z5).heap[g]? = some (.cells #[z0, z1, z2, z3, z4, z5] 100 (0, 0)) := by
  have := heap_set (heap_set (heap_set (heap_set (heap_set (heap_set q 0 z0) 1 z1) 2 z2) 3 z3) 4 z4) 5 z5
  simpa using this
theorem bel6 {B : Nat} {w X : World} {g : Nat} (hb : Below B w X) (hg : B ≤ g) (z0 z1 z2 z3 z4 z5 : Value) : Below B w ((((((X.setCell ⟨g, 0, none⟩ z0).setCell ⟨g, 1, none⟩ z1).setCell ⟨g, 2, none⟩ z2).setCell ⟨g, 3, none⟩ z3).setCell ⟨g, 4, none⟩ z4).setCell ⟨g, 5, none⟩ z5) :=
  (((((hb.setCell hg _).setCell hg _).setCell hg _).setCell hg _).setCell hg _).setCell hg _
theorem ret_sign {w X : World} {g : Nat} {y0 y1 y2 y3 y4 y5 z0 z1 z2 z3 z4 z5 : Value} {b : Bool} {V : Value} {a : Act} (q : X.heap[g]? = some (.cells #[y0, y1, y2, y3, y4, y5] 100 (0, 0))) (hb : Below w.heap.size w X) (hg : w.heap.size ≤ g) (h2 : a.tmps[2]?.getD undef = .pointer (some ⟨g, 0, none⟩)) (h3 : a.tmps[3]?.getD undef = .bool b) (hd : a.defers = []) (hV : V = .tuple #[.agg #[z0, z1, z2, z3, z4, z5], .bool b]) :
    bodyPost Tryz.prog Tryz.f264 (fun e w' => e = .returned V ∧ Below w.heap.size w w') Exit.ret a ((((((X.setCell ⟨g, 0, none⟩ z0).setCell ⟨g, 1, none⟩ z1).setCell ⟨g, 2, none⟩ z2).setCell ⟨g, 3, none⟩ z3).setCell ⟨g, 4, none⟩ z4).setCell ⟨g, 5, none⟩ z5) := by
  have p := set6 q z0 z1 z2 z3 z4 z5
  have c0 := cell_block p 0
  have c1 := cell_block p 1
  have c2 := cell_block p 2
  have c3 := cell_block p 3
  have c4 := cell_block p 4
  have c5 := cell_block p 5
  subst hV
  exact bodyPost_ret (v := .tuple #[.agg #[z0, z1, z2, z3, z4, z5], .bool b]) (by simp [results, Tryz.results264, go_sem, h2, h3, c0, c1, c2, c3, c4, c5]) hd ⟨rfl, bel6 hb hg _ _ _ _ _ _⟩
def sgnV (q : Option (List Nat)) : Value := match q with
  | some s => .tuple #[.agg #[.int .u8 5, .string (strOf s), .int .i64 0, .int .i64 0, .int .i64 0, .int .i64 (s.length : Int)], .bool true]
  | none => .tuple #[.agg #[.int .u8 0, .string ⟨#[]⟩, .int .i64 0, .int .i64 0, .int .i64 0, .int .i64 0], .bool false]
theorem pfx_map : ∀ (s T : List Nat), (∀ x ∈ s, x < 256) → (∀ x ∈ T, x < 256) → (s.map UInt8.ofNat).isPrefixOf (T.map UInt8.ofNat) = s.isPrefixOf T
  | [], T, _, _ => by simp
  | a :: s, [], _, _ => by simp
  | a :: s, b :: T, h, h' => by
    have ha := h a (by simp)
    have hb := h' b (by simp)
    have ih := pfx_map s T (fun x hx => h x (by simp [hx])) (fun x hx => h' x (by simp [hx]))
    simp only [List.map_cons, List.isPrefixOf]
    rw [ih]
    have e : (UInt8.ofNat a == UInt8.ofNat b) = (a == b) := by
      rw [Bool.eq_iff_iff, beq_iff_eq, beq_iff_eq]
      refine ⟨fun e => ?_, fun e => by rw [e]⟩
      have := congrArg UInt8.toNat e
      rw [UInt8.toNat_ofNat', UInt8.toNat_ofNat', Nat.mod_eq_of_lt ha, Nat.mod_eq_of_lt hb] at this
      exact this
    rw [e]
theorem find_hit {α : Type} (p : α → Bool) (d : α) : ∀ (l : List α) (j : Nat), j < l.length → (∀ i, i < j → p (l.getD i d) = false) → p (l.getD j d) = true → l.find? p = some (l.getD j d)
  | [], j, h, _, _ => by simp at h
  | x :: r, 0, _, _, h => by
    have h' : p x = true := h
    rw [List.find?_cons, h']
    rfl
  | x :: r, j + 1, hj, h0, h => by
    have h' : p x = false := h0 0 (by omega)
    rw [List.find?_cons, h']
    exact find_hit p d r j (by simpa using hj) (fun i hi => h0 (i + 1) (by omega)) h
theorem find_miss {α : Type} (p : α → Bool) (d : α) : ∀ (l : List α), (∀ i, i < l.length → p (l.getD i d) = false) → l.find? p = none
  | [], _ => rfl
  | x :: r, h0 => by
    have h' : p x = false := h0 0 (by simp)
    rw [List.find?_cons, h']
    exact find_miss p d r (fun i hi => h0 (i + 1) (by simpa using hi))
/-- The signs, as the array's value. -/
def sgA : Value := .agg (signs.map fun s => Value.string (strOf s)).toArray
theorem sg_idx (w : World) : ∀ j : Nat, j < 24 → (Instr.index 340 sgA (.int .i64 (j : Int))).run Tryz.prog w = .ok (.string (strOf (signs.getD j []))) w
  | 0, _ => by kernel_rfl
  | 1, _ => by kernel_rfl
  | 2, _ => by kernel_rfl
  | 3, _ => by kernel_rfl
  | 4, _ => by kernel_rfl
  | 5, _ => by kernel_rfl
  | 6, _ => by kernel_rfl
  | 7, _ => by kernel_rfl
  | 8, _ => by kernel_rfl
  | 9, _ => by kernel_rfl
  | 10, _ => by kernel_rfl
  | 11, _ => by kernel_rfl
  | 12, _ => by kernel_rfl
  | 13, _ => by kernel_rfl
  | 14, _ => by kernel_rfl
  | 15, _ => by kernel_rfl
  | 16, _ => by kernel_rfl
  | 17, _ => by kernel_rfl
  | 18, _ => by kernel_rfl
  | 19, _ => by kernel_rfl
  | 20, _ => by kernel_rfl
  | 21, _ => by kernel_rfl
  | 22, _ => by kernel_rfl
  | 23, _ => by kernel_rfl
  | n + 24, h => absurd h (by omega)
set_option maxRecDepth 100000 in
set_option maxHeartbeats 4000000 in
theorem sign_any (T : List Nat) (h8 : ∀ x ∈ T, x < 256) (hn : T.length ≤ 1099511627776) (w : World) (hw : Wt w) : Calls Tryz.prog 264 #[.string (strOf T)] w fun e w' => e = .returned (sgnV (sgn T)) ∧ Below w.heap.size w w' := by
  have HP := Lib.hid (fun (s : List Nat) (L : ByteArray) (hL : L = strOf s) (hs : ∀ x ∈ s, x < 256) (w : World) => show Calls Tryz.prog 70 #[.string (strOf T), .string L] w fun e w' => e = .returned (.bool (s.isPrefixOf T)) ∧ w' = w by
    subst hL
    refine (Tryz.strings_HasPrefix (strOf T) (strOf s) w).mono ?_
    rintro e w' ⟨rfl, rfl⟩
    refine ⟨?_, rfl⟩
    show Ending.returned (Value.bool ((strOf s).data.toList.isPrefixOf (strOf T).data.toList)) = _
    rw [strOf_data, strOf_data, pfx_map s T hs h8])
  have HSG := Lib.hid (fun j hj h0 h => find_hit (fun s => s.isPrefixOf T) [] signs j hj h0 h)
  have HSM := Lib.hid (fun h0 => find_miss (fun s => s.isPrefixOf T) [] signs h0)
  have HSZ := Lib.hid (fun h0 => find_miss (fun s => s.isPrefixOf T) [] signs h0)
  have h3 : 5 < w.heap.size := World.block_lt_of_cell? _ _ (hw.sg 0 (by decide))
  obtain ⟨V, hV⟩ : ∃ V, V = w.alloc (.cells #[.int .u8 0, .string ⟨#[]⟩, .int .i64 0, .int .i64 0, .int .i64 0, .int .i64 0] 100) := ⟨_, rfl⟩
  have HBV : Hid (Below w.heap.size w V) := Lib.hid (by rw [hV]; exact (Below.refl w.heap.size w).alloc (Nat.le_refl _) _)
  have HVQ : Hid (V.heap[w.heap.size]? = some (.cells #[.int .u8 0, .string ⟨#[]⟩, .int .i64 0, .int .i64 0, .int .i64 0, .int .i64 0] 100 (0, 0))) := Lib.hid (by rw [hV]; exact heap_new w _)
  obtain ⟨cs, hcs⟩ : ∃ cs, Hid (cs = signs.map fun s => Value.string (strOf s)) := ⟨_, Lib.hid rfl⟩
  have HRG : Hid (V.rangeAt 5 0 cs) := Lib.hid (fun j v hv => by
    rw [hcs.out] at hv
    rw [List.getElem?_map] at hv
    obtain ⟨s, h1, rfl⟩ := Option.map_eq_some_iff.1 hv
    have hj : j < 24 := (List.getElem?_eq_some_iff.1 h1).1
    have := (hw.below HBV.out).sg j hj
    rw [Nat.zero_add, this, List.getD_eq_getElem?_getD, h1]
    rfl)
  have HW := Lib.hid (hw.below HBV.out)
  generalize hgs : sgn T = G
  have HGS := Lib.hid hgs
  generalize strOf T = S at *
  clear h8 hw hgs
  go_enter Tryz.func264, Tryz.ntmps264
  go_upto_region 1 with fail
  rw [← hV]
  obtain ⟨g, hg⟩ : ∃ g, g = w.heap.size := ⟨_, rfl⟩
  rw [← hg] at HVQ ⊢
  have HGG : Hid (w.heap.size ≤ g) := Lib.hid (by omega)
  clear hV hg
  have HIX : Hid (∀ (j : Nat), j < 24 → ∀ w, (Instr.index 340 (.agg cs.toArray) (.int .i64 (j : Int))).run Tryz.prog w = .ok (.string (strOf (signs.getD j []))) w) := Lib.hid (fun j hj w => by rw [hcs.out]; exact sg_idx w j hj)
  have HB8 : Hid (∀ j, j < 24 → ∀ x ∈ signs.getD j [], x < 256) := Lib.hid (by decide)
  go_wp2_with ((with_reducible show wpList _ _ _ (⟨_, Op.load _ _, _, _, _, _⟩ :: _) _ _); refine wpList_load_mid rfl _ _ rfl 5 0 rfl cs _ HRG.out Tryz.underlying340 rfl (by rw [hcs.out]; kernel_rfl) ?_)
  have y0 := cell_block HVQ.out 0
  have y1 := cell_block HVQ.out 1
  have y2 := cell_block HVQ.out 2
  have y3 := cell_block HVQ.out 3
  have y4 := cell_block HVQ.out 4
  have y5 := cell_block HVQ.out 5
  have z0 := free_block HVQ.out 0
  have z1 := free_block HVQ.out 1
  have z2 := free_block HVQ.out 2
  have z3 := free_block HVQ.out 3
  have z4 := free_block HVQ.out 4
  have z5 := free_block HVQ.out 5
  go_loopw [7] (fun i wr => ∃ j : Nat, j ≤ 24 ∧ i = .int .i64 (j : Int) ∧ wr = V ∧ Hid (∀ i, i < j → (signs.getD i []).isPrefixOf T = false)) (fun i _ => 24 - (intOf i).toNat)
  case atStart => exact ⟨0, by omega, rfl, rfl, Lib.hid (fun i hi => by omega)⟩
  case round =>
    obtain ⟨j, hj, rfl, rfl, HM⟩ := hrel
    by_cases hlt : j < 24
    · have hix := HIX.out j hlt
      have HC := Lib.hid (HP.out (signs.getD j []) _ rfl (HB8.out j hlt))
      obtain ⟨b, hb⟩ : ∃ b, Hid ((signs.getD j []).isPrefixOf T = b) := ⟨_, Lib.hid rfl⟩
      rw [hb.out] at HC
      obtain ⟨s, hs⟩ : ∃ s, Hid (signs.getD j [] = s) := ⟨_, Lib.hid rfl⟩
      rw [hs.out] at HC hix
      have HZ := Lib.hid (strOf_size s)
      obtain ⟨L, hL⟩ : ∃ L, Hid (strOf s = L) := ⟨_, Lib.hid rfl⟩
      rw [hL.out] at HC HZ hix
      cases b with
      | true =>
        go_wp2_with (go_at_call 70; refine (HC.out _).mono ?_; rintro e w' ⟨he, hw⟩; subst hw; subst he)
        refine ret_sign HVQ.out HBV.out HGG.out rfl rfl rfl ?_
        have e : G = some s := by rw [← HGS.out, ← hs.out]; exact HSG.out j hlt HM.out hb.out
        rw [e, ← hL.out]
        rw [strOf_size]
        rfl
      | false =>
        go_wp2_with (go_at_call 70; refine (HC.out _).mono ?_; rintro e w' ⟨he, hw⟩; subst hw; subst he)
        go_roundw
        case rel => exact ⟨j + 1, by omega, by go_num, trivial, Lib.hid (fun i hi => by
          rcases Nat.lt_or_ge i j with h | h
          · exact HM.out i h
          · obtain rfl : i = j := by omega
            exact hb.out)⟩
        case measure => simp [intOf]; omega
    · obtain rfl : j = 24 := by omega
      go_wp2_with fail
      refine ret_sign HVQ.out HBV.out HGG.out rfl rfl rfl ?_
      have e : G = none := by rw [← HGS.out]; exact HSM.out HM.out
      rw [e]
      rfl
end Go.Proofs.YteacmanbiamhoaaGreatDoor
namespace Go.Proofs.YteacmanbiamhoaaGreatDoor
open Go.RowKit
set_option linter.unusedVariables false

def tokV (q : Option Tk) : Value := match q with
  | some t => .tuple #[.agg #[.int .u8 (t.k : Int), .string (strOf t.s), .int .i64 (t.n : Int), .int .i64 0, .int .i64 0, .int .i64 (t.e : Int)], .bool true]
  | none => .tuple #[.agg #[.int .u8 0, .string ⟨#[]⟩, .int .i64 0, .int .i64 0, .int .i64 0, .int .i64 0], .bool false]
theorem take_dig (T : List Nat) (p : Nat → Bool) : (strOf T).extract 0 (T.takeWhile p).length = strOf (T.takeWhile p) := by
  rw [strOf_extract, List.drop_zero, tw_eq]
theorem ret_number {w X : World} {g : Nat} {y0 y1 y2 y3 y4 y5 z0 z1 z2 z3 z4 z5 : Value} {b : Bool} {V : Value} {a : Act} (q : X.heap[g]? = some (.cells #[y0, y1, y2, y3, y4, y5] 100 (0, 0))) (hb : Below w.heap.size w X) (hg : w.heap.size ≤ g) (h2 : a.tmps[2]?.getD undef = .pointer (some ⟨g, 0, none⟩)) (h3 : a.tmps[3]?.getD undef = .bool b) (hd : a.defers = []) (hV : V = .tuple #[.agg #[z0, z1, z2, z3, z4, z5], .bool b]) :
    bodyPost Tryz.prog Tryz.f260 (fun e w' => e = .returned V ∧ Below w.heap.size w w') Exit.ret a ((((((X.setCell ⟨g, 0, none⟩ z0).setCell ⟨g, 1, none⟩ z1).setCell ⟨g, 2, none⟩ z2).setCell ⟨g, 3, none⟩ z3).setCell ⟨g, 4, none⟩ z4).setCell ⟨g, 5, none⟩ z5) := by
  have p := set6 q z0 z1 z2 z3 z4 z5
  have c0 := cell_block p 0
  have c1 := cell_block p 1
  have c2 := cell_block p 2
  have c3 := cell_block p 3
  have c4 := cell_block p 4
  have c5 := cell_block p 5
  subst hV
  exact bodyPost_ret (v := .tuple #[.agg #[z0, z1, z2, z3, z4, z5], .bool b]) (by simp [results, Tryz.results260, go_sem, h2, h3, c0, c1, c2, c3, c4, c5]) hd ⟨rfl, bel6 hb hg _ _ _ _ _ _⟩
set_option maxRecDepth 100000 in
set_option maxHeartbeats 4000000 in
theorem number_any (T : List Nat) (h8 : ∀ x ∈ T, x < 256) (hn : T.length ≤ 1099511627776) (w : World) (hw : Wt w) (h0 : T.takeWhile dig ≠ []) : Calls Tryz.prog 260 #[.string (strOf T)] w fun e w' => e = .returned (tokV (num T)) ∧ Below w.heap.size w w' := by
  have HR := Lib.hid (fun w => run_dig h8 hn w)
  have hx := take_dig T dig
  have hl := tw_len (p := dig) T
  have hp := parse_dig (T.takeWhile dig) (tw_all T) h0
  rw [← strOf_data] at hp
  have hs : (strOf (T.takeWhile dig)).size = (T.takeWhile dig).length := strOf_size _
  have hS : (strOf T).size = T.length := strOf_size _
  unfold num
  generalize strOf (T.takeWhile dig) = D at *
  generalize dval (T.takeWhile dig) = v at *
  generalize (T.takeWhile dig).length = k at *
  generalize strOf T = S at *
  obtain ⟨R, hR⟩ : ∃ R, Hid (tokV (if v ≤ 9223372036854775807 then some ⟨1, v, [], k⟩ else none) = R) := ⟨_, Lib.hid rfl⟩
  rw [hR.out]
  obtain ⟨V, hV⟩ : ∃ V, V = w.alloc (.cells #[.int .u8 0, .string ⟨#[]⟩, .int .i64 0, .int .i64 0, .int .i64 0, .int .i64 0] 100) := ⟨_, rfl⟩
  have HBV : Hid (Below w.heap.size w V) := Lib.hid (by rw [hV]; exact (Below.refl w.heap.size w).alloc (Nat.le_refl _) _)
  have HVQ : Hid (V.heap[w.heap.size]? = some (.cells #[.int .u8 0, .string ⟨#[]⟩, .int .i64 0, .int .i64 0, .int .i64 0, .int .i64 0] 100 (0, 0))) := Lib.hid (by rw [hV]; exact heap_new w _)
  have HW := Lib.hid (hw.below HBV.out)
  have hkk : decide ((k : Int) ≤ (S.size : Int)) = true := decide_eq_true (by omega)
  go_enter Tryz.func260, Tryz.ntmps260
  go_upto_region 1 with fail
  rw [← hV]
  obtain ⟨g, hg⟩ : ∃ g, g = w.heap.size := ⟨_, rfl⟩
  rw [← hg] at HVQ ⊢
  have HGG : Hid (w.heap.size ≤ g) := Lib.hid (by omega)
  clear hV hg
  by_cases hv : v ≤ 9223372036854775807
  · rw [if_pos hv] at hp
    have HPI := Lib.hid (show Calls Tryz.prog 291 #[.string D, .int .i64 10, .int .i64 64] V fun e w' => e = .returned (.tuple #[.int .i64 (v : Int), .nilIface]) ∧ Below V.heap.size V w' from (Tryz.strconv_ParseInt_10_at64_ok D (by omega) _ hp V).mono (by
      rintro e w' ⟨rfl, rfl | ⟨t, rfl⟩⟩
      · exact ⟨rfl, Below.refl _ _⟩
      · exact ⟨rfl, Lib.bytesWorld_below _ _ _⟩))
    clear hp
    go_wp2_with (first
      | (go_at_call 256
         refine (HR.out _).mono ?_
         rintro e w' ⟨he, hw⟩
         subst hw
         subst he)
      | (go_at_call 291
         refine HPI.out.mono ?_
         rintro e w1 ⟨he, hb⟩
         subst he
         have HB1 := Lib.hid hb
         have HV1 := Lib.hid (heap_below HVQ.out hb)
         clear hb
         have y0 := cell_block HV1.out 0
         have z0 := free_block HV1.out 0
         have y1 := cell_block HV1.out 1
         have z1 := free_block HV1.out 1
         have y2 := cell_block HV1.out 2
         have z2 := free_block HV1.out 2
         have y3 := cell_block HV1.out 3
         have z3 := free_block HV1.out 3
         have y4 := cell_block HV1.out 4
         have z4 := free_block HV1.out 4
         have y5 := cell_block HV1.out 5
         have z5 := free_block HV1.out 5
)
      | (fail))
    exact ret_number HV1.out (HBV.out.trans (HB1.out.mono HBV.out.size)) HGG.out rfl rfl rfl (by rw [← hR.out, if_pos hv]; rfl)
  · rw [if_neg hv] at hp
    obtain ⟨ev, h1, h2⟩ := HW.out.er
    have HPI := Lib.hid (show Calls Tryz.prog 291 #[.string D, .int .i64 10, .int .i64 64] V fun e w' => (∃ x t p, e = .returned (.tuple #[.int .i64 x, .iface t p])) ∧ Below V.heap.size V w' from (Tryz.strconv_ParseInt_10_at64_range D (by omega) hp ev V h1 h2).mono (by
      rintro e w' ⟨N, rfl, -, -, hb⟩
      exact ⟨⟨_, _, _, rfl⟩, hb⟩))
    clear hp h1 h2
    go_wp2_with (first
      | (go_at_call 256
         refine (HR.out _).mono ?_
         rintro e w' ⟨he, hw⟩
         subst hw
         subst he)
      | (go_at_call 291
         refine HPI.out.mono ?_
         rintro e w1 ⟨⟨px, pt, pv, he⟩, hb⟩
         subst he
         have HB1 := Lib.hid hb
         have HV1 := Lib.hid (heap_below HVQ.out hb)
         clear hb
         have y0 := cell_block HV1.out 0
         have z0 := free_block HV1.out 0
         have y1 := cell_block HV1.out 1
         have z1 := free_block HV1.out 1
         have y2 := cell_block HV1.out 2
         have z2 := free_block HV1.out 2
         have y3 := cell_block HV1.out 3
         have z3 := free_block HV1.out 3
         have y4 := cell_block HV1.out 4
         have z4 := free_block HV1.out 4
         have y5 := cell_block HV1.out 5
         have z5 := free_block HV1.out 5
)
      | (fail))
    exact ret_number HV1.out (HBV.out.trans (HB1.out.mono HBV.out.size)) HGG.out rfl rfl rfl (by rw [← hR.out, if_neg hv]; rfl)
end Go.Proofs.YteacmanbiamhoaaGreatDoor
namespace Go.Proofs.YteacmanbiamhoaaGreatDoor
open Go.RowKit
set_option linter.unusedVariables false

theorem sclone_any (S : ByteArray) (hn : S.size ≤ 281474976710656) (w : World) : Calls Tryz.prog 295 #[.string S] w fun e w' => e = .returned (.string S) ∧ Below w.heap.size w w' := by
  have H := Lib.hid (Tryz.stringslite_Clone S w hn)
  go_enter Tryz.func295, Tryz.ntmps295
  go_wp2_with (go_at_call 308; refine H.out.mono ?_; rintro e w' ⟨he, hb⟩; subst he)
  go_ret
  exact ⟨rfl, hb⟩
theorem ret_name {w X : World} {g : Nat} {y0 y1 y2 y3 y4 y5 z0 z1 z2 z3 z4 z5 : Value} {V : Value} {a : Act} (o : Obj) (q : X.heap[g]? = some (.cells #[y0, y1, y2, y3, y4, y5] 100 (0, 0))) (hb : Below w.heap.size w X) (hg : w.heap.size ≤ g) (h2 : a.tmps[2]?.getD undef = .pointer (some ⟨g, 0, none⟩)) (hd : a.defers = []) (hV : V = .agg #[z0, z1, z2, z3, z4, z5]) :
    bodyPost Tryz.prog Tryz.f263 (fun e w' => e = .returned V ∧ Below w.heap.size w w') Exit.ret a (((((((X.setCell ⟨g, 0, none⟩ z0).setCell ⟨g, 1, none⟩ z1).setCell ⟨g, 2, none⟩ z2).setCell ⟨g, 3, none⟩ z3).setCell ⟨g, 4, none⟩ z4).setCell ⟨g, 5, none⟩ z5).alloc o) := by
  have p := heap_old (set6 q z0 z1 z2 z3 z4 z5) o
  have c0 := cell_block p 0
  have c1 := cell_block p 1
  have c2 := cell_block p 2
  have c3 := cell_block p 3
  have c4 := cell_block p 4
  have c5 := cell_block p 5
  subst hV
  exact bodyPost_ret (v := .agg #[z0, z1, z2, z3, z4, z5]) (by simp [results, Tryz.results263, go_sem, h2, c0, c1, c2, c3, c4, c5]) hd ⟨rfl, (bel6 hb hg _ _ _ _ _ _).alloc (bel6 hb hg _ _ _ _ _ _).size _⟩
set_option maxRecDepth 100000 in
set_option maxHeartbeats 4000000 in
theorem name_any (T : List Nat) (h8 : ∀ x ∈ T, x < 256) (hn : T.length ≤ 1099511627776) (w : World) : Calls Tryz.prog 263 #[.string (strOf T)] w fun e w' => e = .returned (.agg #[.int .u8 (if T.takeWhile wrd ∈ keys then 4 else 3), .string (strOf (T.takeWhile wrd)), .int .i64 0, .int .i64 0, .int .i64 0, .int .i64 ((T.takeWhile wrd).length : Int)]) ∧ Below w.heap.size w w' := by
  have HR := Lib.hid (fun w => run_wrd h8 hn w)
  have hx := take_dig T wrd
  have hl := tw_len (p := wrd) T
  have HK := Lib.hid (fun w => isKey_any (T.takeWhile wrd) (fun x hx => h8 x ((List.takeWhile_sublist _).subset hx)) w)
  have hs : (strOf (T.takeWhile wrd)).size = (T.takeWhile wrd).length := strOf_size _
  have hS : (strOf T).size = T.length := strOf_size _
  have HC := Lib.hid (fun w => sclone_any (strOf (T.takeWhile wrd)) (by omega) w)
  have e : ((if T.takeWhile wrd ∈ keys then 4 else 3 : Int)) = if decide (T.takeWhile wrd ∈ keys) = true then 4 else 3 := by simp
  rw [e]
  generalize decide (T.takeWhile wrd ∈ keys) = b at *
  generalize strOf (T.takeWhile wrd) = D at *
  generalize (T.takeWhile wrd).length = k at *
  generalize strOf T = S at *
  have hkk : decide ((k : Int) ≤ (S.size : Int)) = true := decide_eq_true (by omega)
  clear e
  obtain ⟨V, hV⟩ : ∃ V, V = w.alloc (.cells #[.int .u8 0, .string ⟨#[]⟩, .int .i64 0, .int .i64 0, .int .i64 0, .int .i64 0] 100) := ⟨_, rfl⟩
  have HBV : Hid (Below w.heap.size w V) := Lib.hid (by rw [hV]; exact (Below.refl w.heap.size w).alloc (Nat.le_refl _) _)
  have HVQ : Hid (V.heap[w.heap.size]? = some (.cells #[.int .u8 0, .string ⟨#[]⟩, .int .i64 0, .int .i64 0, .int .i64 0, .int .i64 0] 100 (0, 0))) := Lib.hid (by rw [hV]; exact heap_new w _)
  cases b with
  | true =>
    go_enter Tryz.func263, Tryz.ntmps263
    go_upto_region 1 with fail
    rw [← hV]
    obtain ⟨g, hg⟩ : ∃ g, g = w.heap.size := ⟨_, rfl⟩
    rw [← hg] at HVQ ⊢
    have HGG : Hid (w.heap.size ≤ g) := Lib.hid (by omega)
    clear hV hg
    go_wp2_with (first
      | (go_at_call 256
         refine (HR.out _).mono ?_
         rintro e w' ⟨he, hw⟩
         subst hw
         subst he)
      | (go_at_call 295
         refine (HC.out _).mono ?_
         rintro e w1 ⟨he, hb⟩
         subst he
         have HB1 := Lib.hid hb
         have HV1 := Lib.hid (heap_below HVQ.out hb)
         have y0 := cell_block HV1.out 0
         have z0 := free_block HV1.out 0
         have y1 := cell_block HV1.out 1
         have z1 := free_block HV1.out 1
         have y2 := cell_block HV1.out 2
         have z2 := free_block HV1.out 2
         have y3 := cell_block HV1.out 3
         have z3 := free_block HV1.out 3
         have y4 := cell_block HV1.out 4
         have z4 := free_block HV1.out 4
         have y5 := cell_block HV1.out 5
         have z5 := free_block HV1.out 5
         have hlt1 := lt_heap HV1.out
         have hne1 : g ≠ w1.heap.size := by omega
         have hne2 : w1.heap.size ≠ g := by omega
         clear hb)
      | (go_at_call 296
         refine (HK.out _).mono ?_
         rintro e w' ⟨he, hw⟩
         subst hw
         subst he)
      | (fail))
    exact ret_name _ HV1.out (HBV.out.trans (HB1.out.mono HBV.out.size)) HGG.out rfl rfl rfl
  | false =>
    go_enter Tryz.func263, Tryz.ntmps263
    go_upto_region 1 with fail
    rw [← hV]
    obtain ⟨g, hg⟩ : ∃ g, g = w.heap.size := ⟨_, rfl⟩
    rw [← hg] at HVQ ⊢
    have HGG : Hid (w.heap.size ≤ g) := Lib.hid (by omega)
    clear hV hg
    go_wp2_with (first
      | (go_at_call 256
         refine (HR.out _).mono ?_
         rintro e w' ⟨he, hw⟩
         subst hw
         subst he)
      | (go_at_call 295
         refine (HC.out _).mono ?_
         rintro e w1 ⟨he, hb⟩
         subst he
         have HB1 := Lib.hid hb
         have HV1 := Lib.hid (heap_below HVQ.out hb)
         have y0 := cell_block HV1.out 0
         have z0 := free_block HV1.out 0
         have y1 := cell_block HV1.out 1
         have z1 := free_block HV1.out 1
         have y2 := cell_block HV1.out 2
         have z2 := free_block HV1.out 2
         have y3 := cell_block HV1.out 3
         have z3 := free_block HV1.out 3
         have y4 := cell_block HV1.out 4
         have z4 := free_block HV1.out 4
         have y5 := cell_block HV1.out 5
         have z5 := free_block HV1.out 5
         have hlt1 := lt_heap HV1.out
         have hne1 : g ≠ w1.heap.size := by omega
         have hne2 : w1.heap.size ≠ g := by omega
         clear hb)
      | (go_at_call 296
         refine (HK.out _).mono ?_
         rintro e w' ⟨he, hw⟩
         subst hw
         subst he)
      | (fail))
    exact ret_name _ HV1.out (HBV.out.trans (HB1.out.mono HBV.out.size)) HGG.out rfl rfl rfl
end Go.Proofs.YteacmanbiamhoaaGreatDoor
namespace Go.Proofs.YteacmanbiamhoaaGreatDoor
open Go.RowKit
set_option linter.unusedVariables false

theorem strCells_strOf (l : List Nat) (h8 : ∀ x ∈ l, x < 256) : Lib.strCells (strOf l) = bv l := by
  show ((l.map UInt8.ofNat).toArray.toList).map _ = _
  rw [List.toList_toArray, List.map_map]
  refine List.map_congr_left fun x hx => ?_
  have := h8 x hx
  simp [UInt8.toNat_ofNat', Nat.mod_eq_of_lt this]
/-- append of a string onto a slice of bytes of the call's own. -/
theorem wpList_apps {w : World} {ops : Array Oper} {rest : List Oper} {o : Oper} {a : Act} {Q : Exit → Act → World → Prop} (hgd : o.guard = none) (s x : Operand)
    (ho : o.op = .call { callee := .builtin .append, args := #[s, x], argTypes := #[118, 9] })
    {base : Nat} {v : Value} {l : List Nat} (hs : a.eval s = v) (hown : Own w base v l) {news : List Nat} (h8 : ∀ x ∈ news, x < 256) (hx : a.eval x = .string (strOf news))
    (hn : l.length + news.length ≤ 8796093022208) (hbase : base ≤ w.heap.size)
    (h : ∀ v' w', Own w' base v' (l ++ news) → Below base w w' → wpList Tryz.prog ops Q rest (a.put o.dst v') w') :
    wpList Tryz.prog ops Q (o :: rest) a w := by
  obtain ⟨i0, hi0, hz0, hz1, hz2⟩ := info_parts u8_info
  have e := strOf_size news
  refine Lib.wpList_append_own_string w hgd s x 118 9 ho base 5 i0 Tryz.underlying118 Tryz.underlying9 hi0 (by simpa using hz0) hz1 hz2 v l.length (bv l) hs hown (strOf news) hx (by unfold maxLen; omega) (by omega) hbase ?_
  intro v' w' h1 h2 h3
  refine h v' w' ?_ ((Below.refl _ _).grown h2 hbase (fun k hk => (World.ownsRow.lt hown k hk).1))
  unfold Own
  rw [List.length_append, bv_append, ← e, ← strCells_strOf news h8]
  exact h1
theorem size_alloc (w : World) (o : Obj) : w.heap.size ≤ (w.alloc o).heap.size := by simp
theorem say_run : ∀ R : List Nat, say R = (say (R.drop (R.takeWhile pln).length)).map fun p => (R.takeWhile pln ++ p.1, p.2 + (R.takeWhile pln).length)
  | [] => by simp [say_nil]
  | x :: r => by
    by_cases hx : pln x = true
    · have h34 : x ≠ 34 := by rintro rfl; simp [pln] at hx
      rw [say_cons, if_neg h34, if_pos hx, say_run r, Option.map_map]
      simp only [List.takeWhile_cons, hx, if_true, List.length_cons, List.drop_succ_cons]
      congr 1
    · simp [hx]
theorem ret_quoted {w X : World} {g : Nat} {y0 y1 y2 y3 y4 y5 z0 z1 z2 z3 z4 z5 : Value} {b : Bool} {V : Value} {a : Act} (q : X.heap[g]? = some (.cells #[y0, y1, y2, y3, y4, y5] 100 (0, 0))) (hb : Below w.heap.size w X) (hg : w.heap.size ≤ g) (h2 : a.tmps[2]?.getD undef = .pointer (some ⟨g, 0, none⟩)) (h3 : a.tmps[3]?.getD undef = .bool b) (hd : a.defers = []) (hV : V = .tuple #[.agg #[z0, z1, z2, z3, z4, z5], .bool b]) :
    bodyPost Tryz.prog Tryz.f261 (fun e w' => e = .returned V ∧ Below w.heap.size w w') Exit.ret a ((((((X.setCell ⟨g, 0, none⟩ z0).setCell ⟨g, 1, none⟩ z1).setCell ⟨g, 2, none⟩ z2).setCell ⟨g, 3, none⟩ z3).setCell ⟨g, 4, none⟩ z4).setCell ⟨g, 5, none⟩ z5) := by
  have p := set6 q z0 z1 z2 z3 z4 z5
  have c0 := cell_block p 0
  have c1 := cell_block p 1
  have c2 := cell_block p 2
  have c3 := cell_block p 3
  have c4 := cell_block p 4
  have c5 := cell_block p 5
  subst hV
  exact bodyPost_ret (v := .tuple #[.agg #[z0, z1, z2, z3, z4, z5], .bool b]) (by simp [results, Tryz.results261, go_sem, h2, h3, c0, c1, c2, c3, c4, c5]) hd ⟨rfl, bel6 hb hg _ _ _ _ _ _⟩
theorem hasPrefix_any (T s : List Nat) (L : ByteArray) (hL : L = strOf s) (h8 : ∀ x ∈ T, x < 256) (hs : ∀ x ∈ s, x < 256) (w : World) : Calls Tryz.prog 70 #[.string (strOf T), .string L] w fun e w' => e = .returned (.bool (s.isPrefixOf T)) ∧ w' = w := by
  subst hL
  refine (Tryz.strings_HasPrefix (strOf T) (strOf s) w).mono ?_
  rintro e w' ⟨rfl, rfl⟩
  refine ⟨?_, rfl⟩
  show Ending.returned (Value.bool ((strOf s).data.toList.isPrefixOf (strOf T).data.toList)) = _
  rw [strOf_data, strOf_data, pfx_map s T hs h8]
theorem run_own_str (l : List Nat) (w : World) (base : Nat) (v : Value) (h : Own w base v l) (h8 : ∀ x ∈ l, x < 256) : (convert 118 9 v).run Tryz.prog w = .ok (.string (strOf l)) w := by
  obtain ⟨A, c, rfl, _, _, ha, _, _⟩ := h.form
  exact run_strOf w _ A c l ha h8
set_option maxRecDepth 100000 in
set_option maxHeartbeats 4000000 in
theorem quoted_any (T : List Nat) (h8 : ∀ x ∈ T, x < 256) (hn : T.length ≤ 1099511627776) (w : World) : Calls Tryz.prog 261 #[.string (strOf (34 :: T))] w fun e w' => e = .returned (tokV ((say T).map fun p => ⟨2, 0, p.1, p.2 + 1⟩)) ∧ Below w.heap.size w w' := by
  obtain ⟨R, hR⟩ : ∃ R, Hid (tokV ((say T).map fun p => ⟨2, 0, p.1, p.2 + 1⟩) = R) := ⟨_, Lib.hid rfl⟩
  rw [hR.out]
  have HX := Lib.hid (fun a b => strOf_extract (34 :: T) a b)
  have hS : (strOf (34 :: T)).size = T.length + 1 := strOf_size _
  generalize strOf (34 :: T) = S at *
  obtain ⟨V, hV⟩ : ∃ V, V = w.alloc (.cells #[.int .u8 0, .string ⟨#[]⟩, .int .i64 0, .int .i64 0, .int .i64 0, .int .i64 0] 100) := ⟨_, rfl⟩
  have HBV : Hid (Below w.heap.size w V) := Lib.hid (by rw [hV]; exact (Below.refl w.heap.size w).alloc (Nat.le_refl _) _)
  have HVQ : Hid (V.heap[w.heap.size]? = some (.cells #[.int .u8 0, .string ⟨#[]⟩, .int .i64 0, .int .i64 0, .int .i64 0, .int .i64 0] 100 (0, 0))) := Lib.hid (by rw [hV]; exact heap_new w _)
  go_enter Tryz.func261, Tryz.ntmps261
  go_upto_region 1 with fail
  rw [← hV]
  obtain ⟨g, hg⟩ : ∃ g, g = w.heap.size := ⟨_, rfl⟩
  rw [← hg] at HVQ ⊢
  have HGG : Hid (w.heap.size ≤ g) := Lib.hid (by omega)
  clear hV hg
  obtain ⟨U, hU⟩ : ∃ U, Hid (34 :: T = U) := ⟨_, Lib.hid rfl⟩
  have hUl : U.length = T.length + 1 := by rw [← hU.out]; rfl
  have HU8 : Hid (∀ x ∈ U, x < 256) := Lib.hid (by rw [← hU.out]; intro x hx; rcases List.mem_cons.1 hx with rfl | hx; omega; exact h8 x hx)
  rw [hU.out] at HX
  have hSU : S.size = U.length := by omega
  clear hS
  go_wp2_with fail
  go_loopw [4, 5] (fun v i wr => ∃ (l : List Nat) (at_ : Nat), 1 ≤ at_ ∧ at_ ≤ U.length ∧ i = .int .i64 (at_ : Int) ∧ Hid (Own wr V.heap.size v l ∧ l.length ≤ at_ ∧ (∀ x ∈ l, x < 256) ∧ Below V.heap.size V wr ∧ say T = (say (U.drop at_)).map fun p => (l ++ p.1, p.2 + (at_ - 1)))) (fun _ i _ => U.length - (intOf i).toNat)
  case atStart => exact ⟨[], 1, by omega, by omega, rfl, Lib.hid ⟨Own.nil _ _, by simp, by simp, Below.refl _ _, by rw [← hU.out]; simp⟩⟩
  case round =>
    obtain ⟨l, at_, h1, h2, rfl, HJ⟩ := hrel
    obtain ⟨D, hD⟩ : ∃ D, Hid (U.drop at_ = D) := ⟨_, Lib.hid rfl⟩
    have hDl : D.length = U.length - at_ := by rw [← hD.out, List.length_drop]
    have HD8 : Hid (∀ x ∈ D, x < 256) := Lib.hid (fun x hx => HU8.out x (by rw [← hD.out] at hx; exact List.mem_of_mem_drop hx))
    have e1 : S.extract at_ U.length = strOf D := by rw [HX.out, List.take_length, hD.out]
    have HR := Lib.hid (fun w => run_pln (T := D) HD8.out (by omega) w)
    obtain ⟨k, hk⟩ : ∃ k, Hid ((D.takeWhile pln).length = k) := ⟨_, Lib.hid rfl⟩
    have HK := hk
    have hkl : k ≤ D.length := by rw [← hk.out]; exact tw_len D
    obtain ⟨m, hm⟩ : ∃ m : Nat, m = at_ + k := ⟨_, rfl⟩
    have e2 : S.extract at_ m = strOf (D.takeWhile pln) := by
      rw [HX.out, hm, List.drop_take, hD.out, Nat.add_sub_cancel_left, ← hk.out, tw_eq]
    have e3 : S.extract m U.length = strOf (D.drop k) := by
      rw [HX.out, List.take_length, hm, ← List.drop_drop, hD.out]
    have hmi : (at_ : Int) + (k : Int) = ((m : Nat) : Int) := by omega
    have hml : m ≤ U.length := by omega
    rw [hk.out] at HR
    have HM := Lib.hid hm
    have HUL := Lib.hid hUl
    have HDL := Lib.hid hDl
    have HKL := Lib.hid hkl
    rw [← hSU] at e1 e3
    have hmS : m ≤ S.size := by omega
    have haS : at_ ≤ S.size := by omega
    have HSU := Lib.hid hSU
    have HWM := Lib.hid (show wrap64 (m : Int) = (m : Int) from IntWalk.wrap64_in _ (by omega))
    have ham : at_ ≤ m := by omega
    have hSb : S.size ≤ 1099511627777 := by omega
    clear hm hUl hDl hkl hSU
    have HL8 : Hid (∀ x ∈ l ++ D.takeWhile pln, x < 256) := Lib.hid (fun x hx => by
      rcases List.mem_append.1 hx with hx | hx
      · exact HJ.out.2.2.1 x hx
      · exact HD8.out x ((List.takeWhile_sublist _).subset hx))
    have HL2 : Hid ((l ++ D.takeWhile pln).length ≤ m ∧ m ≤ 1099511627777) := Lib.hid (by rw [List.length_append]; have := HJ.out.2.1; have := HK.out; have := HUL.out; have := HM.out; have := HKL.out; have := HDL.out; omega)
    have HSAY : Hid (say T = (say (D.drop k)).map fun p => ((l ++ D.takeWhile pln) ++ p.1, p.2 + (m - 1))) := Lib.hid (by
      rw [HJ.out.2.2.2.2, hD.out, say_run D, hk.out, Option.map_map]
      congr 1
      funext p
      simp only [Function.comp, List.append_assoc]
      congr 1
      have := HM.out
      omega)
    have hd8 : ∀ x ∈ D.drop k, x < 256 := fun x hx => HD8.out x (List.mem_of_mem_drop hx)
    have HPX := Lib.hid (fun w => hasPrefix_any (D.drop k) [34] ⟨#[34]⟩ rfl hd8 (by decide) w)
    have HE := Lib.hid (fun w => escaped_any (D.drop k) hd8 (by rw [List.length_drop]; have := HDL.out; have := HUL.out; omega) w)
    have HST : Hid (∀ (h : k < D.length), pln D[k] = false) := Lib.hid (fun h => by
      have h2 : ∀ i (hi : i < D.length), i = k → pln D[i] = pln D[k] := fun i hi e => by subst e; rfl
      rw [← h2 _ (by rw [hk.out]; exact h) hk.out]
      exact tw_stop D (by rw [hk.out]; exact h))
    have HDL2 : Hid (m + (D.drop k).length = U.length) := Lib.hid (by rw [List.length_drop]; have := HDL.out; have := HM.out; have := HKL.out; omega)
    have HDD : Hid (U.drop m = D.drop k) := Lib.hid (by rw [← hD.out, List.drop_drop, HM.out])
    have HAP : Hid (l.length + (D.takeWhile pln).length ≤ 8796093022208) := Lib.hid (by have := HL2.out; rw [List.length_append] at this; omega)
    have HAQ : Hid ((l ++ D.takeWhile pln).length + 1 ≤ 8796093022208) := Lib.hid (by have := HL2.out; omega)
    clear hd8
    cases hq : D.drop k with
    | nil =>
      as_aux_lemma =>
      rw [hq] at e3 HPX HE HSAY
      rw [show esc [] = none from rfl] at HE
      unfold escV at HE
      have HQ := Lib.hid hq
      clear hq
      go_wp2_with (first
        | (go_at_call 256
           refine (HR.out _).mono ?_
           rintro e w' ⟨he, hw⟩
           subst hw
           subst he)
        | (at_builtin
           refine wpList_apps rfl (.tmp 13) (.tmp 19) rfl rfl HJ.out.1 (fun x hx => HD8.out x ((List.takeWhile_sublist _).subset hx)) rfl HAP.out HJ.out.2.2.2.1.size ?_
           intro v2 w2 ho2 hb2
           have HO2 := Lib.hid ho2
           have HB2 := Lib.hid (HJ.out.2.2.2.1.trans hb2)
           have HV2 := Lib.hid (heap_below HVQ.out HB2.out)
           have y0 := cell_block HV2.out 0
           have z0 := free_block HV2.out 0
           have y1 := cell_block HV2.out 1
           have z1 := free_block HV2.out 1
           have y2 := cell_block HV2.out 2
           have z2 := free_block HV2.out 2
           have y3 := cell_block HV2.out 3
           have z3 := free_block HV2.out 3
           have y4 := cell_block HV2.out 4
           have z4 := free_block HV2.out 4
           have y5 := cell_block HV2.out 5
           have z5 := free_block HV2.out 5
           have hcv := run_own_str _ w2 V.heap.size v2 ho2 HL8.out
           obtain ⟨A2, c2, hv2, -⟩ := ho2.form
           have HVV := Lib.hid hv2
           clear ho2 hb2 hv2)
        | (go_at_call 70
           refine (HPX.out _).mono ?_
           rintro e w' ⟨he, hw⟩
           subst hw
           subst he)
        | (go_at_call 293
           refine (HE.out _).mono ?_
           rintro e w' ⟨he, hw⟩
           subst hw
           subst he)
        | (fail))
      refine ret_quoted HV2.out (HBV.out.trans (HB2.out.mono HBV.out.size)) HGG.out rfl rfl rfl ?_
      rw [← hR.out, HSAY.out]
      simp [say_nil, tokV]
    | cons x r =>
      have hxp : pln x = false := by
        have hkD : k < D.length := by
          have := congrArg List.length hq
          rw [List.length_drop, List.length_cons] at this
          omega
        have := HST.out hkD
        rw [List.drop_eq_getElem_cons hkD] at hq
        rw [← (List.cons.inj hq).1]
        exact this
      by_cases h34 : x = 34
      · as_aux_lemma =>
        subst h34
        rw [hq] at e3 HPX HE HSAY
        rw [show List.isPrefixOf [34] (34 :: r) = true by simp] at HPX
        have HQ := Lib.hid hq
        clear hq hxp
        go_wp2_with (first
          | (go_at_call 256
             refine (HR.out _).mono ?_
             rintro e w' ⟨he, hw⟩
             subst hw
             subst he)
          | (at_builtin
             refine wpList_apps rfl (.tmp 13) (.tmp 19) rfl rfl HJ.out.1 (fun x hx => HD8.out x ((List.takeWhile_sublist _).subset hx)) rfl HAP.out HJ.out.2.2.2.1.size ?_
             intro v2 w2 ho2 hb2
             have HO2 := Lib.hid ho2
             have HB2 := Lib.hid (HJ.out.2.2.2.1.trans hb2)
             have HV2 := Lib.hid (heap_below HVQ.out HB2.out)
             have y0 := cell_block HV2.out 0
             have z0 := free_block HV2.out 0
             have y1 := cell_block HV2.out 1
             have z1 := free_block HV2.out 1
             have y2 := cell_block HV2.out 2
             have z2 := free_block HV2.out 2
             have y3 := cell_block HV2.out 3
             have z3 := free_block HV2.out 3
             have y4 := cell_block HV2.out 4
             have z4 := free_block HV2.out 4
             have y5 := cell_block HV2.out 5
             have z5 := free_block HV2.out 5
             have hcv := run_own_str _ w2 V.heap.size v2 ho2 HL8.out
             obtain ⟨A2, c2, hv2, -⟩ := ho2.form
             have HVV := Lib.hid hv2
             clear ho2 hb2 hv2)
          | (go_at_call 70
             refine (HPX.out _).mono ?_
             rintro e w' ⟨he, hw⟩
             subst hw
             subst he)
          | (go_at_call 293
             refine (HE.out _).mono ?_
             rintro e w' ⟨he, hw⟩
             subst hw
             subst he)
          | (fail))
        refine ret_quoted HV2.out (HBV.out.trans (HB2.out.mono HBV.out.size)) HGG.out rfl rfl rfl ?_
        rw [← hR.out, HSAY.out, say_cons, if_pos rfl]
        have hm1 : 1 ≤ m := by have := HM.out; omega
        have hm2 := HL2.out.2
        simp only [Option.map_some, tokV, List.append_nil]
        rw [show ((1 + (m - 1) + 1 : Nat) : Int) = (m : Int) + 1 by omega]
        rfl
      · rw [hq] at e3 HPX HE HSAY
        have hp0 : List.isPrefixOf [34] (x :: r) = false := by simp [List.isPrefixOf]; omega
        rw [hp0] at HPX
        have HXP := Lib.hid hxp
        have HQ := Lib.hid hq
        have HS2 : Hid (say (x :: r) = (esc (x :: r)).bind fun q => (say ((x :: r).drop q.2)).map fun p => (q.1 :: p.1, p.2 + q.2)) := Lib.hid (by rw [say_cons, if_neg h34, hxp]; rfl)
        clear hq hxp hp0
        cases he : esc (x :: r) with
        | none =>
          as_aux_lemma =>
          rw [he] at HE HS2
          unfold escV at HE
          clear he
          go_wp2_with (first
            | (go_at_call 256
               refine (HR.out _).mono ?_
               rintro e w' ⟨he, hw⟩
               subst hw
               subst he)
            | (at_builtin
               refine wpList_apps rfl (.tmp 13) (.tmp 19) rfl rfl HJ.out.1 (fun x hx => HD8.out x ((List.takeWhile_sublist _).subset hx)) rfl HAP.out HJ.out.2.2.2.1.size ?_
               intro v2 w2 ho2 hb2
               have HO2 := Lib.hid ho2
               have HB2 := Lib.hid (HJ.out.2.2.2.1.trans hb2)
               have HV2 := Lib.hid (heap_below HVQ.out HB2.out)
               have y0 := cell_block HV2.out 0
               have z0 := free_block HV2.out 0
               have y1 := cell_block HV2.out 1
               have z1 := free_block HV2.out 1
               have y2 := cell_block HV2.out 2
               have z2 := free_block HV2.out 2
               have y3 := cell_block HV2.out 3
               have z3 := free_block HV2.out 3
               have y4 := cell_block HV2.out 4
               have z4 := free_block HV2.out 4
               have y5 := cell_block HV2.out 5
               have z5 := free_block HV2.out 5
               have hcv := run_own_str _ w2 V.heap.size v2 ho2 HL8.out
               obtain ⟨A2, c2, hv2, -⟩ := ho2.form
               have HVV := Lib.hid hv2
               clear ho2 hb2 hv2)
            | (go_at_call 70
               refine (HPX.out _).mono ?_
               rintro e w' ⟨he, hw⟩
               subst hw
               subst he)
            | (go_at_call 293
               refine (HE.out _).mono ?_
               rintro e w' ⟨he, hw⟩
               subst hw
               subst he)
            | (fail))
          refine ret_quoted HV2.out (HBV.out.trans (HB2.out.mono HBV.out.size)) HGG.out rfl rfl rfl ?_
          rw [← hR.out, HSAY.out, HS2.out]
          rfl
        | some q =>
          as_aux_lemma =>
          obtain ⟨yb, nb⟩ := q
          have hpos := esc_pos he
          have hyb : yb < 256 := (esc_take he).2.2
          rw [he] at HE HS2
          have HPOS := Lib.hid hpos
          have d0 : ((nb : Int) == 0) = false := beq_eq_false_iff_ne.2 (by omega)
          clear he hpos
          have HREL2 : Hid (((l ++ D.takeWhile pln) ++ [yb]).length ≤ m + nb ∧ (∀ y ∈ (l ++ D.takeWhile pln) ++ [yb], y < 256) ∧ say T = (say (U.drop (m + nb))).map fun p => (((l ++ D.takeWhile pln) ++ [yb]) ++ p.1, p.2 + (m + nb - 1))) := Lib.hid (by
            refine ⟨?_, ?_, ?_⟩
            · rw [List.length_append, List.length_singleton]
              have := HL2.out.1
              have := HPOS.out.1
              omega
            · intro y hy
              rcases List.mem_append.1 hy with hy | hy
              · exact HL8.out y hy
              · rw [List.mem_singleton.1 hy]; exact hyb
            · rw [HSAY.out, HS2.out]
              show Option.map _ (Option.map _ (say (List.drop nb (x :: r)))) = _
              rw [Option.map_map, ← List.drop_drop, HDD.out, HQ.out]
              congr 1
              funext p
              simp only [Function.comp, List.append_assoc]
              congr 1
              have := HM.out
              show p.2 + nb + (m - 1) = p.2 + (m + nb - 1)
              omega)
          have hnbS : m + nb ≤ S.size := by
            have hnl : nb ≤ (x :: r).length := HPOS.out.2
            have hml2 : m + (x :: r).length = U.length := by have := HDL2.out; rw [HQ.out] at this; exact this
            have := HSU.out
            omega
          have HN : Hid (1 ≤ m + nb ∧ m + nb ≤ U.length ∧ U.length - (m + nb) < U.length - at_ ∧ wrap64 ((m : Int) + (nb : Int)) = ((m + nb : Nat) : Int)) := Lib.hid (by
            have hnl : nb ≤ (x :: r).length := HPOS.out.2
            have hp2 := HPOS.out.1
            have hml2 : m + (x :: r).length = U.length := by have := HDL2.out; rw [HQ.out] at this; exact this
            have hUb : U.length ≤ 1099511627777 := by have := HUL.out; omega
            refine ⟨by omega, by omega, by omega, (IntWalk.wrap64_in _ (by omega)).trans (Int.natCast_add m nb).symm⟩)
          unfold escV at HE
          go_wp2_with (first
            | (go_at_call 256
               refine (HR.out _).mono ?_
               rintro e w' ⟨he, hw⟩
               subst hw
               subst he)
            | (at_builtin
               refine wpList_apps rfl (.tmp 13) (.tmp 19) rfl rfl HJ.out.1 (fun x hx => HD8.out x ((List.takeWhile_sublist _).subset hx)) rfl HAP.out HJ.out.2.2.2.1.size ?_
               intro v2 w2 ho2 hb2
               have HO2 := Lib.hid ho2
               have HB2 := Lib.hid (HJ.out.2.2.2.1.trans hb2)
               have HV2 := Lib.hid (heap_below HVQ.out HB2.out)
               have y0 := cell_block HV2.out 0
               have z0 := free_block HV2.out 0
               have y1 := cell_block HV2.out 1
               have z1 := free_block HV2.out 1
               have y2 := cell_block HV2.out 2
               have z2 := free_block HV2.out 2
               have y3 := cell_block HV2.out 3
               have z3 := free_block HV2.out 3
               have y4 := cell_block HV2.out 4
               have z4 := free_block HV2.out 4
               have y5 := cell_block HV2.out 5
               have z5 := free_block HV2.out 5
               have hcv := run_own_str _ w2 V.heap.size v2 ho2 HL8.out
               obtain ⟨A2, c2, hv2, -⟩ := ho2.form
               have HVV := Lib.hid hv2
               clear ho2 hb2 hv2)
            | (go_at_call 70
               refine (HPX.out _).mono ?_
               rintro e w' ⟨he, hw⟩
               subst hw
               subst he)
            | (go_at_call 293
               refine (HE.out _).mono ?_
               rintro e w' ⟨he, hw⟩
               subst hw
               subst he)
            | (at_builtin
               refine wpList_app rfl (.tmp 43) (.tmp 45) rfl rfl (HO2.out.alloc _) rfl (At.one _ _ _ yb rfl) rfl HAQ.out (Nat.le_trans HB2.out.size (size_alloc _ _)) ?_
               intro v3 w3 ho3 hb3 _ _
               have HO3 := Lib.hid ho3
               have HB3 := Lib.hid ((HB2.out.alloc HB2.out.size (.cells #[.int .u8 (yb : Int)] 5)).trans hb3)
               clear ho3 hb3)
            | (fail))
          go_roundw
          case rel => exact ⟨(l ++ D.takeWhile pln) ++ [yb], m + nb, HN.out.1, HN.out.2.1, congrArg (Value.int .i64) (Int.natCast_add m nb).symm, Lib.hid ⟨HO3.out, HREL2.out.1, HREL2.out.2.1, HB3.out, HREL2.out.2.2⟩⟩
          case measure =>
            simp only [intOf]
            rw [← Int.natCast_add, Int.toNat_natCast, Int.toNat_natCast]
            exact HN.out.2.2.1
end Go.Proofs.YteacmanbiamhoaaGreatDoor
