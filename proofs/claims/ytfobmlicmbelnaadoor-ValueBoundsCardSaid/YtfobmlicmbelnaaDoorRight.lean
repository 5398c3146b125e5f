/- drover/value.rightLeaf, Right: the walks. -/
import Derived.Test.YtfobmlicmbelnaaDoorRep
import Derived.BigGuardPart
import Derived.BigQuiet
namespace Go.Proofs.YtfobmlicmbelnaaDoor
open Go.RowKit

theorem strOf_empty (s : List Nat) : (strOf s).toList.isEmpty = s.isEmpty := by
  rw [ByteArray.toList_eq]
  cases s <;> simp [strOf]
theorem strOf_size (s : List Nat) : (strOf s).size = s.length := by
  show ((s.map UInt8.ofNat).toArray).size = _
  simp
theorem ret_bool {a b : Bool} (h : a = b) : Ending.returned (.bool a) = Ending.returned (.bool b) := by rw [h]
theorem eqb_true {k j : Nat} (h : ((k : Int) == (j : Int)) = true) : k = j := by
  have := beq_iff_eq.1 h
  omega
theorem eqb_false {k j : Nat} (h : ((k : Int) == (j : Int)) = false) : k ≠ j := by
  intro h0
  subst h0
  simp at h

set_option maxRecDepth 100000 in
set_option maxHeartbeats 400000 in
theorem rightLeaf_any (k : Nat) (n : Int) (s : List Nat) (l : List Va) (v : Value) (w : World) (B : Nat) (h : Rep w B v (.mk k n s l)) :
    Calls Tryd.prog 43 #[v] w fun e w' => e = .returned (.bool (lf k n s l)) ∧ Below w.heap.size w w' := by
  obtain ⟨y0, y1, y2, y3, rfl⟩ := h.form
  obtain ⟨A, c, rfl, rfl, rfl, rfl, hk8, hn0, hn1, hs8, hsl, hc, hcm, hl⟩ := h.parts
  have HS := Lib.hid (strOf_empty s)
  have HZ := Lib.hid (strOf_size s)
  have key : ∀ b : Bool, lf k n s l = b → Hid (lf k n s l = b) := fun _ h => h
  have E : lf k n s l = (l.isEmpty && (if k = 1 then s.isEmpty else if k = 2 then s.isEmpty && (decide (n = 0) || decide (n = 1)) else if k = 3 then decide (n = 0) && decide (s.length ≤ 4096) else if k = 5 then s.isEmpty && decide (0 ≤ n) else false)) := rfl
  by_cases hl0 : 0 < l.length
  · have HK := key false (by rw [E]; cases l <;> simp at hl0 ⊢)
    clear key E
    go_enter Tryd.func43, Tryd.ntmps43
    go_wp2
    go_ret
    exact ⟨ret_bool HK.out.symm, (Below.refl _ _).alloc (Nat.le_refl _) _⟩
  · have el : l = [] := List.eq_nil_of_length_eq_zero (by omega)
    rw [el] at E
    simp only [List.isEmpty_nil, Bool.true_and] at E
    have hl0' : ¬ 0 < l.length := hl0
    by_cases k1 : k = 1
    · rw [if_pos k1] at E
      have HK := key _ (by rw [el, E, ← HS.out])
      have g1 : ((k : Int) == 1) = true := by rw [k1]; rfl
      clear key E el k1
      go_enter Tryd.func43, Tryd.ntmps43
      go_wp2
      go_ret
      exact ⟨ret_bool HK.out.symm, (Below.refl _ _).alloc (Nat.le_refl _) _⟩
    · rw [if_neg k1] at E
      have g1 : ((k : Int) == 1) = false := beq_eq_false_iff_ne.2 (by omega)
      by_cases k2 : k = 2
      · rw [if_pos k2, ← HS.out] at E
        have g2 : ((k : Int) == 2) = true := by rw [k2]; rfl
        have HK := key _ (by rw [el, E])
        clear key E el k1 k2
        go_enter Tryd.func43, Tryd.ntmps43
        go_wp2
        all_goals
          go_ret
          refine ⟨ret_bool ?_, (Below.refl _ _).alloc (Nat.le_refl _) _⟩
          rw [HK.out]
          simp [*]
          try rfl
      · rw [if_neg k2] at E
        have g2 : ((k : Int) == 2) = false := beq_eq_false_iff_ne.2 (by omega)
        by_cases k3 : k = 3
        · rw [if_pos k3, ← HZ.out] at E
          have g3 : ((k : Int) == 3) = true := by rw [k3]; rfl
          have HK := key _ (by rw [el, E])
          clear key E el k1 k2 k3
          go_enter Tryd.func43, Tryd.ntmps43
          go_wp2
          all_goals
            go_ret
            refine ⟨ret_bool ?_, (Below.refl _ _).alloc (Nat.le_refl _) _⟩
            rw [HK.out]
            simp [*]
            try omega
        · rw [if_neg k3] at E
          have g3 : ((k : Int) == 3) = false := beq_eq_false_iff_ne.2 (by omega)
          by_cases k5 : k = 5
          · rw [if_pos k5, ← HS.out] at E
            have g5 : ((k : Int) == 5) = true := by rw [k5]; rfl
            have HK := key _ (by rw [el, E])
            clear key E el k1 k2 k3 k5
            go_enter Tryd.func43, Tryd.ntmps43
            go_wp2
            all_goals
              go_ret
              refine ⟨ret_bool ?_, (Below.refl _ _).alloc (Nat.le_refl _) _⟩
              rw [HK.out]
              simp [*]
          · rw [if_neg k5] at E
            have g5 : ((k : Int) == 5) = false := beq_eq_false_iff_ne.2 (by omega)
            have HK := key _ (by rw [el, E])
            clear key E el k1 k2 k3 k5
            go_enter Tryd.func43, Tryd.ntmps43
            go_wp2
            go_ret
            exact ⟨ret_bool HK.out.symm, (Below.refl _ _).alloc (Nat.le_refl _) _⟩
end Go.Proofs.YtfobmlicmbelnaaDoor
