/- drover/net's New, made, has, full, Flying, flies, Look: the walks. -/
import Derived.Test.YtjhopajhcmkllaaNa
namespace Go.Proofs.Ytjhopajhcmkllaa
open Go.RowKit
set_option linter.unusedVariables false

theorem nt_ptr (a : Addr) (w : World) : (binOp .eql 55 (.pointer (some a)) (.pointer (some a))).run Try.prog w = .ok (.bool true) w := by
  obtain ⟨i, hi⟩ := Option.isSome_iff_exists.1 (show (Try.prog.info? 96).isSome = true by kernel_rfl)
  exact run_eql_ptr_same w a Try.underlying55 hi
section
variable {w w' : World} {base q N : Nat} {r r' : Option Nat} {l : List Gr}
theorem made_any (h : NtAt w base q r N l) : Calls Try.prog 56 #[.pointer (some ⟨q, 0, none⟩)] w fun e w' => e = .returned (.bool true) ∧ w = w' := by
  obtain ⟨v, -, -, -, hh, -⟩ := h
  obtain ⟨⟨c0, c1, c2⟩, -⟩ := box3 hh
  have hpe := nt_ptr ⟨q, 0, none⟩
  go_enter Try.func56, Try.ntmps56
  go_wp2_with fail
  go_ret
  exact ⟨rfl, rfl⟩
def hasB (N : Nat) (k : Int) : Bool := decide (0 ≤ k) && decide (k < (N : Int))
theorem has_any (h : NtAt w base q r N l) (k : Int) : Calls Try.prog 57 #[.pointer (some ⟨q, 0, none⟩), .int .i64 k] w fun e w' => e = .returned (.bool (hasB N k)) ∧ w = w' := by
  obtain ⟨v, -, -, -, hh, -⟩ := h
  obtain ⟨⟨c0, c1, c2⟩, -⟩ := box3 hh
  unfold hasB
  by_cases h0 : 0 ≤ k
  · rw [decide_eq_true h0]
    generalize hd : decide (k < (N : Int)) = b
    have d1 : decide (k ≥ 0) = true := decide_eq_true h0
    go_enter Try.func57, Try.ntmps57
    go_wp2_with fail
    go_ret
    exact ⟨rfl, rfl⟩
  · rw [decide_eq_false h0]
    have d1 : decide (k ≥ 0) = false := decide_eq_false (by omega)
    go_enter Try.func57, Try.ntmps57
    go_wp2_with fail
    go_ret
    exact ⟨rfl, rfl⟩
theorem full_any (h : NtAt w base q r N l) : Calls Try.prog 58 #[.pointer (some ⟨q, 0, none⟩)] w fun e w' => e = .returned (.bool (decide (4096 ≤ l.length))) ∧ w = w' := by
  obtain ⟨v, -, -, ho, hh, -⟩ := h
  obtain ⟨A, c, rfl⟩ : ∃ A c, v = .slice A l.length c := by
    rcases row_form ho with ⟨rfl, rfl⟩ | ⟨g, c, rfl, _⟩
    · exact ⟨none, 0, rfl⟩
    · exact ⟨_, _, rfl⟩
  obtain ⟨⟨c0, c1, c2⟩, -⟩ := box3 hh
  obtain ⟨b, hb⟩ : ∃ b, decide (4096 ≤ l.length) = b := ⟨_, rfl⟩
  have d1 : decide ((l.length : Int) ≥ 4096) = b := by rw [← hb]; exact decide_eq_decide.2 (by omega)
  rw [hb]
  clear ho hh
  go_enter Try.func58, Try.ntmps58
  go_wp2_with fail
  go_ret
  exact ⟨rfl, rfl⟩
theorem flying_any (h : NtAt w base q r N l) : Calls Try.prog 26 #[.pointer (some ⟨q, 0, none⟩)] w fun e w' => e = .returned (.int .i64 (l.length : Int)) ∧ w = w' := by
  have HM := Lib.hid (made_any h)
  obtain ⟨v, -, -, ho, hh, -⟩ := h
  obtain ⟨A, c, rfl⟩ : ∃ A c, v = .slice A l.length c := by
    rcases row_form ho with ⟨rfl, rfl⟩ | ⟨g, c, rfl, _⟩
    · exact ⟨none, 0, rfl⟩
    · exact ⟨_, _, rfl⟩
  obtain ⟨⟨c0, c1, c2⟩, -⟩ := box3 hh
  clear ho hh
  go_enter Try.func26, Try.ntmps26
  go_wp2_with fail
  refine HM.out.mono ?_
  rintro e w1 ⟨rfl, rfl⟩
  go_wp2_with fail
  go_ret
  exact ⟨rfl, rfl⟩
theorem flies_any (h : NtAt w base q r N l) (i : Int) : Calls Try.prog 60 #[.pointer (some ⟨q, 0, none⟩), .int .i64 i] w fun e w' => e = .returned (.bool (hasB l.length i)) ∧ w = w' := by
  have HF := Lib.hid (flying_any h)
  unfold hasB
  clear h
  by_cases h0 : 0 ≤ i
  · rw [decide_eq_true h0]
    generalize hd : decide (i < (l.length : Int)) = b
    have d1 : decide (i ≥ 0) = true := decide_eq_true h0
    go_enter Try.func60, Try.ntmps60
    go_wp2_with fail
    refine HF.out.mono ?_
    rintro e w1 ⟨rfl, rfl⟩
    go_wp2_with fail
    go_ret
    exact ⟨rfl, rfl⟩
  · rw [decide_eq_false h0]
    have d1 : decide (i ≥ 0) = false := decide_eq_false (by omega)
    go_enter Try.func60, Try.ntmps60
    go_wp2_with fail
    go_ret
    exact ⟨rfl, rfl⟩
end
def NewP (n : Int) (w : World) (e : Ending) (w' : World) : Prop := (¬ (1 ≤ n ∧ n ≤ 16) ∧ e = .returned (.tuple #[.pointer none, .int .i64 2]) ∧ w = w') ∨ ∃ N : Nat, n = (N : Int) ∧ 1 ≤ N ∧ N ≤ 16 ∧ e = .returned (.tuple #[.pointer (some ⟨w.heap.size, 0, none⟩), .int .i64 0]) ∧ NtAt w' w.heap.size w.heap.size none N [] ∧ Below w.heap.size w w'
theorem new_any (n : Int) (w : World) : Calls Try.prog 22 #[.int .i64 n] w fun e w' => NewP n w e w' := by
  by_cases h1 : n < 1
  · have d1 : decide (n < 1) = true := decide_eq_true h1
    go_enter Try.func22, Try.ntmps22
    go_wp2_with fail
    go_ret2
    exact Or.inl ⟨by omega, rfl, rfl⟩
  · have d1 : decide (n < 1) = false := decide_eq_false h1
    by_cases h2 : n > 16
    · have d2 : decide (n > 16) = true := decide_eq_true h2
      go_enter Try.func22, Try.ntmps22
      go_wp2_with fail
      go_ret2
      exact Or.inl ⟨by omega, rfl, rfl⟩
    · have d2 : decide (n > 16) = false := decide_eq_false h2
      obtain ⟨N, rfl⟩ : ∃ N : Nat, n = N := ⟨n.toNat, by omega⟩
      go_enter Try.func22, Try.ntmps22
      go_wp2_with fail
      go_ret2
      refine Or.inr ⟨N, rfl, by omega, by omega, rfl, ⟨_, rfl, Nat.le_refl _, World.ownsRow_nil _ _ _ _, heap_new w _, by simp, by simp⟩, (Below.refl _ w).alloc (Nat.le_refl _) _⟩
end Go.Proofs.Ytjhopajhcmkllaa
