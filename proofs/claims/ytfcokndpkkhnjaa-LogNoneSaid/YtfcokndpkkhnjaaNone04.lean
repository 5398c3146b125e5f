/- drover/disk's methods of what New did not make: the walks. -/
import Derived.Test.YtfcokndpkkhnjaaDop3
namespace Go.Proofs.Ytfcokndpkkhnjaa
open Go.RowKit

/-- No disk: none, or one that New did not make. -/
def NoDk (w : World) (a : Option Addr) : Prop := a = none ∨ ∃ p, a = some ⟨p, 0, none⟩ ∧
  w.heap[p]? = some (.cells #[.pointer none, .int .i64 0, .slice none 0 0, .int .i64 0, .bool false, .int .i64 0, .bool false] 71 (0, 0))
theorem ptr_not (a : Addr) (w : World) : (binOp .eql 24 (.pointer none) (.pointer (some a))).run Try.prog w = .ok (.bool false) w := by
  have h : ∀ d : Nat, (Op.equalIn (d + 1) 24 (.pointer none) (.pointer (some a))).run Try.prog w = .ok false w := fun d => by
    simp [Op.equalIn, run_underlying Try.underlying24]
  simp only [binOp]
  simp [Op.equal, Op.maxDepth, h 9999]
section
variable {w : World} {a : Option Addr}
theorem NoDk.below {w' : World} (h : NoDk w a) (hb : Below w.heap.size w w') : NoDk w' a := by
  rcases h with h | ⟨p, h1, h2⟩
  · exact .inl h
  · exact .inr ⟨p, h1, heap_below h2 hb⟩
theorem made_no (h : NoDk w a) : Calls Try.prog 43 #[.pointer a] w fun e w' => e = .returned (.bool false) ∧ w = w' := by
  rcases h with rfl | ⟨p, rfl, hh⟩
  · go_enter Try.func43, Try.ntmps43
    go_wp2_with fail
    go_ret
    exact ⟨rfl, rfl⟩
  · obtain ⟨⟨c0, c1, c2, c3, c4, c5, c6⟩, -⟩ := box7 hh
    have hpe := ptr_not ⟨p, 0, none⟩
    go_enter Try.func43, Try.ntmps43
    go_wp2_with fail
    go_ret
    exact ⟨rfl, rfl⟩
theorem ready_no (h : NoDk w a) : Calls Try.prog 37 #[.pointer a] w fun e w' => e = .returned (.int .i64 1) ∧ w = w' := by
  go_enter Try.func37, Try.ntmps37
  go_wp2_with fail
  refine (made_no h).mono ?_
  rintro e w1 ⟨rfl, rfl⟩
  go_wp2_with fail
  go_ret
  exact ⟨rfl, rfl⟩
theorem down_no (h : NoDk w a) : Calls Try.prog 31 #[.pointer a] w fun e w' => e = .returned (.bool false) ∧ w = w' := by
  go_enter Try.func31, Try.ntmps31
  go_wp2_with fail
  refine (made_no h).mono ?_
  rintro e w1 ⟨rfl, rfl⟩
  go_wp2_with fail
  go_ret
  exact ⟨rfl, rfl⟩
theorem size_no (h : NoDk w a) : Calls Try.prog 16 #[.pointer a] w fun e w' => e = .returned (.int .i64 0) ∧ w = w' := by
  go_enter Try.func16, Try.ntmps16
  go_wp2_with fail
  refine (made_no h).mono ?_
  rintro e w1 ⟨rfl, rfl⟩
  go_wp2_with fail
  go_ret
  exact ⟨rfl, rfl⟩
theorem synced_no (h : NoDk w a) : Calls Try.prog 30 #[.pointer a] w fun e w' => e = .returned (.int .i64 0) ∧ w = w' := by
  go_enter Try.func30, Try.ntmps30
  go_wp2_with fail
  refine (made_no h).mono ?_
  rintro e w1 ⟨rfl, rfl⟩
  go_wp2_with fail
  go_ret
  exact ⟨rfl, rfl⟩
theorem arm_no (n : Int) (h : NoDk w a) : Calls Try.prog 21 #[.pointer a, .int .i64 n] w fun e w' => e = .returned (.tuple #[]) ∧ w = w' := by
  go_enter Try.func21, Try.ntmps21
  go_wp2_with fail
  refine (ready_no h).mono ?_
  rintro e w1 ⟨rfl, rfl⟩
  go_wp2_with fail
  refine bodyPost_ret (results_none rfl _ _ _) rfl ?_
  exact ⟨rfl, rfl⟩
theorem crash_no (n : Int) (h : NoDk w a) : Calls Try.prog 19 #[.pointer a, .int .i64 n] w fun e w' => e = .returned (.tuple #[]) ∧ w = w' := by
  go_enter Try.func19, Try.ntmps19
  go_wp2_with fail
  refine (made_no h).mono ?_
  rintro e w1 ⟨rfl, rfl⟩
  go_wp2_with fail
  refine bodyPost_ret (results_none rfl _ _ _) rfl ?_
  exact ⟨rfl, rfl⟩
theorem read_no (h : NoDk w a) : Calls Try.prog 40 #[.pointer a] w fun e w' => e = .returned (.tuple #[.slice none 0 0, .int .i64 1]) ∧ w = w' := by
  go_enter Try.func40, Try.ntmps40
  go_wp2_with fail
  refine (ready_no h).mono ?_
  rintro e w1 ⟨rfl, rfl⟩
  go_wp2_with fail
  go_ret2
  exact ⟨rfl, rfl⟩
theorem append_no (A : Option Addr) (l c : Nat) (h : NoDk w a) : Calls Try.prog 12 #[.pointer a, .slice A l c] w fun e w' => e = .returned (.int .i64 1) ∧ Below w.heap.size w w' := by
  have hW := two w (.cells #[.pointer a] 24) (.cells #[.slice A l c] 22)
  go_enter Try.func12, Try.ntmps12
  go_wp2_with fail
  refine (ready_no (h.below hW)).mono ?_
  rintro e w1 ⟨rfl, rfl⟩
  go_wp2_with fail
  go_ret
  exact ⟨rfl, hW⟩
theorem cut_no (n : Int) (h : NoDk w a) : Calls Try.prog 20 #[.pointer a, .int .i64 n] w fun e w' => e = .returned (.int .i64 1) ∧ Below w.heap.size w w' := by
  have hW := two w (.cells #[.pointer a] 24) (.cells #[.int .i64 n] 3)
  go_enter Try.func20, Try.ntmps20
  go_wp2_with fail
  refine (ready_no (h.below hW)).mono ?_
  rintro e w1 ⟨rfl, rfl⟩
  go_wp2_with fail
  go_ret
  exact ⟨rfl, hW⟩
theorem sync_no (h : NoDk w a) : Calls Try.prog 48 #[.pointer a] w fun e w' => e = .returned (.int .i64 1) ∧ Below w.heap.size w w' := by
  have hW := (Below.refl w.heap.size w).alloc (Nat.le_refl _) (.cells #[.pointer a] 24)
  go_enter Try.func48, Try.ntmps48
  go_wp2_with fail
  refine (ready_no (h.below hW)).mono ?_
  rintro e w1 ⟨rfl, rfl⟩
  go_wp2_with fail
  go_ret
  exact ⟨rfl, hW⟩
end
end Go.Proofs.Ytfcokndpkkhnjaa
