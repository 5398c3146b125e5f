/- drover/session's calls on what New did not make: the walks. -/
import Derived.Test.YtmkpaippkajhmaaSm
namespace Go.Proofs.Ytmkpaippkajhmaa
open Go.RowKit
set_option linter.unusedVariables false

def zeroS : Obj := .cells #[.pointer none, .int .i64 0, .int .i64 0, .int .i64 0, .int .i64 0, .slice none 0 0, .int .i64 0, .int .i64 0, .int .i64 0] 55
theorem se_not (a : Addr) (w : World) : (binOp .eql 29 (.pointer none) (.pointer (some a))).run Try.prog w = .ok (.bool false) w := by
  have h : ∀ d : Nat, (Op.equalIn (d + 1) 29 (.pointer none) (.pointer (some a))).run Try.prog w = .ok false w := fun d => by
    simp [Op.equalIn, run_underlying Try.underlying29]
  simp only [binOp]
  simp [Op.equal, Op.maxDepth, h 9999]
/-- No session: none, or one that New did not make. -/
def NoSe (w : World) (a : Option Addr) : Prop := a = none ∨ ∃ p, a = some ⟨p, 0, none⟩ ∧ w.heap[p]? = some zeroS
section
variable {w : World} {a : Option Addr}
theorem NoSe.below {w' : World} (h : NoSe w a) (hb : Below w.heap.size w w') : NoSe w' a := by
  rcases h with h | ⟨p, h1, h2⟩
  · exact .inl h
  · exact .inr ⟨p, h1, heap_below h2 hb⟩
theorem smade_no (h : NoSe w a) : Calls Try.prog 52 #[.pointer a] w fun e w' => e = .returned (.bool false) ∧ w = w' := by
  rcases h with rfl | ⟨p, rfl, hh⟩
  · go_enter Try.func52, Try.ntmps52
    go_wp2_with fail
    go_ret
    exact ⟨rfl, rfl⟩
  · unfold zeroS at hh
    obtain ⟨c0, -⟩ := box9 hh
    have hpe := se_not ⟨p, 0, none⟩
    go_enter Try.func52, Try.ntmps52
    go_wp2_with fail
    go_ret
    exact ⟨rfl, rfl⟩
theorem waiting_no (h : NoSe w a) : Calls Try.prog 15 #[.pointer a] w fun e w' => e = .returned (.int .i64 0) ∧ w = w' := by
  go_enter Try.func15, Try.ntmps15
  go_wp2_with fail
  refine (smade_no h).mono ?_
  rintro e w1 ⟨rfl, rfl⟩
  go_wp2_with fail
  go_ret
  exact ⟨rfl, rfl⟩
theorem peerlife_no (h : NoSe w a) : Calls Try.prog 14 #[.pointer a] w fun e w' => e = .returned (.int .i64 0) ∧ w = w' := by
  go_enter Try.func14, Try.ntmps14
  go_wp2_with fail
  refine (smade_no h).mono ?_
  rintro e w1 ⟨rfl, rfl⟩
  go_wp2_with fail
  go_ret
  exact ⟨rfl, rfl⟩
theorem accept_no (h : NoSe w a) (k : Int) : Calls Try.prog 18 #[.pointer a, .int .i64 k] w fun e w' => e = .returned (.int .i64 1) ∧ w = w' := by
  go_enter Try.func18, Try.ntmps18
  go_wp2_with fail
  refine (smade_no h).mono ?_
  rintro e w1 ⟨rfl, rfl⟩
  go_wp2_with fail
  go_ret
  exact ⟨rfl, rfl⟩
theorem done_no (h : NoSe w a) (k : Int) : Calls Try.prog 19 #[.pointer a, .int .i64 k] w fun e w' => e = .returned (.int .i64 1) ∧ w = w' := by
  go_enter Try.func19, Try.ntmps19
  go_wp2_with fail
  refine (smade_no h).mono ?_
  rintro e w1 ⟨rfl, rfl⟩
  go_wp2_with fail
  go_ret
  exact ⟨rfl, rfl⟩
theorem packets_no (h : NoSe w a) : Calls Try.prog 23 #[.pointer a] w fun e w' => e = .returned (.slice none 0 0) ∧ w = w' := by
  go_enter Try.func23, Try.ntmps23
  go_wp2_with fail
  refine (smade_no h).mono ?_
  rintro e w1 ⟨rfl, rfl⟩
  go_wp2_with fail
  go_ret
  exact ⟨rfl, rfl⟩
theorem ssend_no (h : NoSe w a) (v : Value) : Calls Try.prog 22 #[.pointer a, v] w fun e w' => e = .returned (.tuple #[.int .i64 0, .int .i64 1]) ∧ w = w' := by
  go_enter Try.func22, Try.ntmps22
  go_wp2_with fail
  refine (smade_no h).mono ?_
  rintro e w1 ⟨rfl, rfl⟩
  go_wp2_with fail
  go_ret2
  exact ⟨rfl, rfl⟩
theorem link_no (h : NoSe w a) : Calls Try.prog 21 #[.pointer a] w fun e w' => e = .returned (.agg #[.int .i64 0, .slice none 0 0, .int .i64 0]) ∧ Below w.heap.size w w' := by
  have hW := (Below.refl w.heap.size w).alloc (Nat.le_refl _) (.cells #[.int .i64 0, .slice none 0 0, .int .i64 0] 24)
  obtain ⟨⟨y0, y1, y2⟩, -⟩ := box3 (heap_new w (.cells #[.int .i64 0, .slice none 0 0, .int .i64 0] 24))
  go_enter Try.func21, Try.ntmps21
  go_wp2_with fail
  refine (smade_no (h.below hW)).mono ?_
  rintro e w1 ⟨rfl, rfl⟩
  go_wp2_with fail
  refine bodyPost_ret (v := .agg #[.int .i64 0, .slice none 0 0, .int .i64 0]) (by simp [results, Try.results21, go_sem, y0, y1, y2]) rfl ?_
  exact ⟨rfl, hW⟩
theorem receive_no (h : NoSe w a) (v : Value) : Calls Try.prog 13 #[.pointer a, v] w fun e w' => e = .returned (.tuple #[.agg #[.int .i64 0, .slice none 0 0], .bool false, .int .i64 1]) ∧ Below w.heap.size w w' := by
  have hW := (Below.refl w.heap.size w).alloc (Nat.le_refl _) (.cells #[.int .i64 0, .slice none 0 0] 27)
  have q0 := heap_new w (.cells #[.int .i64 0, .slice none 0 0] 27)
  have y0 := cell_block q0 0
  have y1 := cell_block q0 1
  clear q0
  go_enter Try.func13, Try.ntmps13
  go_wp2_with fail
  refine (smade_no (h.below hW)).mono ?_
  rintro e w1 ⟨rfl, rfl⟩
  go_wp2_with fail
  refine bodyPost_ret (v := .tuple #[.agg #[.int .i64 0, .slice none 0 0], .bool false, .int .i64 1]) (by simp [results, Try.results13, go_sem, y0, y1]) rfl ?_
  exact ⟨rfl, hW⟩
end
end Go.Proofs.Ytmkpaippkajhmaa
