/- drover/net's calls on what New did not make: the walks. -/
import Derived.Test.YtcaddokedkndmaaNf
namespace Go.Proofs.Ytcaddokedkndmaa
open Go.RowKit
set_option linter.unusedVariables false

theorem nt_not (a : Addr) (w : World) : (binOp .eql 22 (.pointer none) (.pointer (some a))).run Try.prog w = .ok (.bool false) w := by
  have h : ∀ d : Nat, (Op.equalIn (d + 1) 22 (.pointer none) (.pointer (some a))).run Try.prog w = .ok false w := fun d => by
    simp [Op.equalIn, run_underlying Try.underlying22]
  simp only [binOp]
  simp [Op.equal, Op.maxDepth, h 9999]
/-- No net: none, or one that New did not make. -/
def NoNt (w : World) (a : Option Addr) : Prop := a = none ∨ ∃ p, a = some ⟨p, 0, none⟩ ∧ w.heap[p]? = some (.cells #[.pointer none, .int .i64 0, .slice none 0 0] 54 (0, 0))
section
variable {w : World} {a : Option Addr}
theorem NoNt.below {w' : World} (h : NoNt w a) (hb : Below w.heap.size w w') : NoNt w' a := by
  rcases h with h | ⟨p, h1, h2⟩
  · exact .inl h
  · exact .inr ⟨p, h1, heap_below h2 hb⟩
theorem made_no (h : NoNt w a) : Calls Try.prog 30 #[.pointer a] w fun e w' => e = .returned (.bool false) ∧ w = w' := by
  rcases h with rfl | ⟨p, rfl, hh⟩
  · go_enter Try.func30, Try.ntmps30
    go_wp2_with fail
    go_ret
    exact ⟨rfl, rfl⟩
  · obtain ⟨⟨c0, c1, c2⟩, -⟩ := box3 hh
    have hpe := nt_not ⟨p, 0, none⟩
    go_enter Try.func30, Try.ntmps30
    go_wp2_with fail
    go_ret
    exact ⟨rfl, rfl⟩
theorem flying_no (h : NoNt w a) : Calls Try.prog 16 #[.pointer a] w fun e w' => e = .returned (.int .i64 0) ∧ w = w' := by
  go_enter Try.func16, Try.ntmps16
  go_wp2_with fail
  refine (made_no h).mono ?_
  rintro e w1 ⟨rfl, rfl⟩
  go_wp2_with fail
  go_ret
  exact ⟨rfl, rfl⟩
theorem flies_no (h : NoNt w a) (i : Int) : Calls Try.prog 33 #[.pointer a, .int .i64 i] w fun e w' => e = .returned (.bool false) ∧ w = w' := by
  by_cases h0 : 0 ≤ i
  · have d1 : decide (i ≥ 0) = true := decide_eq_true h0
    have d2 : decide (i < 0) = false := decide_eq_false (by omega)
    go_enter Try.func33, Try.ntmps33
    go_wp2_with fail
    refine (flying_no h).mono ?_
    rintro e w1 ⟨rfl, rfl⟩
    go_wp2_with fail
    go_ret
    exact ⟨rfl, rfl⟩
  · have d1 : decide (i ≥ 0) = false := decide_eq_false (by omega)
    go_enter Try.func33, Try.ntmps33
    go_wp2_with fail
    go_ret
    exact ⟨rfl, rfl⟩
theorem look_no (h : NoNt w a) (i : Int) : Calls Try.prog 12 #[.pointer a, .int .i64 i] w fun e w' => e = .returned (.tuple #[.agg #[.int .i64 0, .int .i64 0, .slice none 0 0], .bool false]) ∧ Below w.heap.size w w' := by
  have hW := (Below.refl w.heap.size w).alloc (Nat.le_refl _) (.cells #[.int .i64 0, .int .i64 0, .slice none 0 0] 29)
  obtain ⟨⟨y0, y1, y2⟩, -⟩ := box3 (heap_new w (.cells #[.int .i64 0, .int .i64 0, .slice none 0 0] 29))
  go_enter Try.func12, Try.ntmps12
  go_wp2_with fail
  refine (flies_no (h.below hW) i).mono ?_
  rintro e w1 ⟨rfl, rfl⟩
  go_wp2_with fail
  refine bodyPost_ret (v := .tuple #[.agg #[.int .i64 0, .int .i64 0, .slice none 0 0], .bool false]) (by simp [results, Try.results12, go_sem, y0, y1, y2]) rfl ?_
  exact ⟨rfl, hW⟩
theorem drop_no (h : NoNt w a) (i : Int) : Calls Try.prog 14 #[.pointer a, .int .i64 i] w fun e w' => e = .returned (.bool false) ∧ w = w' := by
  go_enter Try.func14, Try.ntmps14
  go_wp2_with fail
  refine (flies_no h i).mono ?_
  rintro e w1 ⟨rfl, rfl⟩
  go_wp2_with fail
  go_ret
  exact ⟨rfl, rfl⟩
theorem copy_no (h : NoNt w a) (i : Int) : Calls Try.prog 13 #[.pointer a, .int .i64 i] w fun e w' => e = .returned (.int .i64 1) ∧ w = w' := by
  go_enter Try.func13, Try.ntmps13
  go_wp2_with fail
  refine (made_no h).mono ?_
  rintro e w1 ⟨rfl, rfl⟩
  go_wp2_with fail
  go_ret
  exact ⟨rfl, rfl⟩
theorem send_no (h : NoNt w a) (fr to : Int) (v : Value) : Calls Try.prog 11 #[.pointer a, .int .i64 fr, .int .i64 to, v] w fun e w' => e = .returned (.int .i64 1) ∧ w = w' := by
  go_enter Try.func11, Try.ntmps11
  go_wp2_with fail
  refine (made_no h).mono ?_
  rintro e w1 ⟨rfl, rfl⟩
  go_wp2_with fail
  go_ret
  exact ⟨rfl, rfl⟩
theorem forget_no (h : NoNt w a) (node : Int) : Calls Try.prog 15 #[.pointer a, .int .i64 node] w fun e w' => e = .returned (.int .i64 0) ∧ Below w.heap.size w w' := by
  have hW := (Below.refl w.heap.size w).alloc (Nat.le_refl _) (.cells #[.int .i64 node] 3)
  go_enter Try.func15, Try.ntmps15
  go_wp2_with fail
  refine (made_no (h.below hW)).mono ?_
  rintro e w1 ⟨rfl, rfl⟩
  go_wp2_with fail
  go_ret
  exact ⟨rfl, hW⟩
set_option maxHeartbeats 800000 in
theorem take_no (h : NoNt w a) (i : Int) : Calls Try.prog 20 #[.pointer a, .int .i64 i] w fun e w' => e = .returned (.tuple #[.agg #[.int .i64 0, .int .i64 0, .slice none 0 0], .bool false]) ∧ Below w.heap.size w w' := by
  have hW := (Below.refl w.heap.size w).alloc (Nat.le_refl _) (.cells #[.int .i64 0, .int .i64 0, .slice none 0 0] 29)
  have q0 := heap_new w (.cells #[.int .i64 0, .int .i64 0, .slice none 0 0] 29)
  go_enter Try.func20, Try.ntmps20
  go_wp2_with fail
  refine (look_no (h.below hW) i).mono ?_
  rintro e w1 ⟨rfl, hb1⟩
  have hb2 := (Below.refl w1.heap.size w1).alloc (Nat.le_refl _) (.cells #[.int .i64 0, .int .i64 0, .slice none 0 0] 29)
  have q2 := heap_below (heap_below q0 hb1) hb2
  have q3 := heap_new w1 (.cells #[.int .i64 0, .int .i64 0, .slice none 0 0] 29)
  obtain ⟨⟨c0, c1, c2⟩, ⟨f0, f1, f2⟩⟩ := box3 q2
  obtain ⟨⟨d0, d1, d2⟩, -⟩ := box3 q3
  have hno := ((h.below hW).below hb1).below hb2
  have hbb := nxt (nxt hW hb1) hb2
  obtain ⟨W, hWW⟩ : ∃ W, W = w1.alloc (.cells #[.int .i64 0, .int .i64 0, .slice none 0 0] 29) := ⟨_, rfl⟩
  go_wp2_with fail
  rw [← hWW] at c0 c1 c2 f0 f1 f2 d0 d1 d2 hno hbb q2 ⊢
  refine (drop_no hno i).mono ?_
  rintro e w3 ⟨rfl, rfl⟩
  clear hWW
  obtain ⟨⟨z0, z1, z2⟩, -⟩ := box3 (set3 q2 (.int .i64 0) (.int .i64 0) (.slice none 0 0))
  go_wp2_with fail
  refine bodyPost_ret (v := .tuple #[.agg #[.int .i64 0, .int .i64 0, .slice none 0 0], .bool false]) (by simp [results, Try.results20, go_sem, z0, z1, z2]) rfl ?_
  exact ⟨rfl, ((hbb.setCell (Nat.le_refl _) _).setCell (Nat.le_refl _) _).setCell (Nat.le_refl _) _⟩
end
end Go.Proofs.Ytcaddokedkndmaa
