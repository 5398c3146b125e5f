/- drover/log's calls on what Open did not make: the walks. -/
import Derived.Test.YtfcokndpkkhnjaaNone04
import Derived.Test.YtfcokndpkkhnjaaLe
import Derived.Test.YtfcokndpkkhnjaaLh
namespace Go.Proofs.Ytfcokndpkkhnjaa
open Go.RowKit

/-- No log: none, or one that Open did not make. -/
def NoLg (w : World) (a : Option Addr) : Prop := a = none ∨ ∃ p, a = some ⟨p, 0, none⟩ ∧ w.heap[p]? = some (.cells #[.pointer none, .pointer none, .int .i64 0, .int .i64 0, .bool false] 55 (0, 0))
section
variable {w : World} {a : Option Addr}
theorem NoLg.below {w' : World} (h : NoLg w a) (hb : Below w.heap.size w w') : NoLg w' a := by
  rcases h with h | ⟨p, h1, h2⟩
  · exact .inl h
  · exact .inr ⟨p, h1, heap_below h2 hb⟩
theorem lmade_no (h : NoLg w a) : Calls Try.prog 42 #[.pointer a] w fun e w' => e = .returned (.bool false) ∧ w = w' := by
  rcases h with rfl | ⟨p, rfl, hh⟩
  · go_enter Try.func42, Try.ntmps42
    go_wp2_with fail
    go_ret
    exact ⟨rfl, rfl⟩
  · obtain ⟨⟨c0, c1, c2, c3, c4⟩, -⟩ := box5q hh
    have hpe := lg_not ⟨p, 0, none⟩
    go_enter Try.func42, Try.ntmps42
    go_wp2_with fail
    go_ret
    exact ⟨rfl, rfl⟩
theorem llen_no (h : NoLg w a) : Calls Try.prog 14 #[.pointer a] w fun e w' => e = .returned (.int .i64 0) ∧ w = w' := by
  go_enter Try.func14, Try.ntmps14
  go_wp2_with fail
  refine (lmade_no h).mono ?_
  rintro e w1 ⟨rfl, rfl⟩
  go_wp2_with fail
  go_ret
  exact ⟨rfl, rfl⟩
theorem lbytes_no (h : NoLg w a) : Calls Try.prog 15 #[.pointer a] w fun e w' => e = .returned (.int .i64 0) ∧ w = w' := by
  go_enter Try.func15, Try.ntmps15
  go_wp2_with fail
  refine (lmade_no h).mono ?_
  rintro e w1 ⟨rfl, rfl⟩
  go_wp2_with fail
  go_ret
  exact ⟨rfl, rfl⟩
theorem takes_no (v : Value) (h : NoLg w a) : Calls Try.prog 44 #[.pointer a, v] w fun e w' => e = .returned (.int .i64 1) ∧ w = w' := by
  go_enter Try.func44, Try.ntmps44
  go_wp2_with fail
  refine (lmade_no h).mono ?_
  rintro e w1 ⟨rfl, rfl⟩
  go_wp2_with fail
  go_ret
  exact ⟨rfl, rfl⟩
theorem ladd_no (A : Option Addr) (l c : Nat) (h : NoLg w a) : Calls Try.prog 18 #[.pointer a, .slice A l c] w fun e w' => e = .returned (.int .i64 1) ∧ Below w.heap.size w w' := by
  have hW := (Below.refl w.heap.size w).alloc (Nat.le_refl _) (.cells #[.pointer a] 29)
  have e0 := cell_of_one (heap_new w (.cells #[.pointer a] 29))
  go_enter Try.func18, Try.ntmps18
  go_wp2_with fail
  refine (takes_no _ (h.below hW)).mono ?_
  rintro e w1 ⟨rfl, rfl⟩
  go_wp2_with fail
  go_ret
  exact ⟨rfl, hW⟩
theorem lopen_no (w : World) : Calls Try.prog 13 #[.pointer none] w fun e w' => e = .returned (.tuple #[.pointer none, .slice none 0 0, .int .i64 1]) ∧ w = w' := by
  go_enter Try.func13, Try.ntmps13
  go_wp2_with fail
  refine (read_no (.inl rfl)).mono ?_
  rintro e w1 ⟨rfl, rfl⟩
  go_wp2_with fail
  go_ret3
  exact ⟨rfl, rfl⟩
end
end Go.Proofs.Ytfcokndpkkhnjaa
