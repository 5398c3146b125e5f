/- A log in memory; drover/log's made, takes, Len, Bytes, Add's closure and oneByOne: the walks. -/
import Derived.Test.YtcmopnkldplngaaLd
import Derived.Test.YtcmopnkldplngaaDop3
namespace Go.Proofs.Ytcmopnkldplngaa
open Go.RowKit

/-- A log: how many records, how many bytes, whether it takes no more. -/
structure Pl where
  n : Nat
  size : Nat
  shut : Bool
/-- At block q there is the log l of the disk at block p. -/
def LgAt (w : World) (q p : Nat) (l : Pl) : Prop := w.heap[q]? = some (.cells #[.pointer (some ⟨q, 0, none⟩), .pointer (some ⟨p, 0, none⟩), .int .i64 (l.n : Int), .int .i64 (l.size : Int), .bool l.shut] 50 (0, 0))
theorem lg_ptr (a : Addr) (w : World) : (binOp .eql 29 (.pointer (some a)) (.pointer (some a))).run Try.prog w = .ok (.bool true) w := by
  obtain ⟨i, hi⟩ := Option.isSome_iff_exists.1 (show (Try.prog.info? 50).isSome = true by kernel_rfl)
  exact run_eql_ptr_same w a Try.underlying29 hi
theorem lg_not (a : Addr) (w : World) : (binOp .eql 29 (.pointer none) (.pointer (some a))).run Try.prog w = .ok (.bool false) w := by
  have h : ∀ d : Nat, (Op.equalIn (d + 1) 29 (.pointer none) (.pointer (some a))).run Try.prog w = .ok false w := fun d => by
    simp [Op.equalIn, run_underlying Try.underlying29]
  simp only [binOp]
  simp [Op.equal, Op.maxDepth, h 9999]
/-- The five cells of a log. -/
theorem box5q {w : World} {g : Nat} {y0 y1 y2 y3 y4 : Value} {T : TypeId} (h : w.heap[g]? = some (.cells #[y0, y1, y2, y3, y4] T (0, 0))) :
    (w.cell? ⟨g, 0, none⟩ = some y0 ∧ w.cell? ⟨g, 1, none⟩ = some y1 ∧ w.cell? ⟨g, 2, none⟩ = some y2 ∧ w.cell? ⟨g, 3, none⟩ = some y3 ∧ w.cell? ⟨g, 4, none⟩ = some y4) ∧
    (w.frozen? ⟨g, 0, none⟩ = false ∧ w.frozen? ⟨g, 1, none⟩ = false ∧ w.frozen? ⟨g, 2, none⟩ = false ∧ w.frozen? ⟨g, 3, none⟩ = false ∧ w.frozen? ⟨g, 4, none⟩ = false) :=
  ⟨⟨cell_block h 0, cell_block h 1, cell_block h 2, cell_block h 3, cell_block h 4⟩, free_block h 0, free_block h 1, free_block h 2, free_block h 3, free_block h 4⟩
/-- All blocks but p and q, and but the row r, are as they were. -/
structure Kl (p q : Nat) (r : Option Nat) (w w' : World) : Prop where
  os : w'.os = w.os
  tape : w'.tape = w.tape
  output : w'.output = w.output
  size : w.heap.size ≤ w'.heap.size
  block : ∀ k, k < w.heap.size → k ≠ p → k ≠ q → r ≠ some k → w'.heap[k]? = w.heap[k]?
section
variable {p q : Nat} {r r' : Option Nat} {a w w' : World}
theorem Kl.refl (p q : Nat) (r : Option Nat) (w : World) : Kl p q r w w := ⟨rfl, rfl, rfl, Nat.le_refl _, fun _ _ _ _ _ => rfl⟩
theorem Kl.trans (h : Kl p q r a w) (hr : Rw a r r') (k : Kl p q r' w w') : Kl p q r a w' :=
  ⟨k.os.trans h.os, k.tape.trans h.tape, k.output.trans h.output, Nat.le_trans h.size k.size, fun i hi hb hq hn =>
    (k.block i (Nat.lt_of_lt_of_le hi h.size) hb hq (by
      rcases hr with rfl | ⟨g, rfl, hg⟩
      · exact hn
      · intro e
        have := Option.some.inj e
        omega)).trans (h.block i hi hb hq hn)⟩
theorem Kl.of_kr (h : Kr p r w w') : Kl p q r w w' := ⟨h.os, h.tape, h.output, h.size, fun k hk hp _ hr => h.block k hk hp hr⟩
theorem Kl.of_below (h : Below w.heap.size w w') : Kl p q r w w' := ⟨h.os, h.tape, h.output, h.size, fun k hk _ _ _ => h.block k hk⟩
theorem Kl.set (h : Kl p q r a w) (i : Nat) (v : Value) : Kl p q r a (w.setCell ⟨q, i, none⟩ v) :=
  h.trans (.inl rfl) ⟨rfl, rfl, rfl, by simp [World.setCell], fun k _ _ hk _ => Below.heap_setCell _ _ _ _ hk⟩
theorem Kl.drew (h : Kl p q r a w) : Kl p q r a w.drew := ⟨h.os, h.tape, h.output, h.size, h.block⟩
theorem Kl.drewN (h : Kl p q r a w) (k : Nat) : Kl p q r a (w.drewN k) := ⟨h.os, h.tape, h.output, h.size, h.block⟩
theorem Kl.heap (h : Kl p q r a w) {k : Nat} {o : Obj} (hk : a.heap[k]? = some o) (hp : k ≠ p) (hq : k ≠ q) (hr : r ≠ some k) : w.heap[k]? = some o := (h.block k (lt_heap hk) hp hq hr).trans hk
theorem Kl.below {B : Nat} (h : Kl p q r a w) (hp : B ≤ p) (hq : B ≤ q) (hs : B ≤ a.heap.size) (hr : ∀ g, r = some g → B ≤ g) : Below B a w :=
  ⟨h.os, h.tape, h.output, h.size, fun k hk => h.block k (by omega) (by omega) (by omega) (fun e => by have := hr k e; omega)⟩
end
/-- A disk and a log of it; all that is theirs lies from block base on. -/
structure Lg (w : World) (base p q : Nat) (r : Option Nat) (d : Pd) (l : Pl) : Prop where
  dk : Dk w base p r d
  at_ : LgAt w q p l
  low : base ≤ q
section
variable {w w' : World} {base p q : Nat} {r : Option Nat} {d : Pd} {l : Pl}
theorem Dk.at_ (h : Dk w base p r d) : ∃ c, w.heap[p]? = some (.cells c 42 (0, 0)) := by
  obtain ⟨v, _, _, _, _, hc⟩ := h
  exact ⟨_, hc⟩
theorem Dk.low_p (h : Dk w base p r d) : base ≤ p := by
  obtain ⟨v, _, h, _⟩ := h
  exact h
theorem Dk.lg_ne (h : Dk w base p r d) (hq : LgAt w q p l) : p ≠ q := by
  intro e
  subst e
  obtain ⟨c, hc⟩ := h.at_
  unfold LgAt at hq
  rw [hc] at hq
  have := Option.some.inj hq
  simp at this
theorem Dk.lg_row (h : Dk w base p r d) (hq : LgAt w q p l) : r ≠ some q := h.row_ne hq (by decide)
theorem Lg.ne (h : Lg w base p q r d l) : p ≠ q := h.dk.lg_ne h.at_
theorem Lg.below (h : Lg w base p q r d l) (hb : Below w.heap.size w w') : Lg w' base p q r d l := ⟨h.dk.below hb, heap_below h.at_ hb, h.low⟩
theorem Lg.low_of (h : Lg w base p q r d l) (k : Kl p q r w w') : Below base w w' := k.below h.dk.low_p h.low h.dk.base_le (fun _ e => (h.dk.row_lt e).1)
theorem lg_made (h : LgAt w q p l) : Calls Try.prog 25 #[.pointer (some ⟨q, 0, none⟩)] w fun e w' => e = .returned (.bool true) ∧ w = w' := by
  obtain ⟨⟨c0, c1, c2, c3, c4⟩, -⟩ := box5q h
  have hpe := lg_ptr ⟨q, 0, none⟩
  go_enter Try.func25, Try.ntmps25
  go_wp2_with fail
  go_ret
  exact ⟨rfl, rfl⟩
theorem lg_len (h : LgAt w q p l) : Calls Try.prog 8 #[.pointer (some ⟨q, 0, none⟩)] w fun e w' => e = .returned (.int .i64 (l.n : Int)) ∧ w = w' := by
  obtain ⟨⟨c0, c1, c2, c3, c4⟩, -⟩ := box5q h
  go_enter Try.func8, Try.ntmps8
  go_wp2_with fail
  refine (lg_made h).mono ?_
  rintro e w1 ⟨rfl, rfl⟩
  go_wp2_with fail
  go_ret
  exact ⟨rfl, rfl⟩
theorem lg_bytes (h : LgAt w q p l) : Calls Try.prog 9 #[.pointer (some ⟨q, 0, none⟩)] w fun e w' => e = .returned (.int .i64 (l.size : Int)) ∧ w = w' := by
  obtain ⟨⟨c0, c1, c2, c3, c4⟩, -⟩ := box5q h
  go_enter Try.func9, Try.ntmps9
  go_wp2_with fail
  refine (lg_made h).mono ?_
  rintro e w1 ⟨rfl, rfl⟩
  go_wp2_with fail
  go_ret
  exact ⟨rfl, rfl⟩
def takesE (l : Pl) (x : List Nat) : Nat := if x.length = 0 then 2 else if 1048576 < x.length then 3 else if l.shut = true then 15 else 0
theorem takes_any (v : Value) (x : List Nat) (h : LgAt w q p l) (hv : Bs w v x) : Calls Try.prog 27 #[.pointer (some ⟨q, 0, none⟩), v] w fun e w' => e = .returned (.int .i64 (takesE l x : Int)) ∧ w = w' := by
  obtain ⟨⟨c0, c1, c2, c3, c4⟩, -⟩ := box5q h
  obtain ⟨⟨A, c, rfl, -, -⟩, -⟩ := hv
  have HM := Lib.hid (lg_made h)
  unfold takesE
  by_cases h1 : x.length = 0
  · have t1 : ((x.length : Int) == 0) = true := by rw [h1]; rfl
    rw [if_pos h1]
    clear h1
    go_enter Try.func27, Try.ntmps27
    go_wp2_with fail
    refine HM.out.mono ?_
    rintro e w1 ⟨rfl, rfl⟩
    go_wp2_with fail
    go_ret
    exact ⟨rfl, rfl⟩
  · have t1 : ((x.length : Int) == 0) = false := beq_eq_false_iff_ne.2 (by omega)
    rw [if_neg h1]
    clear h1
    by_cases h2 : 1048576 < x.length
    · have t2 : decide ((1048576 : Int) < (x.length : Int)) = true := decide_eq_true (by omega)
      have t2' : decide (1048576 < x.length) = true := decide_eq_true h2
      rw [if_pos h2]
      clear h2
      go_enter Try.func27, Try.ntmps27
      go_wp2_with fail
      refine HM.out.mono ?_
      rintro e w1 ⟨rfl, rfl⟩
      go_wp2_with fail
      go_ret
      exact ⟨rfl, rfl⟩
    · have t2 : decide ((1048576 : Int) < (x.length : Int)) = false := decide_eq_false (by omega)
      have t2' : decide (1048576 < x.length) = false := decide_eq_false h2
      rw [if_neg h2]
      clear h2
      cases hs : l.shut with
      | true =>
        rw [hs] at c4
        go_enter Try.func27, Try.ntmps27
        go_wp2_with fail
        refine HM.out.mono ?_
        rintro e w1 ⟨rfl, rfl⟩
        go_wp2_with fail
        go_ret
        exact ⟨rfl, rfl⟩
      | false =>
        rw [hs] at c4
        go_enter Try.func27, Try.ntmps27
        go_wp2_with fail
        refine HM.out.mono ?_
        rintro e w1 ⟨rfl, rfl⟩
        go_wp2_with fail
        go_ret
        exact ⟨rfl, rfl⟩
theorem After.of_drew {d' : Pd} (h : After w.drew base p r d' w') : After w base p r d' w' := by
  obtain ⟨r', h1, h2, h3⟩ := h
  exact ⟨r', h1, ⟨h2.os, h2.tape, h2.output, h2.size, h2.block⟩, h3⟩
set_option maxHeartbeats 800000 in
theorem addF_any (bl bb : Nat) (vb : Value) (y : List Nat) (h : Lg w base p q r d l) (hv : Bs w vb y) (hbl : w.heap[bl]? = some (.cells #[.pointer (some ⟨q, 0, none⟩)] 29 (0, 0))) (hbb : w.heap[bb]? = some (.cells #[vb] 22 (0, 0))) :
    Calls Try.prog 30 #[.pointer (some ⟨bl, 0, none⟩), .pointer (some ⟨bb, 0, none⟩)] w fun e w' => e = .returned (.int .i64 ((d.app y).2 : Int)) ∧ After w base p r (d.app y).1 w' := by
  obtain ⟨⟨c0, c1, c2, c3, c4⟩, -⟩ := box5q h.at_
  have e0 := cell_of_one hbl
  have e1 := cell_of_one hbb
  have HA := Lib.hid (append_any vb y h.dk.drew hv.drew)
  go_enter Try.func30, Try.ntmps30
  go_wp2_with fail
  go_region_law (first | (go_simp; go_at_call 6; refine HA.out.mono ?_; rintro e w1 ⟨rfl, ha⟩) | (fail))
  all_goals
    go_wp2_with fail
    go_ret
    exact ⟨rfl, ha.of_drew⟩
end
end Go.Proofs.Ytcmopnkldplngaa
