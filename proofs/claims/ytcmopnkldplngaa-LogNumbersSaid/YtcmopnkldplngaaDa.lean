/- A disk as plain data: what chapter 4 says of each call. -/
import Derived.WalkKit
import Derived.Lib.Hide
namespace Go.Proofs.Ytcmopnkldplngaa
open Go.RowKit

/-- A disk: its bytes, of which the first syn are synced; perhaps armed. -/
structure Pd where
  most : Nat
  bs : List Nat
  syn : Nat
  armed : Bool
  left : Nat
  down : Bool

namespace Pd
/-- Which disks there are. -/
structure Ok (d : Pd) : Prop where
  syn : d.syn ≤ d.bs.length
  len : d.bs.length ≤ d.most
  most : d.most ≤ 67108864
  left : d.left ≤ 9223372036854775807
  byte : ∀ x ∈ d.bs, x < 256

def new (most : Nat) : Pd := ⟨most, [], 0, false, 0, false⟩
def fails (d : Pd) : Pd := { d with armed := false, down := true }
/-- One taken from an armed disk's number. -/
def less (d : Pd) : Pd := if d.armed = true then { d with left := d.left - 1 } else d
def op (d : Pd) (f : Pd → Pd) : Pd × Nat := if d.armed = true ∧ d.left = 0 then (d.fails, 15) else (f d.less, 0)
def put (l : List Nat) (d : Pd) : Pd := { d with bs := d.bs ++ l }
def all (d : Pd) : Pd := { d with syn := d.bs.length }
def leave (n : Nat) (d : Pd) : Pd := { d with bs := d.bs.take n, syn := n }
def app (d : Pd) (l : List Nat) : Pd × Nat := if d.down = true then (d, 15) else if d.most - d.bs.length < l.length then (d, 5) else d.op (put l)
def sync (d : Pd) : Pd × Nat := if d.down = true then (d, 15) else d.op all
def cut (d : Pd) (n : Int) : Pd × Nat := if d.down = true then (d, 15) else if n < 0 ∨ (d.bs.length : Int) < n then (d, 2) else d.op (leave n.toNat)
def read (d : Pd) : List Nat × Nat := if d.down = true then ([], 15) else (d.bs, 0)
def arm (d : Pd) (n : Int) : Pd := if d.down = true then d else { d with armed := true, left := n.toNat }
def kept (d : Pd) (keep : Int) : Nat := d.syn + min keep.toNat (d.bs.length - d.syn)
def crash (d : Pd) (keep : Int) : Pd := { d with bs := d.bs.take (d.kept keep), syn := d.kept keep, armed := false, down := false }

section
variable {d : Pd}
theorem Ok.new {m : Nat} (h : m ≤ 67108864) : Ok (new m) := ⟨Nat.le_refl _, Nat.zero_le _, h, by simp [Pd.new], by simp [Pd.new]⟩
theorem Ok.fails (h : Ok d) : Ok d.fails := ⟨h.syn, h.len, h.most, h.left, h.byte⟩
theorem Ok.less (h : Ok d) : Ok d.less := by
  unfold Pd.less
  split
  · exact ⟨h.syn, h.len, h.most, by have := h.left; show d.left - 1 ≤ _; omega, h.byte⟩
  · exact h
theorem less_bs (d : Pd) : d.less.bs = d.bs := by unfold less; split <;> rfl
theorem less_most (d : Pd) : d.less.most = d.most := by unfold less; split <;> rfl
theorem less_syn (d : Pd) : d.less.syn = d.syn := by unfold less; split <;> rfl
theorem less_down (d : Pd) : d.less.down = d.down := by unfold less; split <;> rfl
theorem Ok.put (h : Ok d) {l : List Nat} (hl : ¬ d.most - d.bs.length < l.length) (h8 : ∀ x ∈ l, x < 256) : Ok (d.put l) := by
  have := h.syn
  have := h.len
  refine ⟨?_, ?_, h.most, h.left, ?_⟩
  · show d.syn ≤ (d.bs ++ l).length
    rw [List.length_append]
    omega
  · show (d.bs ++ l).length ≤ d.most
    rw [List.length_append]
    omega
  · intro x hx
    rcases List.mem_append.1 (show x ∈ d.bs ++ l from hx) with h1 | h1
    · exact h.byte x h1
    · exact h8 x h1
theorem Ok.all (h : Ok d) : Ok d.all := ⟨Nat.le_refl _, h.len, h.most, h.left, h.byte⟩
theorem Ok.leave (h : Ok d) {n : Nat} (hn : n ≤ d.bs.length) : Ok (d.leave n) := by
  have := h.len
  have e : (d.bs.take n).length = n := by simp; omega
  refine ⟨?_, ?_, h.most, h.left, fun x hx => h.byte x (List.mem_of_mem_take hx)⟩
  · show n ≤ (d.bs.take n).length
    omega
  · show (d.bs.take n).length ≤ d.most
    omega
theorem kept_le (h : Ok d) (k : Int) : d.syn ≤ d.kept k ∧ d.kept k ≤ d.bs.length := by
  have := h.syn
  unfold kept
  omega
theorem Ok.crash (h : Ok d) (k : Int) : Ok (d.crash k) := by
  have := h.leave (kept_le h k).2
  exact ⟨this.syn, this.len, this.most, this.left, this.byte⟩
theorem Ok.arm (h : Ok d) {n : Int} (hn : n ≤ 9223372036854775807) : Ok (d.arm n) := by
  unfold Pd.arm
  split
  · exact h
  · exact ⟨h.syn, h.len, h.most, by show n.toNat ≤ _; omega, h.byte⟩
theorem Ok.app (h : Ok d) {l : List Nat} (h8 : ∀ x ∈ l, x < 256) : Ok (d.app l).1 := by
  unfold Pd.app
  split
  · exact h
  · split
    · exact h
    · unfold Pd.op
      split
      · exact h.fails
      · exact h.less.put (by rw [less_most, less_bs]; assumption) h8
theorem Ok.sync (h : Ok d) : Ok d.sync.1 := by
  unfold Pd.sync
  split
  · exact h
  · unfold Pd.op
    split
    · exact h.fails
    · exact h.less.all
theorem Ok.cut (h : Ok d) (n : Int) : Ok (d.cut n).1 := by
  unfold Pd.cut
  split
  · exact h
  · split
    · exact h
    · unfold Pd.op
      split
      · exact h.fails
      · exact h.less.leave (by rw [less_bs]; omega)
end
end Pd
end Go.Proofs.Ytcmopnkldplngaa
