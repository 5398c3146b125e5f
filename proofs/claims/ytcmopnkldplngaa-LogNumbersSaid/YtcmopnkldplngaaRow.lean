/- What the arguments of a law are told as, when it is called. -/
import Derived.Test.YtcmopnkldplngaaBs
import Derived.Test.YtcmopnkldplngaaRows
import Derived.ProofKit
import Derived.OpenShut
import Derived.ShutString
import Derived.ChangeOld
namespace Go.Proofs.Ytcmopnkldplngaa
open Go.RowKit

theorem knob_own : ownKnob Try.prog.godebug = none := by kernel_rfl
theorem laid_out : laidOutB Try.prog = true := by kernel_rfl

theorem wf_u64 {a : Int} (h : (Lit.int .u64 a).wf = true) : ∃ n : Nat, a = n ∧ n < 18446744073709551616 := by
  have h1 : IntKind.u64.min = 0 := rfl
  have h2 : IntKind.u64.max = 18446744073709551615 := rfl
  simp only [Lit.wf, Bool.and_eq_true, decide_eq_true_eq] at h
  exact ⟨a.toNat, by omega, by omega⟩
theorem wf_i64 {a : Int} (h : (Lit.int .i64 a).wf = true) : -9223372036854775808 ≤ a ∧ a ≤ 9223372036854775807 := by
  have h1 : IntKind.i64.min = -9223372036854775808 := rfl
  have h2 : IntKind.i64.max = 9223372036854775807 := rfl
  simp only [Lit.wf, Bool.and_eq_true, decide_eq_true_eq] at h
  omega
theorem wf_u8 {a : Int} (h : (Lit.int .u8 a).wf = true) : ∃ n : Nat, a = n ∧ n < 256 := by
  have h1 : IntKind.u8.min = 0 := rfl
  have h2 : IntKind.u8.max = 255 := rfl
  simp only [Lit.wf, Bool.and_eq_true, decide_eq_true_eq] at h
  exact ⟨a.toNat, by omega, by omega⟩

/-- A slice of integers that came in: its elements are zs. -/
structure Ints (k : IntKind) (w : World) (a : Option Addr) (n c : Nat) (zs : List Int) : Prop where
  len : zs.length = n
  cap : n ≤ c
  max : c ≤ maxLen
  at_ : At w w.heap.size a (zs.map (Value.int k))
  wf : ∀ z ∈ zs, (Lit.int k z).wf = true

theorem ints_nil (k : IntKind) (w : World) : Ints k w none 0 0 [] := ⟨rfl, Nat.le_refl _, by simp [maxLen], At.nil _ _ _, by simp⟩
theorem ints_some (k : IntKind) (w : World) (x : Addr) (l c : Nat) (zs : List Int) (hl : l ≤ c) (hm : c ≤ maxLen) (hz : zs.length = c) (hcell : ∀ i, i < zs.length → w.cell? (x.add i) = some (.int k (zs.getD i 0)))
    (hw : ∀ n ∈ zs, (Lit.int k n).wf = true) : Ints k w (some x) l c (zs.take l) := by
  refine ⟨by simp; omega, hl, hm, fun hn => ?_, fun z hz => hw z (List.mem_of_mem_take hz)⟩
  have hl0 : 0 < l := by
    rcases Nat.eq_zero_or_pos l with h | h
    · subst h
      simp at hn
    · exact h
  have h0 := hcell 0 (by omega)
  obtain ⟨b, o, s⟩ := x
  have hs : s = none := by simpa [Addr.add] using World.cell?_spot h0
  subst hs
  refine ⟨b, o, rfl, ?_, fun i v hv => ?_⟩
  · have := World.block_lt_of_cell? w _ h0
    simpa [Addr.add] using this
  · have hi : i < l := by
      have := (List.getElem?_eq_some_iff.1 hv).1
      simp at this
      omega
    have hc := hcell i (by omega)
    rw [Addr.add_lit] at hc
    rw [hc, ← hv]
    simp [hi, show i < zs.length by omega, List.getElem?_take_of_lt]
/-- Bytes that came in. -/
theorem Ints.bytes {w : World} {a : Option Addr} {n c : Nat} {zs : List Int} (h : Ints .u8 w a n c zs) : ∃ l : List Nat, l.length = n ∧ n ≤ c ∧ At w w.heap.size a (bv l) ∧ (∀ x ∈ l, x < 256) := by
  refine ⟨zs.map Int.toNat, by simp [h.len], h.cap, ?_, ?_⟩
  · have e : bv (zs.map Int.toNat) = zs.map (Value.int .u8) := by
      unfold bv
      rw [List.map_map]
      apply List.map_congr_left
      intro z hz
      obtain ⟨m, rfl, _⟩ := wf_u8 (h.wf z hz)
      simp
    rw [e]
    exact h.at_
  · intro x hx
    obtain ⟨z, hz, rfl⟩ := List.mem_map.1 hx
    obtain ⟨m, rfl, hm⟩ := wf_u8 (h.wf z hz)
    simpa using hm
end Go.Proofs.Ytcmopnkldplngaa
