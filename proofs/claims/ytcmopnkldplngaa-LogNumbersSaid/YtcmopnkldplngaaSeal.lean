/- drover/bytes.Seal, Unseal: the walks. -/
import Derived.Test.YtcmopnkldplngaaCrc
import Derived.Test.YtcmopnkldplngaaNum
namespace Go.Proofs.Ytcmopnkldplngaa
open Go.RowKit

def be4 (s : Nat) : List Nat := [s / 16777216, s / 65536 % 256, s / 256 % 256, s % 256]

theorem At.be4 (w : World) (s : Nat) (t : TypeId) : At (w.alloc (.cells #[.int .u8 ((s : Int) / 16777216), .int .u8 ((s : Int) / 65536 % 256), .int .u8 ((s : Int) / 256 % 256), .int .u8 ((s : Int) % 256)] t)) (w.heap.size + 1) (some ⟨w.heap.size, 0, none⟩) (bv (be4 s)) := by
  have := At.made w #[.int .u8 ((s : Int) / 16777216), .int .u8 ((s : Int) / 65536 % 256), .int .u8 ((s : Int) / 256 % 256), .int .u8 ((s : Int) % 256)] t
  have e : bv (Go.Proofs.Ytcmopnkldplngaa.be4 s) = [.int .u8 ((s : Int) / 16777216), .int .u8 ((s : Int) / 65536 % 256), .int .u8 ((s : Int) / 256 % 256), .int .u8 ((s : Int) % 256)] := by
    simp [bv, Go.Proofs.Ytcmopnkldplngaa.be4]
  rw [e]
  exact this

/-- The number of bytes, the highest first. -/
def beN (l : List Nat) : Nat := l.foldl (fun a x => a * 256 + x) 0
theorem beN_lt (l : List Nat) (h8 : ∀ x ∈ l, x < 256) : beN l < 256 ^ l.length := by
  have all : ∀ (l : List Nat) (a : Nat), (∀ x ∈ l, x < 256) → l.foldl (fun a x => a * 256 + x) a < (a + 1) * 256 ^ l.length := by
    intro l
    induction l with
    | nil => intro a _; simp
    | cons x l ih =>
      intro a h
      have hx := h x (by simp)
      have := ih (a * 256 + x) (fun y hy => h y (List.mem_cons_of_mem _ hy))
      rw [List.foldl_cons, List.length_cons, Nat.pow_succ]
      refine Nat.lt_of_lt_of_le this ?_
      rw [Nat.mul_comm (256 ^ l.length) 256, ← Nat.mul_assoc]
      exact Nat.mul_le_mul_right _ (by omega)
  have := all l 0 h8
  simpa [beN] using this
theorem beN_step (l : List Nat) (k : Nat) (h : 4 ≤ l.length) (hk : k < 4) : beN ((l.drop (l.length - 4)).take (k + 1)) = beN ((l.drop (l.length - 4)).take k) * 256 + l.getD (l.length - 4 + k) 0 := by
  have h1 : k < (l.drop (l.length - 4)).length := by simp; omega
  rw [List.take_succ_eq_append_getElem h1]
  unfold beN
  rw [List.foldl_append]
  simp [show l.length - 4 + k < l.length by omega]
/-- Unseal's answer. -/
def us (l : List Nat) : List Nat × Nat := if l.length < 4 then ([], 11) else if beN (l.drop (l.length - 4)) = crcN (l.take (l.length - 4)) then (l.take (l.length - 4), 0) else ([], 12)
def UsPost (r : List Nat × Nat) (w : World) (e : Ending) (w' : World) : Prop := ∃ v, e = .returned (.tuple #[v, .int .i64 (r.2 : Int)]) ∧ Own w' w.heap.size v r.1 ∧ Below w.heap.size w w'

end Go.Proofs.Ytcmopnkldplngaa
