/- Messages in memory. -/
import Derived.Test.YtjcefnlidophoaaGl3
namespace Go.Proofs.Ytjcefnlidophoaa
open Go.RowKit

/-- The value v is the message m, in memory of blocks of S. -/
def MRep (w : World) (S : Nat → Prop) (v : Value) (m : Ms) : Prop := MOk m ∧ ∃ An cn Av cv Ab cb, v = .agg #[.int .u8 (m.k : Int), .slice An m.nums.length cn, .slice Av m.vals.length cv, .slice Ab m.blobs.length cb] ∧
  m.nums.length ≤ cn ∧ m.vals.length ≤ cv ∧ m.blobs.length ≤ cb ∧ AtS w S An (zv m.nums) ∧ RepsS w S Av m.vals ∧ BlkS w S Ab m.blobs
theorem MRep.keep {w w' : World} {S S' : Nat → Prop} {v : Value} {m : Ms} (h : MRep w S v m) (hk : ∀ p : Addr, S p.block → w'.cell? p = w.cell? p) (hS : ∀ b, S b → S' b) : MRep w' S' v m := by
  obtain ⟨h0, An, cn, Av, cv, Ab, cb, rfl, h1, h2, h3, h4, h5, h6⟩ := h
  refine ⟨h0, An, cn, Av, cv, Ab, cb, rfl, h1, h2, h3, h4.keep hk hS, ?_, h6.keep hk hS⟩
  obtain ⟨x, k1, k2⟩ := h5.keep hk
  refine ⟨x, fun i hi => ?_, fun i t ht => (k2 i t ht).wider hS⟩
  obtain ⟨b, o, y0, y1, y2, y3, e1, e2, e3, e4⟩ := k1 i hi
  exact ⟨b, o, y0, y1, y2, y3, e1, hS b e2, e3, e4⟩
/-- Blocks from lo on are as they were. -/
structure Hi (lo : Nat) (w w' : World) : Prop where
  size : w.heap.size ≤ w'.heap.size
  block : ∀ k, lo ≤ k → k < w.heap.size → w'.heap[k]? = w.heap[k]?
section
variable {lo : Nat} {a w w' : World}
theorem Hi.refl (lo : Nat) (w : World) : Hi lo w w := ⟨Nat.le_refl _, fun _ _ _ => rfl⟩
theorem Hi.trans (h : Hi lo a w) (k : Hi lo w w') : Hi lo a w' := ⟨Nat.le_trans h.size k.size, fun i h1 h2 => (k.block i h1 (Nat.lt_of_lt_of_le h2 h.size)).trans (h.block i h1 h2)⟩
theorem Hi.below (hb : Below w.heap.size w w') : Hi lo w w' := ⟨hb.size, fun k _ h => hb.block k h⟩
theorem Hi.set (lo : Nat) (w : World) {g : Nat} (hg : g < lo) (i : Nat) (v : Value) : Hi lo w (w.setCell ⟨g, i, none⟩ v) := ⟨by simp [World.setCell], fun k h1 _ => Below.heap_setCell _ _ _ _ (show k ≠ g by omega)⟩
theorem Hi.cell (h : Hi lo w w') {p : Addr} (hp : lo ≤ p.block ∧ p.block < w.heap.size) : w'.cell? p = w.cell? p := cell_heap (h.block _ hp.1 hp.2)
theorem Hi.in (h : Hi lo w w') {b : Nat} (hb : lo ≤ b ∧ b < w.heap.size) : lo ≤ b ∧ b < w'.heap.size := ⟨hb.1, Nat.lt_of_lt_of_le hb.2 h.size⟩
theorem RepsS.keepS {w w' : World} {S S' : Nat → Prop} {A : Option Addr} {l : List Va} (h : RepsS w S A l) (hk : ∀ p : Addr, S p.block → w'.cell? p = w.cell? p) (hS : ∀ b, S b → S' b) : RepsS w' S' A l := by
  obtain ⟨x, k1, k2⟩ := h.keep hk
  refine ⟨x, fun i hi => ?_, fun i t ht => (k2 i t ht).wider hS⟩
  obtain ⟨b, o, y0, y1, y2, y3, e1, e2, e3, e4⟩ := k1 i hi
  exact ⟨b, o, y0, y1, y2, y3, e1, hS b e2, e3, e4⟩
end
def zeroM : Value := .agg #[.int .u8 0, .slice none 0 0, .slice none 0 0, .slice none 0 0]
def mget (l : List Nat) : Except Nat Ms := if 1048576 < l.length then .error 3 else if (us l).2 ≠ 0 then .error (us l).2 else mdec (us l).1
def OutMsg (r : Except Nat Ms) (w : World) (e : Ending) (w' : World) : Prop := Below w.heap.size w w' ∧ match r with
  | .error er => e = .returned (.tuple #[zeroM, .int .i64 ((er : Nat) : Int)])
  | .ok m => ∃ v, e = .returned (.tuple #[v, .int .i64 0]) ∧ MRep w' (fun b => w.heap.size ≤ b ∧ b < w'.heap.size) v m
theorem bel4 {w W : World} {B g : Nat} (h : Below B w W) (hg : B ≤ g) (z0 z1 z2 z3 : Value) : Below B w ((((W.setCell ⟨g, 0, none⟩ z0).setCell ⟨g, 1, none⟩ z1).setCell ⟨g, 2, none⟩ z2).setCell ⟨g, 3, none⟩ z3) :=
  (((h.setCell hg _).setCell hg _).setCell hg _).setCell hg _
/-- The result's cells are stored, and told. -/
theorem retM {w X : World} {g : Nat} {y0 y1 y2 y3 : Value} {r : Except Nat Ms} {a : Act} {z0 z1 z2 z3 : Value} (er : Nat) (q : X.heap[g]? = some (.cells #[y0, y1, y2, y3] 26 (0, 0))) (hb : Below w.heap.size w X) (hg : w.heap.size ≤ g)
    (h2 : a.tmps[2]?.getD undef = .pointer (some ⟨g, 0, none⟩)) (h3 : a.tmps[3]?.getD undef = .int .i64 (er : Int)) (hd : a.defers = [])
    (hr : ∀ Z : World, Below w.heap.size w Z → Z = ((((X.setCell ⟨g, 0, none⟩ z0).setCell ⟨g, 1, none⟩ z1).setCell ⟨g, 2, none⟩ z2).setCell ⟨g, 3, none⟩ z3) → OutMsg r w (.returned (.tuple #[.agg #[z0, z1, z2, z3], .int .i64 (er : Int)])) Z) :
    bodyPost Try.prog Try.f19 (OutMsg r w) Exit.ret a ((((X.setCell ⟨g, 0, none⟩ z0).setCell ⟨g, 1, none⟩ z1).setCell ⟨g, 2, none⟩ z2).setCell ⟨g, 3, none⟩ z3) := by
  have p := set4 q z0 z1 z2 z3
  obtain ⟨⟨c0, c1, c2, c3⟩, -⟩ := box4f p
  exact bodyPost_ret (v := .tuple #[.agg #[z0, z1, z2, z3], .int .i64 (er : Int)]) (by simp [results, Try.results19, go_sem, h2, h3, c0, c1, c2, c3]) hd (hr _ (bel4 hb hg _ _ _ _) rfl)
end Go.Proofs.Ytjcefnlidophoaa
