/- Values in memory: what reads as a tree; and calls that write to one block of those there were. -/
import Derived.Test.YtfobmlicmbelnaaDoorVc
import Derived.Deep.MidRow
namespace Go.Proofs.YtfobmlicmbelnaaDoor
open Go.RowKit

/-- All blocks but b are as they were. -/
def Kp (b : Nat) (w w' : World) : Prop := w.grownBy w' (some b)
section
variable {b B : Nat} {a w w' : World}
theorem Kp.refl (b : Nat) (w : World) : Kp b w w := World.grownBy.refl w _
theorem Kp.trans (h : Kp b a w) (k : Kp b w w') : Kp b a w' :=
  ⟨k.os.trans h.os, k.tape.trans h.tape, k.output.trans h.output, Nat.le_trans h.size k.size, fun i hi hb => (k.block i (Nat.lt_of_lt_of_le hi h.size) hb).trans (h.block i hi hb)⟩
theorem Kp.of_below (h : Below w.heap.size w w') : Kp b w w' := ⟨h.os, h.tape, h.output, h.size, fun k hk _ => h.block k hk⟩
theorem Kp.alloc (h : Kp b a w) (o : Obj) : Kp b a (w.alloc o) := h.trans (Kp.of_below ((Below.refl _ _).alloc (Nat.le_refl _) o))
theorem Kp.drew (h : Kp b a w) : Kp b a w.drew := ⟨h.os, h.tape, h.output, h.size, h.block⟩
theorem Kp.drewN (h : Kp b a w) (k : Nat) : Kp b a (w.drewN k) := ⟨h.os, h.tape, h.output, h.size, h.block⟩
theorem Kp.set (h : Kp b a w) {p : Addr} (hp : p.block = b) (v : Value) : Kp b a (w.setCell p v) :=
  h.trans ⟨rfl, rfl, rfl, by simp [World.setCell], fun k _ hk => Below.heap_setCell _ _ _ _ (fun e => hk (by rw [e, hp]))⟩
theorem Kp.setNew (h : Kp b a w) {p : Addr} (hp : a.heap.size ≤ p.block) (v : Value) : Kp b a (w.setCell p v) :=
  ⟨h.os, h.tape, h.output, by have := h.size; simp [World.setCell]; exact this, fun k hk hb => (Below.heap_setCell _ _ _ _ (by omega)).trans (h.block k hk hb)⟩
theorem Kp.below (h : Kp b a w) (hb : B ≤ b) (hs : B ≤ a.heap.size) : Below B a w :=
  ⟨h.os, h.tape, h.output, h.size, fun k hk => h.block k (by omega) (fun e => by have := Option.some.inj e; omega)⟩
theorem Kp.heap (h : Kp b a w) {k : Nat} {o : Obj} (hk : a.heap[k]? = some o) (hb : k ≠ b) : w.heap[k]? = some o :=
  (h.block k (Array.getElem?_eq_some_iff.1 hk).1 (fun e => hb (Option.some.inj e))).trans hk
theorem Kp.cell (h : Kp b a w) {p : Addr} {v : Value} (hk : a.cell? p = some v) (hb : p.block ≠ b) : w.cell? p = some v := World.grownBy.cell h hk (fun e => hb (Option.some.inj e))
end

theorem heap_new (w : World) (o : Obj) : (w.alloc o).heap[w.heap.size]? = some o := heap_alloc_new w o
theorem heap_old {w : World} {k : Nat} {x : Obj} (h : w.heap[k]? = some x) (o : Obj) : (w.alloc o).heap[k]? = some x :=
  (Below.heap_alloc w o k (Array.getElem?_eq_some_iff.1 h).1).trans h
theorem lt_heap {w : World} {k : Nat} {x : Obj} (h : w.heap[k]? = some x) : k < w.heap.size := (Array.getElem?_eq_some_iff.1 h).1

/-- The value v reads as the tree, in memory of blocks of S. -/
inductive RepS (w : World) (S : Nat → Prop) : Value → Va → Prop
  | mk (k : Nat) (n : Int) (s : List Nat) (A : Option Addr) (c : Nat) (l : List Va) (x : Nat → Value) (hk : k < 256) (hn0 : -9223372036854775808 ≤ n) (hn1 : n ≤ 9223372036854775807)
      (hs : ∀ y ∈ s, y < 256) (hsl : s.length ≤ 9223372036854775807) (hc : l.length ≤ c) (hcm : c ≤ 9223372036854775807)
      (hm : ∀ i, i < l.length → ∃ b o y0 y1 y2 y3, A = some ⟨b, o, none⟩ ∧ S b ∧ x i = .agg #[y0, y1, y2, y3] ∧ w.rangeAt b (o + i * 4) [y0, y1, y2, y3])
      (hr : ∀ i t, l[i]? = some t → RepS w S (x i) t) : RepS w S (.agg #[.int .u8 (k : Int), .int .i64 n, .string (strOf s), .slice A l.length c]) (.mk k n s l)
/-- .. in memory below block B. -/
abbrev Rep (w : World) (B : Nat) : Value → Va → Prop := RepS w (fun b => b < B)

section
variable {w w' : World} {S S' : Nat → Prop} {B B' : Nat} {v : Value} {t : Va}
theorem RepS.keep (h : RepS w S v t) (hk : ∀ p : Addr, S p.block → w'.cell? p = w.cell? p) : RepS w' S v t := by
  induction h with
  | mk k n s A c l x hk8 hn0 hn1 hs hsl hc hcm hm hr ih =>
    refine RepS.mk k n s A c l x hk8 hn0 hn1 hs hsl hc hcm (fun i hi => ?_) ih
    obtain ⟨b, o, y0, y1, y2, y3, h1, h2, h3, h4⟩ := hm i hi
    exact ⟨b, o, y0, y1, y2, y3, h1, h2, h3, fun j u hu => (hk _ h2).trans (h4 j u hu)⟩
theorem RepS.wider (h : RepS w S v t) (hS : ∀ b, S b → S' b) : RepS w S' v t := by
  induction h with
  | mk k n s A c l x hk8 hn0 hn1 hs hsl hc hcm hm hr ih =>
    refine RepS.mk k n s A c l x hk8 hn0 hn1 hs hsl hc hcm (fun i hi => ?_) ih
    obtain ⟨b, o, y0, y1, y2, y3, h1, h2, h3, h4⟩ := hm i hi
    exact ⟨b, o, y0, y1, y2, y3, h1, hS _ h2, h3, h4⟩
theorem RepS.under (h : Rep w B v t) (hb : Below B w w') : Rep w' B v t := RepS.keep h fun _ hp => hb.cell hp
theorem RepS.ok (h : RepS w S v t) : ∀ L, Ok L t := by
  induction h with
  | mk k n s A c l x hk8 hn0 hn1 hs hsl hc hcm hm hr ih =>
    intro L
    cases L with
    | zero => trivial
    | succ L =>
      refine ⟨hk8, hn0, hn1, hs, fun t ht => ?_⟩
      obtain ⟨i, hi, rfl⟩ := List.mem_iff_getElem.1 ht
      exact ih i _ (List.getElem?_eq_getElem hi) L
theorem RepS.form (h : RepS w S v t) : ∃ y0 y1 y2 y3, v = .agg #[y0, y1, y2, y3] := by
  cases h
  exact ⟨_, _, _, _, rfl⟩
end
/-- A list of values in memory. -/
def RepsS (w : World) (S : Nat → Prop) (A : Option Addr) (l : List Va) : Prop :=
  ∃ x : Nat → Value, (∀ i, i < l.length → ∃ b o y0 y1 y2 y3, A = some ⟨b, o, none⟩ ∧ S b ∧ x i = .agg #[y0, y1, y2, y3] ∧ w.rangeAt b (o + i * 4) [y0, y1, y2, y3]) ∧ ∀ i t, l[i]? = some t → RepS w S (x i) t
abbrev Reps (w : World) (B : Nat) : Option Addr → List Va → Prop := RepsS w (fun b => b < B)
theorem RepS.parts {w : World} {S : Nat → Prop} {y0 y1 y2 y3 : Value} {k : Nat} {n : Int} {s : List Nat} {l : List Va} (h : RepS w S (.agg #[y0, y1, y2, y3]) (.mk k n s l)) :
    ∃ A c, y0 = .int .u8 (k : Int) ∧ y1 = .int .i64 n ∧ y2 = .string (strOf s) ∧ y3 = .slice A l.length c ∧ k < 256 ∧ -9223372036854775808 ≤ n ∧ n ≤ 9223372036854775807 ∧ (∀ y ∈ s, y < 256) ∧ s.length ≤ 9223372036854775807 ∧ l.length ≤ c ∧ c ≤ 9223372036854775807 ∧ RepsS w S A l := by
  cases h with
  | mk k n s A c l x hk8 hn0 hn1 hs hsl hc hcm hm hr => exact ⟨A, c, rfl, rfl, rfl, rfl, hk8, hn0, hn1, hs, hsl, hc, hcm, x, hm, hr⟩
theorem RepsS.mk {w : World} {S : Nat → Prop} {A : Option Addr} {k : Nat} {n : Int} {s : List Nat} {l : List Va} {c : Nat} (h : RepsS w S A l) (hk : k < 256) (hn0 : -9223372036854775808 ≤ n) (hn1 : n ≤ 9223372036854775807)
    (hs : ∀ y ∈ s, y < 256) (hsl : s.length ≤ 9223372036854775807) (hc : l.length ≤ c) (hcm : c ≤ 9223372036854775807) : RepS w S (.agg #[.int .u8 (k : Int), .int .i64 n, .string (strOf s), .slice A l.length c]) (.mk k n s l) := by
  obtain ⟨x, h1, h2⟩ := h
  exact RepS.mk k n s A c l x hk hn0 hn1 hs hsl hc hcm h1 h2
section
variable {w w' : World} {S : Nat → Prop} {B B' : Nat} {A : Option Addr} {l : List Va}
theorem RepsS.nil (w : World) (S : Nat → Prop) (A : Option Addr) : RepsS w S A [] := ⟨fun _ => .nilIface, by simp, by simp⟩
theorem RepsS.keep (h : RepsS w S A l) (hk : ∀ p : Addr, S p.block → w'.cell? p = w.cell? p) : RepsS w' S A l := by
  obtain ⟨x, h1, h2⟩ := h
  refine ⟨x, fun i hi => ?_, fun i t ht => (h2 i t ht).keep hk⟩
  obtain ⟨b, o, y0, y1, y2, y3, h1, h2, h3, h4⟩ := h1 i hi
  exact ⟨b, o, y0, y1, y2, y3, h1, h2, h3, fun j u hu => (hk _ h2).trans (h4 j u hu)⟩
theorem RepsS.under (h : Reps w B A l) (hb : Below B w w') : Reps w' B A l := RepsS.keep h fun _ hp => hb.cell hp
/-- The part at place i. -/
theorem RepsS.at (h : RepsS w S A l) (i : Nat) (hi : i < l.length) : ∃ b o y0 y1 y2 y3, A = some ⟨b, o, none⟩ ∧ S b ∧ w.rangeAt b (o + i * 4) [y0, y1, y2, y3] ∧ RepS w S (.agg #[y0, y1, y2, y3]) l[i] := by
  obtain ⟨x, h1, h2⟩ := h
  obtain ⟨b, o, y0, y1, y2, y3, e1, e2, e3, e4⟩ := h1 i hi
  have := h2 i _ (List.getElem?_eq_getElem hi)
  rw [e3] at this
  exact ⟨b, o, y0, y1, y2, y3, e1, e2, e4, this⟩
end
/-- A struct's four cells, out of the block that holds just it. -/
theorem range_new (w : World) (y0 y1 y2 y3 : Value) (T : TypeId) (fr : Nat × Nat) {g : Nat} (h : w.heap[g]? = some (.cells #[y0, y1, y2, y3] T fr)) : w.rangeAt g 0 [y0, y1, y2, y3] := by
  intro j v hv
  have : w.cell? ⟨g, 0 + j, none⟩ = #[y0, y1, y2, y3][0 + j]? := by
    unfold World.cell?
    dsimp only
    rw [h]
    simp
  rw [this]
  simpa using hv
theorem value_size : (Tryd.prog.info? 25).map (·.size) = some 4 := by kernel_rfl
end Go.Proofs.YtfobmlicmbelnaaDoor
