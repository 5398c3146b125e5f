/- Package tree: a statement in a variable; body: the walk. -/
import Derived.Test.YtpakjjefbholdaaGreatDoorTl
namespace Go.Proofs.YtpakjjefbholdaaGreatDoor
open Go.RowKit
set_option linter.unusedVariables false

section
variable {w X : World} {g : Nat} {S : Nat → Prop} {nd : Nd} {v : Value}
theorem set1_heap_alloc (o : Obj) (i : Nat) (u : Value) {k : Nat} (hk : k ≠ g) : ((X.setCell ⟨g, i, none⟩ u).alloc o).heap[k]? = (X.alloc o).heap[k]? := by
  have hs : (X.setCell ⟨g, i, none⟩ u).heap.size = X.heap.size := by simp
  by_cases h1 : k < X.heap.size
  · rw [Below.heap_alloc _ o k (by omega), Below.heap_alloc _ o k h1]
    unfold World.setCell
    simp only [Array.getElem?_modify]
    rw [if_neg (fun e => hk e.symm)]
  · by_cases h2 : k = X.heap.size
    · subst h2
      rw [heap_new X o, ← hs]
      exact heap_new _ o
    · rw [Array.getElem?_eq_none (by simp; omega), Array.getElem?_eq_none (by simp; omega)]
theorem set1_cell_alloc (o : Obj) (i : Nat) (u : Value) {a : Addr} (ha : a.block ≠ g) : ((X.setCell ⟨g, i, none⟩ u).alloc o).cell? a = (X.alloc o).cell? a := by
  have := set1_heap_alloc (X := X) (i := i) (u := u) o ha
  unfold World.cell?
  rw [this]
theorem Rd.set1 (h : Rd X S nd v) (hS : ∀ b, S b → b ≠ g) (i : Nat) (u : Value) : Rd (X.setCell ⟨g, i, none⟩ u) S nd v := Rd.keep (fun a ha => cell_ne (hS _ ha)) (fun _ h => h) _ _ h
end
/-- Six cells of a variable, stored. -/
def P6 (X : World) (g : Nat) (z0 z1 z2 z3 z4 z5 : Value) : World := (((((X.setCell ⟨g, 0, none⟩ z0).setCell ⟨g, 1, none⟩ z1).setCell ⟨g, 2, none⟩ z2).setCell ⟨g, 3, none⟩ z3).setCell ⟨g, 4, none⟩ z4).setCell ⟨g, 5, none⟩ z5
def smZ : Obj := .cells #[.int .u8 0, .string ⟨#[]⟩, .slice none 0 0, .slice none 0 0, .slice none 0 0, .int .i64 0] 58
section
variable {w0 : World} {T : List Nat} {R : Ru} {q : Nat}
/-- Which blocks a variable's parts may lie in. -/
def Sg (w X : World) (g0 g3 : Nat) : Nat → Prop := fun b => Nw w X b ∧ b ≠ g0 ∧ b ≠ g3
/-- A variable that holds a statement, beside the variable for the result. -/
structure StAt (w X : World) (g0 g3 : Nat) (k : Nat) (s : List Nat) (x : List Ex) (b c : List Sm) (ln : Nat) (yx yb yc : Value) : Prop where
  e : X.heap[g3]? = some (.cells #[.int .u8 (k : Int), .string (strOf s), yx, yb, yc, .int .i64 (ln : Int)] 58 (0, 0))
  z : X.heap[g0]? = some (.cells #[.int .u8 0, .string ⟨#[]⟩, .slice none 0 0, .slice none 0 0, .slice none 0 0, .int .i64 0] 58 (0, 0))
  rx : Rd X (Sg w X g0 g3) (.row 4 (x.map Ex.nd)) yx
  rb : Rd X (Sg w X g0 g3) (.row 6 (b.map Sm.nd)) yb
  rc : Rd X (Sg w X g0 g3) (.row 6 (c.map Sm.nd)) yc
  ok : Sok s
section
variable {w X Y : World} {g0 g3 : Nat} {k : Nat} {s : List Nat} {x : List Ex} {b c : List Sm} {ln : Nat} {yx yb yc : Value}
theorem Sg.keep (hk : Kp q X Y) (hq : q < w.heap.size) {nd : Nd} {v : Value} (h : Rd X (Sg w X g0 g3) nd v) : Rd Y (Sg w Y g0 g3) nd v :=
  Rd.keep (fun p hp => hk.cellq hp.1.2 (by have := hp.1.1; omega)) (fun b hb => ⟨⟨hb.1.1, Nat.lt_of_lt_of_le hb.1.2 hk.size⟩, hb.2⟩) _ _ h
theorem StAt.kp (h : StAt w X g0 g3 k s x b c ln yx yb yc) (hk : Kp q X Y) (hq : q < w.heap.size) (h0 : g0 ≠ q) (h3 : g3 ≠ q) : StAt w Y g0 g3 k s x b c ln yx yb yc :=
  ⟨hk.heap h.e h3, hk.heap h.z h0, Sg.keep hk hq h.rx, Sg.keep hk hq h.rb, Sg.keep hk hq h.rc, h.ok⟩
theorem Sg.set (i : Nat) (u : Value) {nd : Nd} {v : Value} (h : Rd X (Sg w X g0 g3) nd v) : Rd (X.setCell ⟨g3, i, none⟩ u) (Sg w (X.setCell ⟨g3, i, none⟩ u) g0 g3) nd v :=
  Rd.keep (fun _ _ => rfl) (fun b hb => ⟨⟨hb.1.1, by simpa using hb.1.2⟩, hb.2⟩) _ _ (h.set1 (fun b hb => hb.2.2) i u)
theorem Sg.seto (o : Obj) (i : Nat) (u : Value) {nd : Nd} {v : Value} (h : Rd (X.alloc o) (Sg w (X.alloc o) g0 g3) nd v) : Rd ((X.setCell ⟨g3, i, none⟩ u).alloc o) (Sg w ((X.setCell ⟨g3, i, none⟩ u).alloc o) g0 g3) nd v :=
  Rd.keep (fun p hp => set1_cell_alloc o i u hp.2.2) (fun b hb => ⟨⟨hb.1.1, by simpa using hb.1.2⟩, hb.2⟩) _ _ h
theorem Sg.alloc (o : Obj) {nd : Nd} {v : Value} (h : Rd X (Sg w X g0 g3) nd v) : Rd (X.alloc o) (Sg w (X.alloc o) g0 g3) nd v :=
  Rd.keep (fun p hp => ((Below.refl _ X).alloc (Nat.le_refl _) o).cell hp.1.2) (fun b hb => ⟨⟨hb.1.1, by have := hb.1.2; simp; omega⟩, hb.2⟩) _ _ h
theorem Sg.of {b' : World} {nd : Nd} {v : Value} (h : Rd X (Nw b' X) nd v) (hw : w.heap.size ≤ b'.heap.size) (h0 : g0 < b'.heap.size) (h3 : g3 < b'.heap.size) : Rd X (Sg w X g0 g3) nd v :=
  Rd.keep (fun _ _ => rfl) (fun k hk => ⟨⟨Nat.le_trans hw hk.1, hk.2⟩, by have := hk.1; omega, by have := hk.1; omega⟩) _ _ h
theorem StAt.alloc (h : StAt w X g0 g3 k s x b c ln yx yb yc) (o : Obj) : StAt w (X.alloc o) g0 g3 k s x b c ln yx yb yc := ⟨heap_old h.e o, heap_old h.z o, Sg.alloc o h.rx, Sg.alloc o h.rb, Sg.alloc o h.rc, h.ok⟩
theorem StAt.setK (h : StAt w X g0 g3 k s x b c ln yx yb yc) (hn : g0 ≠ g3) (k' : Nat) : StAt w (X.setCell ⟨g3, 0, none⟩ (.int .u8 (k' : Int))) g0 g3 k' s x b c ln yx yb yc :=
  ⟨by simpa using heap_set h.e 0 (.int .u8 (k' : Int)), heap_set_ne h.z hn _ _, Sg.set _ _ h.rx, Sg.set _ _ h.rb, Sg.set _ _ h.rc, h.ok⟩
theorem StAt.setS (h : StAt w X g0 g3 k s x b c ln yx yb yc) (hn : g0 ≠ g3) (s' : List Nat) (hs : Sok s') : StAt w (X.setCell ⟨g3, 1, none⟩ (.string (strOf s'))) g0 g3 k s' x b c ln yx yb yc :=
  ⟨by simpa using heap_set h.e 1 (.string (strOf s')), heap_set_ne h.z hn _ _, Sg.set _ _ h.rx, Sg.set _ _ h.rb, Sg.set _ _ h.rc, hs⟩
theorem StAt.setX (h : StAt w X g0 g3 k s x b c ln yx yb yc) (hn : g0 ≠ g3) {x' : List Ex} {y : Value} (hx : Rd X (Sg w X g0 g3) (.row 4 (x'.map Ex.nd)) y) : StAt w (X.setCell ⟨g3, 2, none⟩ y) g0 g3 k s x' b c ln y yb yc :=
  ⟨by simpa using heap_set h.e 2 y, heap_set_ne h.z hn _ _, Sg.set _ _ hx, Sg.set _ _ h.rb, Sg.set _ _ h.rc, h.ok⟩
theorem StAt.setXo (h : StAt w X g0 g3 k s x b c ln yx yb yc) (hn : g0 ≠ g3) (o : Obj) {x' : List Ex} {y : Value} (hx : Rd (X.alloc o) (Sg w (X.alloc o) g0 g3) (.row 4 (x'.map Ex.nd)) y) : StAt w ((X.setCell ⟨g3, 2, none⟩ y).alloc o) g0 g3 k s x' b c ln y yb yc :=
  ⟨heap_old (by simpa using heap_set h.e 2 y) o, heap_old (heap_set_ne h.z hn _ _) o, Sg.seto o _ _ hx, Sg.seto o _ _ (Sg.alloc o h.rb), Sg.seto o _ _ (Sg.alloc o h.rc), h.ok⟩
theorem StAt.setB (h : StAt w X g0 g3 k s x b c ln yx yb yc) (hn : g0 ≠ g3) {b' : List Sm} {y : Value} (hx : Rd X (Sg w X g0 g3) (.row 6 (b'.map Sm.nd)) y) : StAt w (X.setCell ⟨g3, 3, none⟩ y) g0 g3 k s x b' c ln yx y yc :=
  ⟨by simpa using heap_set h.e 3 y, heap_set_ne h.z hn _ _, Sg.set _ _ h.rx, Sg.set _ _ hx, Sg.set _ _ h.rc, h.ok⟩
theorem StAt.setC (h : StAt w X g0 g3 k s x b c ln yx yb yc) (hn : g0 ≠ g3) {c' : List Sm} {y : Value} (hx : Rd X (Sg w X g0 g3) (.row 6 (c'.map Sm.nd)) y) : StAt w (X.setCell ⟨g3, 4, none⟩ y) g0 g3 k s x b c' ln yx yb y :=
  ⟨by simpa using heap_set h.e 4 y, heap_set_ne h.z hn _ _, Sg.set _ _ h.rx, Sg.set _ _ h.rb, Sg.set _ _ hx, h.ok⟩
/-- One store into the variable: the parser is as it was. -/
theorem Cx.one {p0 p : Pst} (h0 : Cx w0 T R q w p0) (hc : Cx w0 T R q X p) (hk : Kp q w X) (hg : w.heap.size ≤ g3) (i : Nat) (v : Value) : Cx w0 T R q (X.setCell ⟨g3, i, none⟩ v) p ∧ Kp q w (X.setCell ⟨g3, i, none⟩ v) := by
  have := h0.lt
  have hk' := hk.setNew (p := ⟨g3, i, none⟩) hg v
  exact ⟨h0.on hk' (heap_set_ne hc.hp (by omega) i v) hc.ok, hk'⟩
/-- The end: the statement is stored in the result's variable, and told. -/
theorem endS {p0 p : Pst} (h0 : Cx w0 T R q w p0) (hc : Cx w0 T R q X p) (hk : Kp q w X) (hg : w.heap.size ≤ g0) (h : StAt w X g0 g3 k s x b c ln yx yb yc) :
    OutX w0 T R q w (Sm.nd (.mk k s x b c ln)) p (.returned (.agg #[.int .u8 (k : Int), .string (strOf s), yx, yb, yc, .int .i64 (ln : Int)])) (P6 X g0 (.int .u8 (k : Int)) (.string (strOf s)) yx yb yc (.int .i64 (ln : Int))) := by
  have hcell : ∀ a : Addr, a.block ≠ g0 → (P6 X g0 (.int .u8 (k : Int)) (.string (strOf s)) yx yb yc (.int .i64 (ln : Int))).cell? a = X.cell? a := fun a ha => by
    unfold P6
    rw [cell_ne ha, cell_ne ha, cell_ne ha, cell_ne ha, cell_ne ha, cell_ne ha]
  have hsz : (P6 X g0 (.int .u8 (k : Int)) (.string (strOf s)) yx yb yc (.int .i64 (ln : Int))).heap.size = X.heap.size := by unfold P6; simp
  have key : ∀ {nd : Nd} {v : Value}, Rd X (Sg w X g0 g3) nd v → Rd (P6 X g0 (.int .u8 (k : Int)) (.string (strOf s)) yx yb yc (.int .i64 (ln : Int))) (Nw w (P6 X g0 (.int .u8 (k : Int)) (.string (strOf s)) yx yb yc (.int .i64 (ln : Int)))) nd v := fun h =>
    Rd.keep (fun a ha => hcell a ha.2.1) (fun b hb => ⟨hb.1.1, by rw [hsz]; exact hb.1.2⟩) _ _ h
  have c1 := Cx.one h0 hc hk hg 0 (.int .u8 (k : Int))
  have c2 := Cx.one h0 c1.1 c1.2 hg 1 (.string (strOf s))
  have c3 := Cx.one h0 c2.1 c2.2 hg 2 yx
  have c4 := Cx.one h0 c3.1 c3.2 hg 3 yb
  have c5 := Cx.one h0 c4.1 c4.2 hg 4 yc
  have c6 := Cx.one h0 c5.1 c5.2 hg 5 (.int .i64 (ln : Int))
  exact ⟨_, rfl, (Sm.rd k s x b c ln _).2 ⟨yx, yb, yc, rfl, h.ok.1, by have := h.ok.2; omega, key h.rx, key h.rb, key h.rc⟩, c6.1, c6.2⟩
end
theorem stmt_info : (Tryz.prog.info? 58).map (fun i => (i.zero, i.size, i.bytes)) = some (some (.agg #[.int .u8 0, .string ⟨#[]⟩, .slice none 0 0, .slice none 0 0, .slice none 0 0, .int .i64 0]), 6, 104) := by kernel_rfl
end
end Go.Proofs.YtpakjjefbholdaaGreatDoor
