/- What a call at one end leaves as it was; a row of an end that grows. -/
import Derived.Test.YtjhopajhcmkllaaOa
namespace Go.Proofs.Ytjhopajhcmkllaa
open Go.RowKit
set_option linter.unusedVariables false

/-- A call at one end: all but the array, its session and its rows is as it was; its rows are elder ones, or new. -/
structure Fr (g : Nat) (x : En) (w w' : World) (x' : En) : Prop where
  os : w'.os = w.os
  tape : w'.tape = w.tape
  output : w'.output = w.output
  size : w.heap.size ≤ w'.heap.size
  block : ∀ k, k < w.heap.size → k ≠ g → k ≠ x.q → x.r ≠ some k → (∀ u ∈ x.rows, u.ownBlock ≠ some k) → w'.heap[k]? = w.heap[k]?
  q : x'.q = x.q ∨ w.heap.size ≤ x'.q
  r : Rw w x.r x'.r ∨ (∀ j, x'.r = some j → w.heap.size ≤ j)
  rows : ∀ u' ∈ x'.rows, (∃ u ∈ x.rows, u'.ownBlock = u.ownBlock) ∨ (∀ j, u'.ownBlock = some j → w.heap.size ≤ j)
section
variable {w w' w'' : World} {B g o : Nat} {x x' x'' y : En}
theorem Fr.refl (g : Nat) (x : En) (w : World) : Fr g x w w x := ⟨rfl, rfl, rfl, Nat.le_refl _, fun _ _ _ _ _ _ => rfl, .inl rfl, .inl (.inl rfl), fun u hu => .inl ⟨u, hu, rfl⟩⟩
theorem Fr.trans (h : Fr g x w w' x') (k : Fr g x' w' w'' x'') : Fr g x w w'' x'' := by
  have hs := h.size
  refine ⟨k.os.trans h.os, k.tape.trans h.tape, k.output.trans h.output, Nat.le_trans hs k.size, fun j hj h1 h2 h3 h4 => ?_, ?_, ?_, fun u hu => ?_⟩
  · refine (k.block j (by omega) h1 ?_ ?_ (fun u hu e => ?_)).trans (h.block j hj h1 h2 h3 h4)
    · rcases h.q with e | e
      · rw [e]; exact h2
      · omega
    · intro e
      rcases h.r with (e1 | ⟨i, e1, e2⟩) | e1
      · exact h3 (e1 ▸ e)
      · rw [e1] at e; have := Option.some.inj e; omega
      · have := e1 j e; omega
    · rcases h.rows u hu with ⟨v, hv, e1⟩ | e1
      · exact h4 v hv (e1 ▸ e)
      · have := e1 j e; omega
  · rcases k.q with e | e
    · rw [e]; exact h.q
    · exact .inr (by omega)
  · rcases k.r with (e | ⟨i, e1, e2⟩) | e
    · rw [e]; exact h.r
    · exact .inr (fun j hj => by rw [e1] at hj; have := Option.some.inj hj; omega)
    · exact .inr (fun j hj => by have := e j hj; omega)
  · rcases k.rows u hu with ⟨v, hv, e1⟩ | e1
    · rw [e1]; exact h.rows v hv
    · exact .inr (fun j hj => by have := e1 j hj; omega)
theorem Fr.of_below (hb : Below w.heap.size w w') : Fr g x w w' x := ⟨hb.os, hb.tape, hb.output, hb.size, fun k hk _ _ _ _ => hb.block k hk, .inl rfl, .inl (.inl rfl), fun u hu => .inl ⟨u, hu, rfl⟩⟩
theorem Fr.drew (h : Fr g x w w' x') : Fr g x w w'.drew x' := ⟨h.os, h.tape, h.output, h.size, h.block, h.q, h.r, h.rows⟩
theorem Fr.sess {r1 : Option Nat} {p1 : Se} (hk : Kr x.q x.r w w') (hw : Rw w x.r r1) : Fr g x w w' { x with r := r1, e := { x.e with p := p1 } } :=
  ⟨hk.os, hk.tape, hk.output, hk.size, fun k h1 _ h2 h3 _ => hk.block k h1 h2 h3, .inl rfl, .inl hw, fun u hu => .inl ⟨u, hu, rfl⟩⟩
theorem Fr.grow {u : Value} (hg : w.grownBy w' u.ownBlock) (hu : u ∈ x.rows) : Fr g x w w' x :=
  ⟨hg.os, hg.tape, hg.output, hg.size, fun k h1 _ _ _ h4 => hg.block k h1 (fun e => h4 u hu e.symm), .inl rfl, .inl (.inl rfl), fun u hu => .inl ⟨u, hu, rfl⟩⟩
/-- A store to the array, which gives an end other rows, that are elder ones or new. -/
theorem Fr.store (i : Nat) (v : Value) (hq : x'.q = x.q ∨ w.heap.size ≤ x'.q) (hr : Rw w x.r x'.r ∨ (∀ j, x'.r = some j → w.heap.size ≤ j)) (hv : ∀ u' ∈ x'.rows, (∃ u ∈ x.rows, u'.ownBlock = u.ownBlock) ∨ (∀ j, u'.ownBlock = some j → w.heap.size ≤ j)) : Fr g x w (w.setCell ⟨g, i, none⟩ v) x' :=
  ⟨rfl, rfl, rfl, by simp [World.setCell], fun k _ h1 _ _ _ => Below.heap_setCell _ _ _ _ h1, hq, hr, hv⟩
theorem Fr.low (h : Arena w B g o x y) (k : Fr g x w w' x') : Below B w w' := by
  have h1 := h.low
  have h2 := h.a.s.low
  have h3 := h.lt
  refine ⟨k.os, k.tape, k.output, k.size, fun j hj => k.block j (by omega) (by omega) (by omega) (fun e => ?_) (fun u hu e => ?_)⟩
  · have := (h.a.s.row_lt e).1; omega
  · have := (h.a.row hu e).1; omega
/-- A row of blobs that is none of the end's stays. -/
theorem Fr.rb {v : Value} {ll : List (List Nat)} {B' : Nat} (h : Arena w B g o x y) (k : Fr g x w w' x') (hv : RB w B' v ll) (ha : ∀ u ∈ x.rows, Apart v.ownBlock u.ownBlock) : RB w' B' v ll := by
  obtain ⟨C, hC, _⟩ := h.X
  have key : ∀ (j : Nat) (c : Array Value) (T : TypeId) (fr : Nat × Nat), w.heap[j]? = some (.cells c T fr) → T = 25 ∨ T = 5 → (∀ u ∈ x.rows, u.ownBlock ≠ some j) → w'.heap[j]? = w.heap[j]? := fun j c T fr hj hT hu => by
    refine k.block j (lt_heap hj) ?_ (h.a.s.q_ne hj (by rcases hT with rfl | rfl <;> decide)) (h.a.s.row_ne hj (by rcases hT with rfl | rfl <;> decide)) hu
    rintro rfl
    rw [hC] at hj
    rcases hT with rfl | rfl <;> simp at hj
  refine hv.keep k.size (fun j hj => ?_) (fun b cur fr hb => key b cur _ fr hb (.inr rfl) (fun u hu e => ?_))
  · obtain ⟨_, c, hc⟩ := hv.blk hj
    exact key j c _ _ hc (.inl rfl) (fun u hu e => ha u hu j hj e)
  · obtain ⟨_, c, hc⟩ := h.a.row hu e
    rw [hb] at hc
    simp at hc
/-- It stays apart. -/
theorem Fr.apart {v : Value} {ll : List (List Nat)} {B' : Nat} (k : Fr g x w w' x') (hv : RB w B' v ll) (ha : ∀ u ∈ x.rows, Apart v.ownBlock u.ownBlock) : ∀ u ∈ x'.rows, Apart v.ownBlock u.ownBlock := fun u hu => by
  rcases k.rows u hu with ⟨u', hu', e⟩ | e
  · rw [e]; exact ha u' hu'
  · intro j h1 h2
    obtain ⟨_, c, hc⟩ := hv.blk h1
    have := e j h2
    have := lt_heap hc
    omega
theorem Fr.net {q N : Nat} {r : Option Nat} {l : List Gr} (h : Arena w B g o x y) (k : Fr g x w w' x') (hn : NtAt w B q r N l) : NtAt w' B q r N l := by
  obtain ⟨C, hC, _⟩ := h.X
  have key : ∀ (j : Nat) (c : Array Value) (T : TypeId), w.heap[j]? = some (.cells c T (0, 0)) → T = 96 ∨ T = 98 → w'.heap[j]? = w.heap[j]? := fun j c T hj hT => by
    refine k.block j (lt_heap hj) ?_ (h.a.s.q_ne hj (by rcases hT with rfl | rfl <;> decide)) (h.a.s.row_ne hj (by rcases hT with rfl | rfl <;> decide)) (fun u hu e => ?_)
    · rintro rfl
      rw [hC] at hj
      rcases hT with rfl | rfl <;> simp at hj
    · obtain ⟨_, c', hc⟩ := h.a.row hu e
      rw [hj] at hc
      rcases hT with rfl | rfl <;> simp at hc
  obtain ⟨v, hr, hb, ho, hh, _⟩ := id hn
  refine hn.other (key _ _ _ hh (.inl rfl)) (fun j hj => ?_)
  obtain ⟨_, c, hc⟩ := row_blk ho (hr.trans hj)
  exact key _ _ _ hc (.inr rfl)
theorem Fr.bx {v : Value} {d : List Nat} (h : Arena w B g o x y) (k : Fr g x w w' x') (hv : Bx w B v d) : Bx w' B v d := by
  have hlow := Fr.low h k
  obtain ⟨C, hC, _⟩ := h.X
  refine hv.keep k.size (fun b h1 h2 => hlow.block b h1) (fun b cur fr hb => ?_)
  refine k.block b (lt_heap hb) ?_ (h.a.s.q_ne hb (by decide)) (h.a.s.row_ne hb (by decide)) (fun u hu e => ?_)
  · rintro rfl
    rw [hC] at hb
    simp at hb
  · obtain ⟨_, c', hc⟩ := h.a.row hu e
    rw [hb] at hc
    simp at hc
theorem Apart.new {a b b' : Option Nat} {n : Nat} (h : Apart a b) (hb : b' = b ∨ b' = some n) (ha : ∀ j, a = some j → j < n) : Apart a b' := by
  rcases hb with rfl | rfl
  · exact h
  · intro j h1 h2
    have := ha j h1
    have := Option.some.inj h2
    omega
theorem RB.lt {v : Value} {ll : List (List Nat)} (h : RB w B v ll) : ∀ j, v.ownBlock = some j → j < w.heap.size := fun j hj => by
  obtain ⟨_, c, hc⟩ := h.blk hj
  exact lt_heap hc
theorem EnAt.lt (h : EnAt w B x) : ∀ u ∈ x.rows, ∀ j, u.ownBlock = some j → j < w.heap.size := fun u hu j hj => by
  obtain ⟨_, c, hc⟩ := h.row hu hj
  exact lt_heap hc
theorem RB.beside {u v : Value} {lu ll : List (List Nat)} (h : RB w B v ll) (hu : RB w B u lu) (hg : w.grownBy w' u.ownBlock) (ha : Apart u.ownBlock v.ownBlock) : RB w' B v ll :=
  h.keep hg.size (fun j hj => by obtain ⟨_, c, hc⟩ := h.blk hj; exact hg.block j (lt_heap hc) (fun e => ha j e.symm hj)) (fun b cur fr hb => hg.block b (lt_heap hb) (fun e => hu.ne hb (by decide) e.symm))
/-- A row of the first one has grown, and is stored. -/
theorem Arena.put1 {u v' : Value} {ll : List (List Nat)} (i : Nat) (h : Arena w B g o x y) (hu : RB w B u ll) (mu : u ∈ x.rows) (hg : w.grownBy w' u.ownBlock) (hx' : EnAt w' B x') (hi : i < 5)
    (hEC : ∀ C : Array Value, C.size = 10 → EC C o x → EC (C.setIfInBounds (o + i) v') o x') (hq : x'.q = x.q) (hr : x'.r = x.r) (hrows : ∀ a ∈ x'.rows, a ∈ x.rows ∨ a = v') (hv : v'.ownBlock = u.ownBlock ∨ v'.ownBlock = some w.heap.size) :
    Arena (w'.setCell ⟨g, o + i, none⟩ v') B g o x' y ∧ Fr g x w (w'.setCell ⟨g, o + i, none⟩ v') x' := by
  have h5 := h.o5
  have hfr : ∀ a ∈ x'.rows, (∃ u ∈ x.rows, a.ownBlock = u.ownBlock) ∨ (∀ j, a.ownBlock = some j → w.heap.size ≤ j) := fun a ha => by
    rcases hrows a ha with h1 | rfl
    · exact .inl ⟨a, h1, rfl⟩
    · rcases hv with h1 | h1
      · exact .inl ⟨u, mu, h1⟩
      · exact .inr (fun j hj => by rw [h1] at hj; have := Option.some.inj hj; omega)
  obtain ⟨C, h1, h2, h3, h4⟩ := h.X
  have h1' : w'.heap[g]? = some (.cells C 60 (0, 0)) := (hg.block g (lt_heap h1) (fun e => hu.ne h1 (by decide) e.symm)).trans h1
  have hy' : EnAt w' B y := h.b.grown hu hg (fun v hv => h.cross u mu v hv)
  have hA : Arena (w'.setCell ⟨g, o + i, none⟩ v') B g o x' y := by
    refine ⟨h5, h.low, ⟨_, heap_set h1' (o + i) v', by simpa using h2, hEC C h2 h3, h4.set (by omega) v'⟩, hx'.st h1', hy'.st h1', by rw [hq]; exact h.ne, by rw [hr]; exact h.ap, fun a ha b hb => ?_⟩
    rcases hrows a ha with k1 | rfl
    · exact h.cross a k1 b hb
    · exact ((h.cross u mu b hb).symm.new hv (h.b.lt b hb)).symm
  refine ⟨hA, ?_⟩
  have f1 : Fr g x w w' x := Fr.grow hg mu
  have f2 : w'.heap.size ≤ (w'.setCell ⟨g, o + i, none⟩ v').heap.size := by simp [World.setCell]
  exact ⟨hg.os, hg.tape, hg.output, Nat.le_trans hg.size f2, fun k k1 k2 k3 k4 k5 => (Below.heap_setCell _ _ _ _ k2).trans (f1.block k k1 k2 k3 k4 k5), .inl hq, .inl (.inl hr), hfr⟩
theorem Arena.addA {v' : Value} {d : List Nat} (h : Arena w B g o x y) (hv : RB w' B v' (x.e.A ++ [d])) (hg : w.grownBy w' x.vA.ownBlock) (hr : v'.ownBlock = x.vA.ownBlock ∨ v'.ownBlock = some w.heap.size) :
    Arena (w'.setCell ⟨g, o + 4, none⟩ v') B g o { x with vA := v', e := { x.e with A := x.e.A ++ [d] } } y ∧ Fr g x w (w'.setCell ⟨g, o + 4, none⟩ v') { x with vA := v', e := { x.e with A := x.e.A ++ [d] } } := by
  have hx := h.a
  refine h.put1 4 hx.rA (by simp [En.rows]) hg ⟨hx.s.grownRB hx.rA hg, hx.rS.beside hx.rA hg hx.sa.symm, hx.rD.beside hx.rA hg hx.da.symm, hv, hx.sd, hx.sa.new hr hx.rS.lt, hx.da.new hr hx.rD.lt⟩ (by omega) (fun C hC hE => ?_) rfl rfl (fun a ha => ?_) hr
  · have h5 := h.o5
    have e : ∀ j, j < 4 → (C.setIfInBounds (o + 4) v')[o + j]? = C[o + j]? := fun j hj => by rw [set_at (by omega), if_neg (by omega)]
    exact ⟨(e 0 (by omega)).trans hE.c0, (e 1 (by omega)).trans hE.c1, (e 2 (by omega)).trans hE.c2, (e 3 (by omega)).trans hE.c3, by rw [set_at (by omega), if_pos rfl]⟩
  · simp [En.rows] at ha ⊢
    rcases ha with h1 | h1 | h1
    · exact .inl (.inl h1)
    · exact .inl (.inr (.inl h1))
    · exact .inr h1
theorem Arena.addS {v' : Value} {d : List Nat} (h : Arena w B g o x y) (hv : RB w' B v' (x.e.S ++ [d])) (hg : w.grownBy w' x.vS.ownBlock) (hr : v'.ownBlock = x.vS.ownBlock ∨ v'.ownBlock = some w.heap.size) :
    Arena (w'.setCell ⟨g, o + 2, none⟩ v') B g o { x with vS := v', e := { x.e with S := x.e.S ++ [d] } } y ∧ Fr g x w (w'.setCell ⟨g, o + 2, none⟩ v') { x with vS := v', e := { x.e with S := x.e.S ++ [d] } } := by
  have hx := h.a
  refine h.put1 2 hx.rS (by simp [En.rows]) hg ⟨hx.s.grownRB hx.rS hg, hv, hx.rD.beside hx.rS hg hx.sd, hx.rA.beside hx.rS hg hx.sa, (hx.sd.symm.new hr hx.rD.lt).symm, (hx.sa.symm.new hr hx.rA.lt).symm, hx.da⟩ (by omega) (fun C hC hE => ?_) rfl rfl (fun a ha => ?_) hr
  · have h5 := h.o5
    have e : ∀ j, j < 5 → j ≠ 2 → (C.setIfInBounds (o + 2) v')[o + j]? = C[o + j]? := fun j hj hn => by rw [set_at (by omega), if_neg (by omega)]
    exact ⟨(e 0 (by omega) (by omega)).trans hE.c0, (e 1 (by omega) (by omega)).trans hE.c1, by rw [set_at (by omega), if_pos rfl], (e 3 (by omega) (by omega)).trans hE.c3, (e 4 (by omega) (by omega)).trans hE.c4⟩
  · simp [En.rows] at ha ⊢
    rcases ha with h1 | h1 | h1
    · exact .inr h1
    · exact .inl (.inr (.inl h1))
    · exact .inl (.inr (.inr h1))
theorem Arena.addD {v' : Value} {l : List (List Nat)} (h : Arena w B g o x y) (hv : RB w' B v' (x.e.D ++ l)) (hg : w.grownBy w' x.vD.ownBlock) (hr : v'.ownBlock = x.vD.ownBlock ∨ v'.ownBlock = some w.heap.size) :
    Arena (w'.setCell ⟨g, o + 3, none⟩ v') B g o { x with vD := v', e := { x.e with D := x.e.D ++ l } } y ∧ Fr g x w (w'.setCell ⟨g, o + 3, none⟩ v') { x with vD := v', e := { x.e with D := x.e.D ++ l } } := by
  have hx := h.a
  refine h.put1 3 hx.rD (by simp [En.rows]) hg ⟨hx.s.grownRB hx.rD hg, hx.rS.beside hx.rD hg hx.sd.symm, hv, hx.rA.beside hx.rD hg hx.da, hx.sd.new hr hx.rS.lt, hx.sa, (hx.da.symm.new hr hx.rA.lt).symm⟩ (by omega) (fun C hC hE => ?_) rfl rfl (fun a ha => ?_) hr
  · have h5 := h.o5
    have e : ∀ j, j < 5 → j ≠ 3 → (C.setIfInBounds (o + 3) v')[o + j]? = C[o + j]? := fun j hj hn => by rw [set_at (by omega), if_neg (by omega)]
    exact ⟨(e 0 (by omega) (by omega)).trans hE.c0, (e 1 (by omega) (by omega)).trans hE.c1, (e 2 (by omega) (by omega)).trans hE.c2, by rw [set_at (by omega), if_pos rfl], (e 4 (by omega) (by omega)).trans hE.c4⟩
  · simp [En.rows] at ha ⊢
    rcases ha with h1 | h1 | h1
    · exact .inl (.inl h1)
    · exact .inr h1
    · exact .inl (.inr (.inr h1))
/-- accepted is none. -/
theorem Arena.noA (h : Arena w B g o x y) :
    Arena (w.setCell ⟨g, o + 4, none⟩ (.slice none 0 0)) B g o { x with vA := .slice none 0 0, e := { x.e with A := [] } } y ∧ Fr g x w (w.setCell ⟨g, o + 4, none⟩ (.slice none 0 0)) { x with vA := .slice none 0 0, e := { x.e with A := [] } } := by
  have hx := h.a
  have hnone : ∀ z, Apart z (Value.ownBlock (.slice none 0 0)) := fun z => Apart.symm Apart.none
  have hEC : ∀ C : Array Value, C.size = 10 → EC C o x → EC (C.setIfInBounds (o + 4) (.slice none 0 0)) o { x with vA := .slice none 0 0, e := { x.e with A := [] } } := fun C hC hE => by
    have h5 := h.o5
    have e : ∀ j, j < 4 → (C.setIfInBounds (o + 4) (.slice none 0 0))[o + j]? = C[o + j]? := fun j hj => by rw [set_at (by omega), if_neg (by omega)]
    exact ⟨(e 0 (by omega)).trans hE.c0, (e 1 (by omega)).trans hE.c1, (e 2 (by omega)).trans hE.c2, (e 3 (by omega)).trans hE.c3, by rw [set_at (by omega), if_pos rfl]⟩
  have hcr : ∀ u ∈ En.rows { x with vA := .slice none 0 0, e := { x.e with A := [] } }, ∀ v ∈ y.rows, Apart u.ownBlock v.ownBlock := fun u hu v hv => by
    simp [En.rows] at hu
    rcases hu with rfl | rfl | rfl
    · exact h.cross _ (by simp [En.rows]) v hv
    · exact h.cross _ (by simp [En.rows]) v hv
    · exact Apart.none
  refine ⟨h.store (by omega) hEC ⟨hx.s, hx.rS, hx.rD, RB.nil _ _, hx.sd, hnone _, hnone _⟩ h.ne h.ap hcr, Fr.store _ _ (.inl rfl) (.inl (.inl rfl)) (fun u hu => ?_)⟩
  simp [En.rows] at hu
  rcases hu with rfl | rfl | rfl
  · exact .inl ⟨_, by simp [En.rows], rfl⟩
  · exact .inl ⟨_, by simp [En.rows], rfl⟩
  · exact .inr (fun j hj => by cases hj)
end
end Go.Proofs.Ytjhopajhcmkllaa
