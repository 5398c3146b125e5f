/- A script of a disk's calls among a law's arguments: what it reads as. -/
import Derived.Test.YtjcefnlidophoaaRow
import Derived.Test.YtjcefnlidophoaaKp
import Derived.Deep.Slices
import Derived.Deep.Fields
import Derived.Lib.SmallJoins
import Derived.Deep.MidRow
namespace Go.Proofs.Ytjcefnlidophoaa
open Go.RowKit Go.Deep Go.ChangeShapes Go.WideShapes
set_option maxRecDepth 100000

/-- A call of a script: its kind, a number, bytes. -/
structure Po where
  k : Int
  n : Int
  b : List Nat
/-- The three cells of a call. -/
def OpIs (w : World) (B : Nat) (y0 y1 y2 : Value) (x : Po) : Prop := ∃ A c, y0 = .int .i64 x.k ∧ y1 = .int .i64 x.n ∧ y2 = .slice A x.b.length c ∧ x.b.length ≤ c ∧ At w B A (bv x.b) ∧ (∀ y ∈ x.b, y < 256) ∧
  -9223372036854775808 ≤ x.k ∧ x.k ≤ 9223372036854775807 ∧ -9223372036854775808 ≤ x.n ∧ x.n ≤ 9223372036854775807
theorem OpIs.under {w w' : World} {B : Nat} {y0 y1 y2 : Value} {x : Po} (h : OpIs w B y0 y1 y2 x) (hb : Below B w w') : OpIs w' B y0 y1 y2 x := by
  obtain ⟨A, c, h1, h2, h3, h4, h5, h6⟩ := h
  exact ⟨A, c, h1, h2, h3, h4, h5.below hb, h6⟩
/-- A script in memory below block B. -/
def Ops (w : World) (B : Nat) (a : Option Addr) (l : List Po) : Prop := ∀ i x, l[i]? = some x → ∃ b o y0 y1 y2, a = some ⟨b, o, none⟩ ∧ b < B ∧ w.rangeAt b (o + i * 3) [y0, y1, y2] ∧ OpIs w B y0 y1 y2 x
theorem Ops.under {w w' : World} {B : Nat} {a : Option Addr} {l : List Po} (h : Ops w B a l) (hb : Below B w w') : Ops w' B a l := by
  intro i x hx
  obtain ⟨b, o, y0, y1, y2, h1, h2, h3, h4⟩ := h i x hx
  exact ⟨b, o, y0, y1, y2, h1, h2, fun j u hu => (hb.cell h2).trans (h3 j u hu), h4.under hb⟩

section
variable {H : Type} {enc : TypeId × Value → H} {w : World} {held : Bool}
theorem op_fields : ∃ o0 o1 o2 : Field, Try.prog.underlying 73 = some (.struct #[o0, o1, o2]) ∧ oneCellFields Try.prog #[o0, o1, o2] = true ∧ o0.type = 3 ∧ o1.type = 3 ∧ o2.type = 27 :=
  ⟨_, _, _, Try.underlying73, by kernel_rfl, rfl, rfl, rfl⟩
theorem op_size : Try.prog.cellsOf 73 = 3 := by kernel_rfl
/-- The cells of a call. -/
theorem op_trod (fuel : Nat) (cs : List Value) (x : DataW H × List MemPlace) (h : DataW.trod enc Try.prog w 0 (fun _ => true) held fuel 73 cs = some x) :
    ∃ v0 v1 v2 t, cs = [v0, v1, v2] ∧ OpIs w w.heap.size v0 v1 v2 t := by
  obtain ⟨o0, o1, o2, hu, hone, e0, e1, e2⟩ := op_fields
  obtain ⟨ys, n, rfl, rfl, hlen, hyl, hfl⟩ := DataW.trod_struct hu h
  rw [op_size] at hlen
  obtain ⟨c0, c1, c2, rfl⟩ : ∃ c0 c1 c2, cs = [c0, c1, c2] := by
    match cs, hlen with
    | [c0, c1, c2], _ => exact ⟨_, _, _, rfl⟩
  have cut : ∀ (j : Nat) (f : Field) (c : Value), #[o0, o1, o2][j]? = some f → [c0, c1, c2][j]? = some c → ∃ y, DataW.trod enc Try.prog w 0 (fun _ => true) held n f.type [c] = some y := by
    intro j f c hj hc
    obtain ⟨h1, h2⟩ := hone_of hone j f hj
    have := hfl j f hj
    rw [h1, h2] at this
    have hj4 : j < 3 := by
      have := (Array.getElem?_eq_some_iff.1 hj).1
      simpa using this
    have e : ([c0, c1, c2].drop j).take 1 = [c] := by
      match j, hj4, hc with
      | 0, _, hc => simpa using hc
      | 1, _, hc => simpa using hc
      | 2, _, hc => simpa using hc
    rw [e] at this
    have hys : j < ys.length := by rw [hyl]; simpa using hj4
    exact ⟨_, this.trans (List.getElem?_eq_getElem hys)⟩
  obtain ⟨y0, h0⟩ := cut 0 o0 c0 rfl rfl
  obtain ⟨y1, h1⟩ := cut 1 o1 c1 rfl rfl
  obtain ⟨y2, h2⟩ := cut 2 o2 c2 rfl rfl
  rw [e0] at h0
  rw [e1] at h1
  rw [e2] at h2
  obtain ⟨k, hk, _, wk⟩ := DataW.trod_int Try.underlying3 h0
  obtain ⟨m, hm, _, wm⟩ := DataW.trod_int Try.underlying3 h1
  simp only [List.cons.injEq, and_true] at hk hm
  subst hk hm
  obtain ⟨hk0, hk1⟩ := wf_i64 wk
  obtain ⟨hm0, hm1⟩ := wf_i64 wm
  rcases open_ints Try.underlying27 Try.underlying5 (by kernel_rfl) h2 with ⟨hcs, _⟩ | ⟨x, l, c, zs, hcs, _, hl, hm, hz, _, hcell, hwz⟩
  · simp only [List.cons.injEq, and_true] at hcs
    subst hcs
    exact ⟨_, _, _, ⟨k, m, []⟩, rfl, none, 0, rfl, rfl, rfl, by simp, At.nil _ _ _, by simp, hk0, hk1, hm0, hm1⟩
  · simp only [List.cons.injEq, and_true] at hcs
    subst hcs
    obtain ⟨l', hl', hc', hat, h8⟩ := (ints_some .u8 w x l c zs hl hm (by simpa using hz) hcell hwz).bytes
    subst hl'
    exact ⟨_, _, _, ⟨k, m, l'⟩, rfl, some x, c, rfl, rfl, rfl, hc', hat, h8, hk0, hk1, hm0, hm1⟩
theorem ops_open {a : Option Addr} {n c : Nat} {d : DataW H} {p : List MemPlace} (h : DataW.Trod enc Try.prog w 0 (fun _ => true) held 57 (.slice a n c) d p) :
    ∃ l, l.length = n ∧ n ≤ c ∧ c ≤ maxLen ∧ Ops w w.heap.size a l := by
  obtain ⟨fuel, hf⟩ := h
  rcases DataW.trod_slice Try.underlying57 hf with ⟨hc3, _⟩ | ⟨a, len, cap, elems, rest, n', rfl, hc3, _, _, hlc, hcm, hel0, hel, _⟩
  · simp [Value.cells] at hc3
    obtain ⟨rfl, rfl, rfl⟩ := hc3
    exact ⟨[], rfl, Nat.le_refl _, by simp, fun i x hx => by simp at hx⟩
  · simp [Value.cells] at hc3
    obtain ⟨rfl, rfl, rfl⟩ := hc3
    rw [op_size] at hel
    have part : ∀ i, ∃ (t : Po), i < n → ∃ b o y0 y1 y2, some a = some (⟨b, o, none⟩ : Addr) ∧ b < w.heap.size ∧ w.rangeAt b (o + i * 3) [y0, y1, y2] ∧ OpIs w w.heap.size y0 y1 y2 t := by
      intro i
      by_cases hi : i < n
      · have h := hel i hi
        rw [List.getElem?_eq_getElem (by omega)] at h
        obtain ⟨cs, h1, h2⟩ := Option.bind_eq_some_iff.1 h
        obtain ⟨v0, v1, v2, t, rfl, ht⟩ := op_trod n' cs _ h2
        obtain ⟨_, _, hc⟩ := World.cells?_some h1
        refine ⟨t, fun _ => ?_⟩
        obtain ⟨b, o, s⟩ := a
        have hs : s = none := by
          have h := hel 0 (by omega)
          rw [List.getElem?_eq_getElem (by omega)] at h
          obtain ⟨cs, h1, h2⟩ := Option.bind_eq_some_iff.1 h
          obtain ⟨v0, v1, v2, t, rfl, ht⟩ := op_trod n' cs _ h2
          obtain ⟨_, _, hc⟩ := World.cells?_some h1
          have h0 : w.cell? (((⟨b, o, s⟩ : Addr).add (0 * 3)).add 0) = some v0 := hc 0 (by omega)
          exact World.cell?_spot h0
        subst hs
        have h0 : w.cell? (((⟨b, o, none⟩ : Addr).add (i * 3)).add 0) = some v0 := hc 0 (by omega)
        have hb : b < w.heap.size := by
          have := World.block_lt_of_cell? w _ h0
          rw [Addr.add_lit, Addr.add_lit] at this
          exact this
        refine ⟨b, o, v0, v1, v2, rfl, hb, fun j v hj => ?_, ht⟩
        have hj4 : j < 3 := by
          have := (List.getElem?_eq_some_iff.1 hj).1
          simpa using this
        have := hc j hj4
        rw [Addr.add_lit, Addr.add_lit] at this
        rw [this]
        exact hj
      · exact ⟨⟨0, 0, []⟩, fun h => absurd h hi⟩
    obtain ⟨f, hf⟩ := Classical.axiomOfChoice part
    refine ⟨(List.range n).map f, by simp, hlc, hcm, fun i x hx => ?_⟩
    have hi : i < n := by
      have := (List.getElem?_eq_some_iff.1 hx).1
      simpa using this
    have : x = f i := by
      rw [List.getElem?_map, List.getElem?_range hi] at hx
      simpa using hx.symm
    subst this
    exact hf i hi
end
end Go.Proofs.Ytjcefnlidophoaa
