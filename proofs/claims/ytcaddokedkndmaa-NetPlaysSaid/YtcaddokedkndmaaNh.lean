/- Datagrams, and a script of a net's calls, among a law's arguments: what they read as. -/
import Derived.Test.YtcaddokedkndmaaRow
import Derived.Test.YtcaddokedkndmaaNa
import Derived.Deep.Slices
import Derived.Deep.Fields
import Derived.Lib.SmallJoins
import Derived.Deep.MidRow
namespace Go.Proofs.Ytcaddokedkndmaa
open Go.RowKit Go.Deep Go.ChangeShapes Go.WideShapes
set_option maxRecDepth 100000

/-- The three cells of a datagram. -/
def GrIs (w : World) (B : Nat) (y0 y1 y2 : Value) (x : Gr) : Prop := ∃ A c, y0 = .int .i64 x.fr ∧ y1 = .int .i64 x.to ∧ y2 = .slice A x.d.length c ∧ x.d.length ≤ c ∧ At w B A (bv x.d) ∧ (∀ y ∈ x.d, y < 256) ∧
  -9223372036854775808 ≤ x.fr ∧ x.fr ≤ 9223372036854775807 ∧ -9223372036854775808 ≤ x.to ∧ x.to ≤ 9223372036854775807
theorem GrIs.under {w w' : World} {B : Nat} {y0 y1 y2 : Value} {x : Gr} (h : GrIs w B y0 y1 y2 x) (hb : Below B w w') : GrIs w' B y0 y1 y2 x := by
  obtain ⟨A, c, h1, h2, h3, h4, h5, h6⟩ := h
  exact ⟨A, c, h1, h2, h3, h4, h5.below hb, h6⟩
/-- Datagrams in memory below block B. -/
def Grams (w : World) (B : Nat) (a : Option Addr) (l : List Gr) : Prop := ∀ i x, l[i]? = some x → ∃ b o y0 y1 y2, a = some ⟨b, o, none⟩ ∧ b < B ∧ w.rangeAt b (o + i * 3) [y0, y1, y2] ∧ GrIs w B y0 y1 y2 x
theorem Grams.under {w w' : World} {B : Nat} {a : Option Addr} {l : List Gr} (h : Grams w B a l) (hb : Below B w w') : Grams w' B a l := by
  intro i x hx
  obtain ⟨b, o, y0, y1, y2, h1, h2, h3, h4⟩ := h i x hx
  exact ⟨b, o, y0, y1, y2, h1, h2, fun j u hu => (hb.cell h2).trans (h3 j u hu), h4.under hb⟩

section
variable {H : Type} {enc : TypeId × Value → H} {w : World} {held : Bool}
theorem gm_fields : ∃ o0 o1 o2 : Field, Try.prog.underlying 29 = some (.struct #[o0, o1, o2]) ∧ oneCellFields Try.prog #[o0, o1, o2] = true ∧ o0.type = 3 ∧ o1.type = 3 ∧ o2.type = 26 :=
  ⟨_, _, _, Try.underlying29, by kernel_rfl, rfl, rfl, rfl⟩
theorem gm_size : Try.prog.cellsOf 29 = 3 := by kernel_rfl
/-- The cells of a datagram. -/
theorem gm_trod (fuel : Nat) (cs : List Value) (x : DataW H × List MemPlace) (h : DataW.trod enc Try.prog w 0 (fun _ => true) held fuel 29 cs = some x) :
    ∃ v0 v1 v2 t, cs = [v0, v1, v2] ∧ GrIs w w.heap.size v0 v1 v2 t := by
  obtain ⟨o0, o1, o2, hu, hone, e0, e1, e2⟩ := gm_fields
  obtain ⟨ys, n, rfl, rfl, hlen, hyl, hfl⟩ := DataW.trod_struct hu h
  rw [gm_size] at hlen
  obtain ⟨c0, c1, c2, rfl⟩ : ∃ c0 c1 c2, cs = [c0, c1, c2] := by
    match cs, hlen with
    | [c0, c1, c2], _ => exact ⟨_, _, _, rfl⟩
  have cut : ∀ (j : Nat) (f : Field) (c : Value), #[o0, o1, o2][j]? = some f → [c0, c1, c2][j]? = some c → ∃ y, DataW.trod enc Try.prog w 0 (fun _ => true) held n f.type [c] = some y := by
    intro j f c hj hc
    obtain ⟨h1, h2⟩ := hone_of hone j f hj
    have := hfl j f hj
    rw [h1, h2] at this
    have hj4 : j < 3 := by
      have := (Array.getElem?_eq_some_iff.1 hj).1
      simpa using this
    have e : ([c0, c1, c2].drop j).take 1 = [c] := by
      match j, hj4, hc with
      | 0, _, hc => simpa using hc
      | 1, _, hc => simpa using hc
      | 2, _, hc => simpa using hc
    rw [e] at this
    have hys : j < ys.length := by rw [hyl]; simpa using hj4
    exact ⟨_, this.trans (List.getElem?_eq_getElem hys)⟩
  obtain ⟨y0, h0⟩ := cut 0 o0 c0 rfl rfl
  obtain ⟨y1, h1⟩ := cut 1 o1 c1 rfl rfl
  obtain ⟨y2, h2⟩ := cut 2 o2 c2 rfl rfl
  rw [e0] at h0
  rw [e1] at h1
  rw [e2] at h2
  obtain ⟨k, hk, _, wk⟩ := DataW.trod_int Try.underlying3 h0
  obtain ⟨m, hm, _, wm⟩ := DataW.trod_int Try.underlying3 h1
  simp only [List.cons.injEq, and_true] at hk hm
  subst hk hm
  obtain ⟨hk0, hk1⟩ := wf_i64 wk
  obtain ⟨hm0, hm1⟩ := wf_i64 wm
  rcases open_ints Try.underlying26 Try.underlying5 (by kernel_rfl) h2 with ⟨hcs, _⟩ | ⟨x, l, c, zs, hcs, _, hl, hm, hz, _, hcell, hwz⟩
  · simp only [List.cons.injEq, and_true] at hcs
    subst hcs
    exact ⟨_, _, _, ⟨k, m, []⟩, rfl, none, 0, rfl, rfl, rfl, by simp, At.nil _ _ _, by simp, hk0, hk1, hm0, hm1⟩
  · simp only [List.cons.injEq, and_true] at hcs
    subst hcs
    obtain ⟨l', hl', hc', hat, h8⟩ := (ints_some .u8 w x l c zs hl hm (by simpa using hz) hcell hwz).bytes
    subst hl'
    exact ⟨_, _, _, ⟨k, m, l'⟩, rfl, some x, c, rfl, rfl, rfl, hc', hat, h8, hk0, hk1, hm0, hm1⟩
theorem grams_open {a : Option Addr} {n c : Nat} {d : DataW H} {p : List MemPlace} (h : DataW.Trod enc Try.prog w 0 (fun _ => true) held 38 (.slice a n c) d p) :
    ∃ l, l.length = n ∧ n ≤ c ∧ c ≤ maxLen ∧ Grams w w.heap.size a l := by
  obtain ⟨fuel, hf⟩ := h
  rcases DataW.trod_slice Try.underlying38 hf with ⟨hc3, _⟩ | ⟨a, len, cap, elems, rest, n', rfl, hc3, _, _, hlc, hcm, hel0, hel, _⟩
  · simp [Value.cells] at hc3
    obtain ⟨rfl, rfl, rfl⟩ := hc3
    exact ⟨[], rfl, Nat.le_refl _, by simp, fun i x hx => by simp at hx⟩
  · simp [Value.cells] at hc3
    obtain ⟨rfl, rfl, rfl⟩ := hc3
    rw [gm_size] at hel
    have part : ∀ i, ∃ (t : Gr), i < n → ∃ b o y0 y1 y2, some a = some (⟨b, o, none⟩ : Addr) ∧ b < w.heap.size ∧ w.rangeAt b (o + i * 3) [y0, y1, y2] ∧ GrIs w w.heap.size y0 y1 y2 t := by
      intro i
      by_cases hi : i < n
      · have h := hel i hi
        rw [List.getElem?_eq_getElem (by omega)] at h
        obtain ⟨cs, h1, h2⟩ := Option.bind_eq_some_iff.1 h
        obtain ⟨v0, v1, v2, t, rfl, ht⟩ := gm_trod n' cs _ h2
        obtain ⟨_, _, hc⟩ := World.cells?_some h1
        refine ⟨t, fun _ => ?_⟩
        obtain ⟨b, o, s⟩ := a
        have hs : s = none := by
          have h := hel 0 (by omega)
          rw [List.getElem?_eq_getElem (by omega)] at h
          obtain ⟨cs, h1, h2⟩ := Option.bind_eq_some_iff.1 h
          obtain ⟨v0, v1, v2, t, rfl, ht⟩ := gm_trod n' cs _ h2
          obtain ⟨_, _, hc⟩ := World.cells?_some h1
          have h0 : w.cell? (((⟨b, o, s⟩ : Addr).add (0 * 3)).add 0) = some v0 := hc 0 (by omega)
          exact World.cell?_spot h0
        subst hs
        have h0 : w.cell? (((⟨b, o, none⟩ : Addr).add (i * 3)).add 0) = some v0 := hc 0 (by omega)
        have hb : b < w.heap.size := by
          have := World.block_lt_of_cell? w _ h0
          rw [Addr.add_lit, Addr.add_lit] at this
          exact this
        refine ⟨b, o, v0, v1, v2, rfl, hb, fun j v hj => ?_, ht⟩
        have hj4 : j < 3 := by
          have := (List.getElem?_eq_some_iff.1 hj).1
          simpa using this
        have := hc j hj4
        rw [Addr.add_lit, Addr.add_lit] at this
        rw [this]
        exact hj
      · exact ⟨⟨0, 0, []⟩, fun h => absurd h hi⟩
    obtain ⟨f, hf⟩ := Classical.axiomOfChoice part
    refine ⟨(List.range n).map f, by simp, hlc, hcm, fun i x hx => ?_⟩
    have hi : i < n := by
      have := (List.getElem?_eq_some_iff.1 hx).1
      simpa using this
    have : x = f i := by
      rw [List.getElem?_map, List.getElem?_range hi] at hx
      simpa using hx.symm
    subst this
    exact hf i hi
end
/-- A call of a script: its kind, from, to, a number, bytes. -/
structure Po6 where
  k : Int
  fr : Int
  to : Int
  i : Int
  d : List Nat
/-- The five cells of a call. -/
def Op6Is (w : World) (B : Nat) (y0 y1 y2 y3 y4 : Value) (x : Po6) : Prop := ∃ A c, y0 = .int .i64 x.k ∧ y1 = .int .i64 x.fr ∧ y2 = .int .i64 x.to ∧ y3 = .int .i64 x.i ∧ y4 = .slice A x.d.length c ∧ x.d.length ≤ c ∧ At w B A (bv x.d) ∧ (∀ y ∈ x.d, y < 256) ∧
  -9223372036854775808 ≤ x.k ∧ x.k ≤ 9223372036854775807 ∧ (-9223372036854775808 ≤ x.fr ∧ x.fr ≤ 9223372036854775807) ∧ (-9223372036854775808 ≤ x.to ∧ x.to ≤ 9223372036854775807) ∧ (-9223372036854775808 ≤ x.i ∧ x.i ≤ 9223372036854775807)
theorem Op6Is.under {w w' : World} {B : Nat} {y0 y1 y2 y3 y4 : Value} {x : Po6} (h : Op6Is w B y0 y1 y2 y3 y4 x) (hb : Below B w w') : Op6Is w' B y0 y1 y2 y3 y4 x := by
  obtain ⟨A, c, h1, h2, h3, g3, g4, h4, h5, h6⟩ := h
  exact ⟨A, c, h1, h2, h3, g3, g4, h4, h5.below hb, h6⟩
/-- A script in memory below block B. -/
def Ops6 (w : World) (B : Nat) (a : Option Addr) (l : List Po6) : Prop := ∀ i x, l[i]? = some x → ∃ b o y0 y1 y2 y3 y4, a = some ⟨b, o, none⟩ ∧ b < B ∧ w.rangeAt b (o + i * 5) [y0, y1, y2, y3, y4] ∧ Op6Is w B y0 y1 y2 y3 y4 x
theorem Ops6.under {w w' : World} {B : Nat} {a : Option Addr} {l : List Po6} (h : Ops6 w B a l) (hb : Below B w w') : Ops6 w' B a l := by
  intro i x hx
  obtain ⟨b, o, y0, y1, y2, y3, y4, h1, h2, h3, h4⟩ := h i x hx
  exact ⟨b, o, y0, y1, y2, y3, y4, h1, h2, fun j u hu => (hb.cell h2).trans (h3 j u hu), h4.under hb⟩

section
variable {H : Type} {enc : TypeId × Value → H} {w : World} {held : Bool}
theorem op6_fields : ∃ o0 o1 o2 o3 o4 : Field, Try.prog.underlying 44 = some (.struct #[o0, o1, o2, o3, o4]) ∧ oneCellFields Try.prog #[o0, o1, o2, o3, o4] = true ∧ o0.type = 3 ∧ o1.type = 3 ∧ o2.type = 3 ∧ o3.type = 3 ∧ o4.type = 26 :=
  ⟨_, _, _, _, _, Try.underlying44, by kernel_rfl, rfl, rfl, rfl, rfl, rfl⟩
theorem op6_size : Try.prog.cellsOf 44 = 5 := by kernel_rfl
/-- The cells of a call. -/
theorem op6_trod (fuel : Nat) (cs : List Value) (x : DataW H × List MemPlace) (h : DataW.trod enc Try.prog w 0 (fun _ => true) held fuel 44 cs = some x) :
    ∃ v0 v1 v2 v3 v4 t, cs = [v0, v1, v2, v3, v4] ∧ Op6Is w w.heap.size v0 v1 v2 v3 v4 t := by
  obtain ⟨o0, o1, o2, o3, o4, hu, hone, e0, e1, e2, e3, e4⟩ := op6_fields
  obtain ⟨ys, n, rfl, rfl, hlen, hyl, hfl⟩ := DataW.trod_struct hu h
  rw [op6_size] at hlen
  obtain ⟨c0, c1, c2, c3, c4, rfl⟩ : ∃ c0 c1 c2 c3 c4, cs = [c0, c1, c2, c3, c4] := by
    match cs, hlen with
    | [c0, c1, c2, c3, c4], _ => exact ⟨_, _, _, _, _, rfl⟩
  have cut : ∀ (j : Nat) (f : Field) (c : Value), #[o0, o1, o2, o3, o4][j]? = some f → [c0, c1, c2, c3, c4][j]? = some c → ∃ y, DataW.trod enc Try.prog w 0 (fun _ => true) held n f.type [c] = some y := by
    intro j f c hj hc
    obtain ⟨h1, h2⟩ := hone_of hone j f hj
    have := hfl j f hj
    rw [h1, h2] at this
    have hj4 : j < 5 := by
      have := (Array.getElem?_eq_some_iff.1 hj).1
      simpa using this
    have e : ([c0, c1, c2, c3, c4].drop j).take 1 = [c] := by
      match j, hj4, hc with
      | 0, _, hc => simpa using hc
      | 1, _, hc => simpa using hc
      | 2, _, hc => simpa using hc
      | 3, _, hc => simpa using hc
      | 4, _, hc => simpa using hc
    rw [e] at this
    have hys : j < ys.length := by rw [hyl]; simpa using hj4
    exact ⟨_, this.trans (List.getElem?_eq_getElem hys)⟩
  obtain ⟨y0, h0⟩ := cut 0 o0 c0 rfl rfl
  obtain ⟨y1, h1⟩ := cut 1 o1 c1 rfl rfl
  obtain ⟨y2, h2⟩ := cut 2 o2 c2 rfl rfl
  obtain ⟨y3, h3⟩ := cut 3 o3 c3 rfl rfl
  obtain ⟨y4, h4⟩ := cut 4 o4 c4 rfl rfl
  rw [e0] at h0
  rw [e1] at h1
  rw [e2] at h2
  rw [e3] at h3
  rw [e4] at h4
  obtain ⟨k, hk, _, wk⟩ := DataW.trod_int Try.underlying3 h0
  obtain ⟨m, hm, _, wm⟩ := DataW.trod_int Try.underlying3 h1
  obtain ⟨m2, hm2, _, wm2⟩ := DataW.trod_int Try.underlying3 h2
  obtain ⟨m3, hm3, _, wm3⟩ := DataW.trod_int Try.underlying3 h3
  simp only [List.cons.injEq, and_true] at hk hm hm2 hm3
  subst hk hm hm2 hm3
  obtain ⟨hk0, hk1⟩ := wf_i64 wk
  have hm0 := wf_i64 wm
  have hm2 := wf_i64 wm2
  have hm3 := wf_i64 wm3
  rcases open_ints Try.underlying26 Try.underlying5 (by kernel_rfl) h4 with ⟨hcs, _⟩ | ⟨x, l, c, zs, hcs, _, hl, hm, hz, _, hcell, hwz⟩
  · simp only [List.cons.injEq, and_true] at hcs
    subst hcs
    exact ⟨_, _, _, _, _, ⟨k, m, m2, m3, []⟩, rfl, none, 0, rfl, rfl, rfl, rfl, rfl, by simp, At.nil _ _ _, by simp, hk0, hk1, hm0, hm2, hm3⟩
  · simp only [List.cons.injEq, and_true] at hcs
    subst hcs
    obtain ⟨l', hl', hc', hat, h8⟩ := (ints_some .u8 w x l c zs hl hm (by simpa using hz) hcell hwz).bytes
    subst hl'
    exact ⟨_, _, _, _, _, ⟨k, m, m2, m3, l'⟩, rfl, some x, c, rfl, rfl, rfl, rfl, rfl, hc', hat, h8, hk0, hk1, hm0, hm2, hm3⟩
theorem ops6_open {a : Option Addr} {n c : Nat} {d : DataW H} {p : List MemPlace} (h : DataW.Trod enc Try.prog w 0 (fun _ => true) held 37 (.slice a n c) d p) :
    ∃ l, l.length = n ∧ n ≤ c ∧ c ≤ maxLen ∧ Ops6 w w.heap.size a l := by
  obtain ⟨fuel, hf⟩ := h
  rcases DataW.trod_slice Try.underlying37 hf with ⟨hc3, _⟩ | ⟨a, len, cap, elems, rest, n', rfl, hc3, _, _, hlc, hcm, hel0, hel, _⟩
  · simp [Value.cells] at hc3
    obtain ⟨rfl, rfl, rfl⟩ := hc3
    exact ⟨[], rfl, Nat.le_refl _, by simp, fun i x hx => by simp at hx⟩
  · simp [Value.cells] at hc3
    obtain ⟨rfl, rfl, rfl⟩ := hc3
    rw [op6_size] at hel
    have part : ∀ i, ∃ (t : Po6), i < n → ∃ b o y0 y1 y2 y3 y4, some a = some (⟨b, o, none⟩ : Addr) ∧ b < w.heap.size ∧ w.rangeAt b (o + i * 5) [y0, y1, y2, y3, y4] ∧ Op6Is w w.heap.size y0 y1 y2 y3 y4 t := by
      intro i
      by_cases hi : i < n
      · have h := hel i hi
        rw [List.getElem?_eq_getElem (by omega)] at h
        obtain ⟨cs, h1, h2⟩ := Option.bind_eq_some_iff.1 h
        obtain ⟨v0, v1, v2, v3, v4, t, rfl, ht⟩ := op6_trod n' cs _ h2
        obtain ⟨_, _, hc⟩ := World.cells?_some h1
        refine ⟨t, fun _ => ?_⟩
        obtain ⟨b, o, s⟩ := a
        have hs : s = none := by
          have h := hel 0 (by omega)
          rw [List.getElem?_eq_getElem (by omega)] at h
          obtain ⟨cs, h1, h2⟩ := Option.bind_eq_some_iff.1 h
          obtain ⟨v0, v1, v2, v3, v4, t, rfl, ht⟩ := op6_trod n' cs _ h2
          obtain ⟨_, _, hc⟩ := World.cells?_some h1
          have h0 : w.cell? (((⟨b, o, s⟩ : Addr).add (0 * 5)).add 0) = some v0 := hc 0 (by omega)
          exact World.cell?_spot h0
        subst hs
        have h0 : w.cell? (((⟨b, o, none⟩ : Addr).add (i * 5)).add 0) = some v0 := hc 0 (by omega)
        have hb : b < w.heap.size := by
          have := World.block_lt_of_cell? w _ h0
          rw [Addr.add_lit, Addr.add_lit] at this
          exact this
        refine ⟨b, o, v0, v1, v2, v3, v4, rfl, hb, fun j v hj => ?_, ht⟩
        have hj4 : j < 5 := by
          have := (List.getElem?_eq_some_iff.1 hj).1
          simpa using this
        have := hc j hj4
        rw [Addr.add_lit, Addr.add_lit] at this
        rw [this]
        exact hj
      · exact ⟨⟨0, 0, 0, 0, []⟩, fun h => absurd h hi⟩
    obtain ⟨f, hf⟩ := Classical.axiomOfChoice part
    refine ⟨(List.range n).map f, by simp, hlc, hcm, fun i x hx => ?_⟩
    have hi : i < n := by
      have := (List.getElem?_eq_some_iff.1 hx).1
      simpa using this
    have : x = f i := by
      rw [List.getElem?_map, List.getElem?_range hi] at hx
      simpa using hx.symm
    subst this
    exact hf i hi
end
end Go.Proofs.Ytcaddokedkndmaa
