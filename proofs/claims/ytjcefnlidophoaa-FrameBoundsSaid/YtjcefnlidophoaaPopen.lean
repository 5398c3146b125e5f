/- A packet among a law's arguments: what it reads as. -/
import Derived.Test.YtjcefnlidophoaaRow
import Derived.Test.YtjcefnlidophoaaPack
import Derived.Deep.Slices
import Derived.Deep.Fields
import Derived.Lib.SmallJoins
namespace Go.Proofs.Ytjcefnlidophoaa
open Go.RowKit Go.Deep Go.ChangeShapes Go.WideShapes
set_option maxRecDepth 100000

/-- A packet, of any numbers. -/
def PkIs (w : World) (v : Value) : Prop := ∃ (f l s a : Int) (A : Option Addr) (c : Nat) (dl : List Nat), v = .agg #[.int .i64 f, .int .i64 l, .int .i64 s, .int .i64 a, .slice A dl.length c] ∧ Bs w (.slice A dl.length c) dl ∧
  (-9223372036854775808 ≤ f ∧ f ≤ 9223372036854775807) ∧ (-9223372036854775808 ≤ l ∧ l ≤ 9223372036854775807) ∧ (-9223372036854775808 ≤ s ∧ s ≤ 9223372036854775807) ∧ (-9223372036854775808 ≤ a ∧ a ≤ 9223372036854775807)
section
variable {H : Type} {enc : TypeId × Value → H} {w : World}
theorem pk_fields : ∃ o0 o1 o2 o3 o4 : Field, Try.prog.underlying 29 = some (.struct #[o0, o1, o2, o3, o4]) ∧ oneCellFields Try.prog #[o0, o1, o2, o3, o4] = true ∧ o0.type = 3 ∧ o1.type = 3 ∧ o2.type = 3 ∧ o3.type = 3 ∧ o4.type = 27 :=
  ⟨_, _, _, _, _, Try.underlying29, by kernel_rfl, rfl, rfl, rfl, rfl, rfl⟩
theorem pk_size : Try.prog.cellsOf 29 = 5 := by kernel_rfl
theorem pk_open {r : Reach} {b0 : Nat} {v : Value} {d : DataW H} {p : List MemPlace} (hv : Value.okWide Try.prog w r b0 29 v) (h : DataW.Trod enc Try.prog w 0 (fun _ => true) true 29 v d p) :
    PkIs w v := by
  obtain ⟨o0, o1, o2, o3, o4, hu, hone, e0, e1, e2, e3, e4⟩ := pk_fields
  obtain ⟨cs, rfl, hsz⟩ := okWide_struct hu hv
  rw [pk_size] at hsz
  obtain ⟨c0, c1, c2, c3, c4, rfl⟩ : ∃ c0 c1 c2 c3 c4, cs = #[c0, c1, c2, c3, c4] := by
    match cs, hsz with
    | ⟨[c0, c1, c2, c3, c4]⟩, _ => exact ⟨_, _, _, _, _, rfl⟩
  obtain ⟨fuel, hf⟩ := h
  have hcs : (Value.agg #[c0, c1, c2, c3, c4]).cells.toList = [c0, c1, c2, c3, c4] := rfl
  rw [hcs] at hf
  obtain ⟨ys, n, _, _, hlen, hyl, hfl⟩ := DataW.trod_struct hu hf
  have cut : ∀ (j : Nat) (f : Field) (c : Value), #[o0, o1, o2, o3, o4][j]? = some f → [c0, c1, c2, c3, c4][j]? = some c → ∃ y, DataW.trod enc Try.prog w 0 (fun _ => true) true n f.type [c] = some y := by
    intro j f c hj hc
    obtain ⟨h1, h2⟩ := hone_of hone j f hj
    have := hfl j f hj
    rw [h1, h2] at this
    have hj4 : j < 5 := by
      have := (Array.getElem?_eq_some_iff.1 hj).1
      simpa using this
    have e : ([c0, c1, c2, c3, c4].drop j).take 1 = [c] := by
      match j, hj4, hc with
      | 0, _, hc => simpa using hc
      | 1, _, hc => simpa using hc
      | 2, _, hc => simpa using hc
      | 3, _, hc => simpa using hc
      | 4, _, hc => simpa using hc
    rw [e] at this
    have hys : j < ys.length := by rw [hyl]; simpa using hj4
    exact ⟨_, this.trans (List.getElem?_eq_getElem hys)⟩
  obtain ⟨y0, h0⟩ := cut 0 o0 c0 rfl rfl
  obtain ⟨y1, h1⟩ := cut 1 o1 c1 rfl rfl
  obtain ⟨y2, h2⟩ := cut 2 o2 c2 rfl rfl
  obtain ⟨y3, h3⟩ := cut 3 o3 c3 rfl rfl
  obtain ⟨y4, h4⟩ := cut 4 o4 c4 rfl rfl
  rw [e0] at h0
  rw [e1] at h1
  rw [e2] at h2
  rw [e3] at h3
  rw [e4] at h4
  obtain ⟨f, hf', _, wf⟩ := DataW.trod_int Try.underlying3 h0
  obtain ⟨l, hl', _, wl⟩ := DataW.trod_int Try.underlying3 h1
  obtain ⟨s, hs', _, ws⟩ := DataW.trod_int Try.underlying3 h2
  obtain ⟨a, ha', _, wa⟩ := DataW.trod_int Try.underlying3 h3
  simp only [List.cons.injEq, and_true] at hf' hl' hs' ha'
  subst hf' hl' hs' ha'
  rcases open_ints Try.underlying27 Try.underlying5 (by kernel_rfl) h4 with ⟨hcs, _⟩ | ⟨x, n4, c, zs, hcs, _, hl, hm, hz, _, hcell, hwz⟩
  · simp only [List.cons.injEq, and_true] at hcs
    subst hcs
    exact ⟨f, l, s, a, none, 0, [], rfl, Bs.nil _, wf_i64 wf, wf_i64 wl, wf_i64 ws, wf_i64 wa⟩
  · simp only [List.cons.injEq, and_true] at hcs
    subst hcs
    obtain ⟨l', hl', hc', hat, h8⟩ := (ints_some .u8 w x n4 c zs hl hm (by simpa using hz) hcell hwz).bytes
    subst hl'
    exact ⟨f, l, s, a, some x, c, l', rfl, ⟨⟨some x, c, rfl, hc', hat⟩, h8⟩, wf_i64 wf, wf_i64 wl, wf_i64 ws, wf_i64 wa⟩
end
end Go.Proofs.Ytjcefnlidophoaa
