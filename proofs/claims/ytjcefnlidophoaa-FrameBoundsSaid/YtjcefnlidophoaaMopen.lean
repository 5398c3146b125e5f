/- A message among a law's arguments: what it reads as. -/
import Derived.Test.YtjcefnlidophoaaOpen
import Derived.Test.YtjcefnlidophoaaBrw
import Derived.Test.YtjcefnlidophoaaMs
namespace Go.Proofs.Ytjcefnlidophoaa
open Go.RowKit Go.Deep Go.ChangeShapes Go.WideShapes
set_option maxRecDepth 100000

theorem BRows.blk {w : World} {a : Option Addr} {n c : Nat} {ll : List (List Nat)} (h : BRows w a n c ll) : BlkS w (fun b => b < w.heap.size) a ll := by
  intro i x hx
  have hi : i < ll.length := (List.getElem?_eq_some_iff.1 hx).1
  have hl := h.len
  obtain ⟨b, o, e, hb, hr⟩ := h.row (by omega)
  obtain ⟨A, k, hc, hbs⟩ := hr i (by omega)
  have hg : ll.getD i [] = x := by
    rw [List.getD_eq_getElem?_getD, hx]
    rfl
  rw [hg] at hc hbs
  obtain ⟨-, h2, h3, h4⟩ := hbs.parts
  exact ⟨b, o, A, k, e, hb, hc, h2, h3, h4⟩
section
variable {H : Type} {enc : TypeId × Value → H} {w : World}
theorem msg_fields : ∃ o0 o1 o2 o3 : Field, Try.prog.underlying 26 = some (.struct #[o0, o1, o2, o3]) ∧ oneCellFields Try.prog #[o0, o1, o2, o3] = true ∧ o0.type = 5 ∧ o1.type = 22 ∧ o2.type = 23 ∧ o3.type = 24 :=
  ⟨_, _, _, _, Try.underlying26, by kernel_rfl, rfl, rfl, rfl, rfl⟩
theorem msg_size : Try.prog.cellsOf 26 = 4 := by kernel_rfl
theorem slice_of {t e : TypeId} {n : Nat} {v : Value} {y : DataW H × List MemPlace} (ht : Try.prog.underlying t = some (.slice e)) (h : DataW.trod enc Try.prog w 0 (fun _ => true) true n t [v] = some y) : ∃ a n c, v = .slice a n c := by
  rcases DataW.trod_slice ht h with ⟨hc3, _⟩ | ⟨a, len, cap, elems, rest, n', rfl, hc3, _⟩
  · simp only [List.cons.injEq, and_true] at hc3
    exact ⟨_, _, _, hc3⟩
  · simp only [List.cons.injEq, and_true] at hc3
    exact ⟨_, _, _, hc3⟩
theorem msg_open {r : Reach} {b0 : Nat} {v : Value} {d : DataW H} {p : List MemPlace} (hv : Value.okWide Try.prog w r b0 26 v) (h : DataW.Trod enc Try.prog w 0 (fun _ => true) true 26 v d p) :
    ∃ m, MRep w (fun b => b < w.heap.size) v m := by
  obtain ⟨o0, o1, o2, o3, hu, hone, e0, e1, e2, e3⟩ := msg_fields
  obtain ⟨v0, v1, v2, v3, y0, y1, y2, y3, n, rfl, -, -, h0, h1, h2, h3⟩ := Joins.open_agg4 hu hone msg_size hv h
  rw [e0] at h0
  rw [e1] at h1
  rw [e2] at h2
  rw [e3] at h3
  obtain ⟨k, hk, _, wk⟩ := DataW.trod_int Try.underlying5 h0
  simp only [List.cons.injEq, and_true] at hk
  subst hk
  obtain ⟨k, rfl, hk8⟩ := wf_u8 wk
  obtain ⟨Av, nv, cv, rfl⟩ := slice_of Try.underlying23 h2
  obtain ⟨Ab, nb, cb, rfl⟩ := slice_of Try.underlying24 h3
  obtain ⟨vl, rfl, hvc, -, hvr⟩ := vals_open (held := true) (enc := enc) (w := w) (a := Av) (n := nv) (c := cv) (d := y2.1) (p := y2.2) ⟨n, h2⟩
  obtain ⟨bl, hbr⟩ := brows_open (enc := enc) (W := w) (a := Ab) (n := nb) (c := cb) (d := y3.1) (p := y3.2) ⟨n, h3⟩
  have hbk := hbr.blk
  have hbl := hbr.len
  have hbc := hbr.cap
  subst hbl
  have hnum : ∃ (An : Option Addr) (cn : Nat) (zs : List Int), v1 = .slice An zs.length cn ∧ Ints .i64 w An zs.length cn zs := by
    rcases open_ints Try.underlying22 Try.underlying2 (by kernel_rfl) h1 with ⟨hcs, _⟩ | ⟨x, l, c, zs, hcs, _, hl, hm, hz, _, hcell, hwz⟩
    · simp only [List.cons.injEq, and_true] at hcs
      exact ⟨none, 0, [], hcs, ints_nil _ _⟩
    · simp only [List.cons.injEq, and_true] at hcs
      have hi := ints_some .i64 w x l c zs hl hm (by simpa using hz) hcell hwz
      have hlen := hi.len
      exact ⟨some x, c, zs.take l, by rw [hlen]; exact hcs, by rw [hlen]; exact hi⟩
  obtain ⟨An, cn, zs, rfl, hi⟩ := hnum
  refine ⟨⟨k, zs, vl, bl⟩, ⟨hk8, fun z hz => wf_i64 (hi.wf z hz), fun t ht => ?_, fun l hl x hx => ?_⟩, An, cn, Av, cv, Ab, cb, rfl, hi.cap, hvc, hbc, hi.at_, hvr, hbk⟩
  · obtain ⟨i, hi, rfl⟩ := List.getElem_of_mem ht
    obtain ⟨_, _, _, _, _, _, _, _, _, hr⟩ := hvr.at i hi
    exact hr.ok 16
  · obtain ⟨i, hi, rfl⟩ := List.getElem_of_mem hl
    obtain ⟨_, _, _, _, _, _, _, _, _, h8⟩ := hbk i _ (List.getElem?_eq_getElem hi)
    exact h8 x hx
end
end Go.Proofs.Ytjcefnlidophoaa
