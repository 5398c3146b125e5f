/- What a value, and a list of values, among a law's arguments reads as. -/
import Derived.Test.YtjcefnlidophoaaRow
import Derived.Test.YtjcefnlidophoaaGc
import Derived.Deep.Slices
import Derived.Deep.Fields
import Derived.Lib.SmallJoins
namespace Go.Proofs.Ytjcefnlidophoaa
open Go.RowKit Go.Deep Go.ChangeShapes Go.WideShapes
set_option maxRecDepth 100000

theorem str_open (s : ByteArray) : ∃ l : List Nat, s = strOf l ∧ (∀ y ∈ l, y < 256) ∧ l.length = s.size := by
  refine ⟨s.data.toList.map UInt8.toNat, ?_, ?_, ?_⟩
  · have e : (s.data.toList.map UInt8.toNat).map UInt8.ofNat = s.data.toList := by
      rw [List.map_map]
      exact (List.map_congr_left (g := id) fun x _ => by exact UInt8.ofNat_toNat).trans (List.map_id _)
    unfold strOf
    rw [e]
  · intro y hy
    obtain ⟨x, _, rfl⟩ := List.mem_map.1 hy
    exact x.toNat_lt
  · rw [List.length_map, Array.length_toList]
    rfl

section
variable {H : Type} {enc : TypeId × Value → H} {w : World} {held : Bool}
theorem val_fields : ∃ o0 o1 o2 o3 : Field, Try.prog.underlying 43 = some (.struct #[o0, o1, o2, o3]) ∧ oneCellFields Try.prog #[o0, o1, o2, o3] = true ∧ o0.type = 41 ∧ o1.type = 2 ∧ o2.type = 9 ∧ o3.type = 23 :=
  ⟨_, _, _, _, Try.underlying43, by kernel_rfl, rfl, rfl, rfl, rfl⟩
theorem val_size : Try.prog.cellsOf 43 = 4 := by kernel_rfl

theorem reps_trod (n : Nat) (ih : ∀ (cs : List Value) (x : DataW H × List MemPlace), DataW.trod enc Try.prog w 0 (fun _ => true) held n 43 cs = some x → ∃ v0 v1 v2 v3 t, cs = [v0, v1, v2, v3] ∧ Rep w w.heap.size (.agg #[v0, v1, v2, v3]) t)
    (a : Addr) (len : Nat) (elems : List (DataW H × List MemPlace)) (he : elems.length = len)
    (hel : ∀ i, i < len → (w.cells? 0 (a.add (i * Try.prog.cellsOf 43)) (Try.prog.cellsOf 43)).bind (DataW.trod enc Try.prog w 0 (fun _ => true) held n 43) = elems[i]?) :
    ∃ (l : List Va), l.length = len ∧ Reps w w.heap.size (some a) l := by
  rw [val_size] at hel
  have part : ∀ i, ∃ (xt : Value × Va), i < len → (∃ b o y0 y1 y2 y3, some a = some (⟨b, o, none⟩ : Addr) ∧ b < w.heap.size ∧ xt.1 = .agg #[y0, y1, y2, y3] ∧ w.rangeAt b (o + i * 4) [y0, y1, y2, y3]) ∧ Rep w w.heap.size xt.1 xt.2 := by
    intro i
    by_cases hi : i < len
    · have h := hel i hi
      rw [List.getElem?_eq_getElem (by omega)] at h
      obtain ⟨cs, h1, h2⟩ := Option.bind_eq_some_iff.1 h
      obtain ⟨v0, v1, v2, v3, t, rfl, ht⟩ := ih cs _ h2
      obtain ⟨_, _, hc⟩ := World.cells?_some h1
      refine ⟨(.agg #[v0, v1, v2, v3], t), fun _ => ⟨?_, ht⟩⟩
      obtain ⟨b, o, s⟩ := a
      have hs : s = none := by
        have h := hel 0 (by omega)
        rw [List.getElem?_eq_getElem (by omega)] at h
        obtain ⟨cs, h1, h2⟩ := Option.bind_eq_some_iff.1 h
        obtain ⟨v0, v1, v2, v3, t, rfl, ht⟩ := ih cs _ h2
        obtain ⟨_, _, hc⟩ := World.cells?_some h1
        have h0 : w.cell? (((⟨b, o, s⟩ : Addr).add (0 * 4)).add 0) = some v0 := hc 0 (by omega)
        exact World.cell?_spot h0
      subst hs
      have h0 : w.cell? (((⟨b, o, none⟩ : Addr).add (i * 4)).add 0) = some v0 := hc 0 (by omega)
      have hb : b < w.heap.size := by
        have := World.block_lt_of_cell? w _ h0
        rw [Addr.add_lit, Addr.add_lit] at this
        exact this
      refine ⟨b, o, v0, v1, v2, v3, rfl, hb, rfl, fun j v hj => ?_⟩
      have hj4 : j < 4 := by
        have := (List.getElem?_eq_some_iff.1 hj).1
        simpa using this
      have := hc j hj4
      rw [Addr.add_lit, Addr.add_lit] at this
      rw [this]
      exact hj
    · exact ⟨(.nilIface, .mk 0 0 [] []), fun h => absurd h hi⟩
  obtain ⟨f, hf⟩ := Classical.axiomOfChoice part
  refine ⟨(List.range len).map fun i => (f i).2, by simp, fun i => (f i).1, fun i hi => (hf i (by simpa using hi)).1, fun i t ht => ?_⟩
  have hi : i < len := by
    have := (List.getElem?_eq_some_iff.1 ht).1
    simpa using this
  have : t = (f i).2 := by
    rw [List.getElem?_map, List.getElem?_range hi] at ht
    simpa using ht.symm
  subst this
  exact (hf i hi).2

/-- The cells of a value read as a tree. -/
theorem val_trod : ∀ (N fuel : Nat), fuel ≤ N → ∀ (cs : List Value) (x : DataW H × List MemPlace), DataW.trod enc Try.prog w 0 (fun _ => true) held fuel 43 cs = some x →
    ∃ v0 v1 v2 v3 t, cs = [v0, v1, v2, v3] ∧ Rep w w.heap.size (.agg #[v0, v1, v2, v3]) t := by
  intro N
  induction N with
  | zero =>
    intro fuel hf cs x h
    obtain rfl : fuel = 0 := by omega
    simp [DataW.trod] at h
  | succ N ih =>
    intro fuel hf cs x h
    obtain ⟨o0, o1, o2, o3, hu, hone, e0, e1, e2, e3⟩ := val_fields
    obtain ⟨ys, n, rfl, rfl, hlen, hyl, hfl⟩ := DataW.trod_struct hu h
    rw [val_size] at hlen
    obtain ⟨c0, c1, c2, c3, rfl⟩ : ∃ c0 c1 c2 c3, cs = [c0, c1, c2, c3] := by
      match cs, hlen with
      | [c0, c1, c2, c3], _ => exact ⟨_, _, _, _, rfl⟩
    have cut : ∀ (j : Nat) (f : Field) (c : Value), #[o0, o1, o2, o3][j]? = some f → [c0, c1, c2, c3][j]? = some c → ∃ y, DataW.trod enc Try.prog w 0 (fun _ => true) held n f.type [c] = some y := by
      intro j f c hj hc
      obtain ⟨h1, h2⟩ := hone_of hone j f hj
      have := hfl j f hj
      rw [h1, h2] at this
      have hj4 : j < 4 := by
        have := (Array.getElem?_eq_some_iff.1 hj).1
        simpa using this
      have e : ([c0, c1, c2, c3].drop j).take 1 = [c] := by
        match j, hj4, hc with
        | 0, _, hc => simpa using hc
        | 1, _, hc => simpa using hc
        | 2, _, hc => simpa using hc
        | 3, _, hc => simpa using hc
      rw [e] at this
      have hys : j < ys.length := by rw [hyl]; simpa using hj4
      exact ⟨_, this.trans (List.getElem?_eq_getElem hys)⟩
    obtain ⟨y0, h0⟩ := cut 0 o0 c0 rfl rfl
    obtain ⟨y1, h1⟩ := cut 1 o1 c1 rfl rfl
    obtain ⟨y2, h2⟩ := cut 2 o2 c2 rfl rfl
    obtain ⟨y3, h3⟩ := cut 3 o3 c3 rfl rfl
    rw [e0] at h0
    rw [e1] at h1
    rw [e2] at h2
    rw [e3] at h3
    obtain ⟨k, hk, _, wk⟩ := DataW.trod_int Try.underlying41 h0
    obtain ⟨m, hm, _, wm⟩ := DataW.trod_int Try.underlying2 h1
    obtain ⟨s, hs, _, ws⟩ := DataW.trod_string Try.underlying9 h2
    simp only [List.cons.injEq, and_true] at hk hm hs
    subst hk hm hs
    obtain ⟨k, rfl, hk8⟩ := wf_u8 wk
    obtain ⟨hm0, hm1⟩ := wf_i64 wm
    obtain ⟨l, rfl, hl8, hll⟩ := str_open s
    unfold maxLen at ws
    rcases DataW.trod_slice Try.underlying23 h3 with ⟨hc3, _⟩ | ⟨a, len, cap, elems, rest, n', rfl, hc3, _, _, hlc, hcm, hel0, hel, _⟩
    · simp only [List.cons.injEq, and_true] at hc3
      subst hc3
      exact ⟨_, _, _, _, .mk k m l [], rfl, (RepsS.nil w _ none).mk hk8 hm0 hm1 hl8 (by omega) (by simp) (by simp)⟩
    · simp only [List.cons.injEq, and_true] at hc3
      subst hc3
      unfold maxLen at hcm
      obtain ⟨t, rfl, ht⟩ := reps_trod n' (fun cs x h => ih n' (by omega) cs x h) a len elems hel0 hel
      exact ⟨_, _, _, _, .mk k m l t, rfl, ht.mk hk8 hm0 hm1 hl8 (by omega) hlc (by omega)⟩
/-- A value among the arguments. -/
theorem val_open {r : Reach} {b0 : Nat} {v : Value} {d : DataW H} {p : List MemPlace} (hv : Value.okWide Try.prog w r b0 43 v) (h : DataW.Trod enc Try.prog w 0 (fun _ => true) held 43 v d p) :
    ∃ t, Rep w w.heap.size v t := by
  obtain ⟨o0, o1, o2, o3, hu, hone, -⟩ := val_fields
  obtain ⟨v0, v1, v2, v3, _, _, _, _, _, rfl, -⟩ := Joins.open_agg4 hu hone val_size hv h
  obtain ⟨fuel, hf⟩ := h
  obtain ⟨u0, u1, u2, u3, t, e, ht⟩ := val_trod fuel fuel (Nat.le_refl _) _ _ hf
  simp only [Value.cells, List.cons.injEq, and_true] at e
  obtain ⟨rfl, rfl, rfl, rfl⟩ := e
  exact ⟨t, ht⟩
/-- A list of values among the arguments. -/
theorem vals_open {a : Option Addr} {n c : Nat} {d : DataW H} {p : List MemPlace} (h : DataW.Trod enc Try.prog w 0 (fun _ => true) held 23 (.slice a n c) d p) :
    ∃ l, l.length = n ∧ n ≤ c ∧ c ≤ maxLen ∧ Reps w w.heap.size a l := by
  obtain ⟨fuel, hf⟩ := h
  rcases DataW.trod_slice Try.underlying23 hf with ⟨hc3, _⟩ | ⟨a, len, cap, elems, rest, n', rfl, hc3, _, _, hlc, hcm, hel0, hel, _⟩
  · simp [Value.cells] at hc3
    obtain ⟨rfl, rfl, rfl⟩ := hc3
    exact ⟨[], rfl, Nat.le_refl _, by simp, RepsS.nil _ _ _⟩
  · simp [Value.cells] at hc3
    obtain ⟨rfl, rfl, rfl⟩ := hc3
    obtain ⟨t, rfl, ht⟩ := reps_trod n' (fun cs x h => val_trod n' n' (Nat.le_refl _) cs x h) a _ elems hel0 hel
    exact ⟨t, rfl, hlc, hcm, ht⟩
end
end Go.Proofs.Ytjcefnlidophoaa
