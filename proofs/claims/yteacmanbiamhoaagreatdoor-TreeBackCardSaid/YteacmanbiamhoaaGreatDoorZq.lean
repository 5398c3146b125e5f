/- What a program among a law's arguments reads as. -/
import Derived.Test.YteacmanbiamhoaaGreatDoorRow
import Derived.Test.YteacmanbiamhoaaGreatDoorTb
import Derived.Test.YteacmanbiamhoaaGreatDoorZso
import Derived.Test.YteacmanbiamhoaaGreatDoorZg
import Derived.Deep.Slices
import Derived.Deep.Fields
import Derived.Lib.SmallJoins
namespace Go.Proofs.YteacmanbiamhoaaGreatDoor
open Go.RowKit Go.Deep Go.ChangeShapes Go.WideShapes
set_option maxRecDepth 100000
set_option linter.unusedVariables false

theorem bytes_open (s : ByteArray) : ∃ l : List Nat, s = strOf l ∧ (∀ y ∈ l, y < 256) ∧ l.length = s.size := by
  refine ⟨s.data.toList.map UInt8.toNat, ?_, ?_, ?_⟩
  · have e : (s.data.toList.map UInt8.toNat).map UInt8.ofNat = s.data.toList := by
      rw [List.map_map]
      exact (List.map_congr_left (g := id) fun x _ => by exact UInt8.ofNat_toNat).trans (List.map_id _)
    unfold strOf
    rw [e]
  · intro y hy
    obtain ⟨x, _, rfl⟩ := List.mem_map.1 hy
    exact x.toNat_lt
  · rw [List.length_map, Array.length_toList]
    rfl
section
variable {H : Type} {enc : TypeId × Value → H} {w : World} {held : Bool}
/-- Below the memory that there is. -/
abbrev Sz (w : World) : Nat → Prop := fun b => b < w.heap.size
/-- The fields of a struct, one by one. -/
theorem struct_cut {t : TypeId} {fs : Array Field} {fuel : Nat} {cs : List Value} {x : DataW H × List MemPlace} (hu : Tryz.prog.underlying t = some (.struct fs)) (hone : oneCellFields Tryz.prog fs = true) (hsz : Tryz.prog.cellsOf t = fs.size) (h : DataW.trod enc Tryz.prog w 0 (fun _ => true) held fuel t cs = some x) :
    cs.length = fs.size ∧ ∃ n, n < fuel ∧ ∀ (j : Nat) (f : Field) (c : Value), fs[j]? = some f → cs[j]? = some c → ∃ y, DataW.trod enc Tryz.prog w 0 (fun _ => true) held n f.type [c] = some y := by
  obtain ⟨ys, n, rfl, rfl, hlen, hyl, hfl⟩ := DataW.trod_struct hu h
  rw [hsz] at hlen
  refine ⟨hlen, n, by omega, fun j f c hj hc => ?_⟩
  obtain ⟨h1, h2⟩ := hone_of hone j f hj
  have := hfl j f hj
  rw [h1, h2] at this
  have hjl := (List.getElem?_eq_some_iff.1 hc).1
  have e : (cs.drop j).take 1 = [c] := by
    rw [List.drop_eq_getElem_cons hjl, List.take_succ_cons, List.take_zero, (List.getElem?_eq_some_iff.1 hc).2]
  rw [e] at this
  have hys : j < ys.length := by rw [hyl, ← hlen]; exact hjl
  exact ⟨_, this.trans (List.getElem?_eq_getElem hys)⟩
/-- A row of structs, each of which reads as one. -/
theorem rows_trod {α : Type} (nd : α → Nd) (G : α → Prop) (dflt : α) {E T : TypeId} {sz : Nat} (hT : Tryz.prog.underlying T = some (.slice E)) (hsz : Tryz.prog.cellsOf E = sz) (hpos : 0 < sz) (N : Nat)
    (ih : ∀ n, n < N → ∀ (cs : List Value) (x : DataW H × List MemPlace), DataW.trod enc Tryz.prog w 0 (fun _ => true) held n E cs = some x → ∃ t : α, cs.length = sz ∧ Rw w (Sz w) (nd t) (.agg cs.toArray) ∧ G t)
    {fuel : Nat} (hf : fuel ≤ N) {c : Value} {y : DataW H × List MemPlace} (h : DataW.trod enc Tryz.prog w 0 (fun _ => true) held fuel T [c] = some y) :
    ∃ l : List α, Rw w (Sz w) (.row sz (l.map nd)) c ∧ ∀ t ∈ l, G t := by
  rcases DataW.trod_slice hT h with ⟨hc3, _⟩ | ⟨a, len, cap, elems, rest, n', rfl, hc3, _, _, hlc, hcm, hel0, hel, _⟩
  · simp only [List.cons.injEq, and_true] at hc3
    subst hc3
    exact ⟨[], Rw.nil sz, by simp⟩
  · simp only [List.cons.injEq, and_true] at hc3
    subst hc3
    rw [hsz] at hel
    have part : ∀ i, ∃ t : α, i < len → (∃ b o vs, some a = some (⟨b, o, none⟩ : Addr) ∧ Sz w b ∧ vs.length = sz ∧ w.rangeAt b (o + i * sz) vs ∧ Rw w (Sz w) (nd t) (.agg vs.toArray)) ∧ G t := by
      intro i
      by_cases hi : i < len
      · have h := hel i hi
        rw [List.getElem?_eq_getElem (by omega)] at h
        obtain ⟨cs, h1, h2⟩ := Option.bind_eq_some_iff.1 h
        obtain ⟨t, hl, ht, hg⟩ := ih n' (by omega) cs _ h2
        obtain ⟨_, _, hc⟩ := World.cells?_some h1
        obtain ⟨b, o, s⟩ := a
        have h0 := hc 0 hpos
        obtain ⟨v0, hv0⟩ : ∃ v0, cs[0]? = some v0 := ⟨cs[0], by rw [List.getElem?_eq_getElem (by omega)]⟩
        rw [hv0] at h0
        have hs : s = none := by
          have h := hel 0 (by omega)
          rw [List.getElem?_eq_getElem (by omega)] at h
          obtain ⟨cs0, h1, h2⟩ := Option.bind_eq_some_iff.1 h
          obtain ⟨t0, hl0, ht0, -⟩ := ih n' (by omega) cs0 _ h2
          obtain ⟨_, _, hc⟩ := World.cells?_some h1
          have h00 := hc 0 hpos
          obtain ⟨u0, hu0⟩ : ∃ u0, cs0[0]? = some u0 := ⟨cs0[0], by rw [List.getElem?_eq_getElem (by omega)]⟩
          rw [hu0, Nat.zero_mul] at h00
          exact World.cell?_spot h00
        subst hs
        rw [Addr.add_lit] at h0
        have hb : b < w.heap.size := by
          have := World.block_lt_of_cell? w _ h0
          rw [Addr.add_lit] at this
          exact this
        refine ⟨t, fun _ => ⟨⟨b, o, cs, rfl, hb, hl, fun j v hj => ?_, ht⟩, hg⟩⟩
        have hjl := (List.getElem?_eq_some_iff.1 hj).1
        have := hc j (by omega)
        rw [Addr.add_lit, Addr.add_lit] at this
        rw [this]
        exact hj
      · exact ⟨dflt, fun h => absurd h hi⟩
    obtain ⟨f, hf⟩ := Classical.axiomOfChoice part
    refine ⟨(List.range len).map f, ?_, ?_⟩
    · rw [Rw]
      refine ⟨some a, cap, by simp, by simpa using hlc, hcm, Rws.of fun j x hx => ?_⟩
      have hj : j < len := by
        have := (List.getElem?_eq_some_iff.1 hx).1
        simpa using this
      have e : x = nd (f j) := by
        rw [List.getElem?_map, List.getElem?_map, List.getElem?_range hj] at hx
        simpa using hx.symm
      subst e
      obtain ⟨b, o, vs, h1, h2, h3, h4, h5⟩ := (hf j hj).1
      exact ⟨b, o, vs, h1, h2, h3, by rw [Nat.zero_add]; exact h4, h5⟩
    · intro t ht
      obtain ⟨i, hi, rfl⟩ := List.mem_map.1 ht
      exact (hf i (by simpa using hi)).2
theorem num_cut {k : IntKind} {t : TypeId} {n : Nat} {c : Value} {y : DataW H × List MemPlace} (hu : Tryz.prog.underlying t = some (.int k)) (h : DataW.trod enc Tryz.prog w 0 (fun _ => true) held n t [c] = some y) : ∃ m, c = .int k m ∧ (Lit.int k m).wf = true := by
  obtain ⟨m, hm, _, wm⟩ := DataW.trod_int hu h
  simp only [List.cons.injEq, and_true] at hm
  exact ⟨m, hm, wm⟩
theorem str_cut {t : TypeId} {n : Nat} {c : Value} {y : DataW H × List MemPlace} (hu : Tryz.prog.underlying t = some .string) (h : DataW.trod enc Tryz.prog w 0 (fun _ => true) held n t [c] = some y) : ∃ l, c = .string (strOf l) ∧ (∀ y ∈ l, y < 256) ∧ l.length ≤ 9223372036854775807 := by
  obtain ⟨s, hs, _, ws⟩ := DataW.trod_string hu h
  simp only [List.cons.injEq, and_true] at hs
  subst hs
  obtain ⟨l, rfl, hl8, hll⟩ := bytes_open s
  unfold maxLen at ws
  exact ⟨l, rfl, hl8, by omega⟩
theorem B8s.of : ∀ {l : List Ex}, (∀ y ∈ l, B8 y) → B8s l
  | [], h => by rw [B8s]; trivial
  | x :: r, h => by rw [B8s]; exact ⟨h x (by simp), B8s.of fun y hy => h y (by simp [hy])⟩
theorem B8Ss.of : ∀ {l : List Sm}, (∀ y ∈ l, B8S y) → B8Ss l
  | [], h => by rw [B8Ss]; trivial
  | x :: r, h => by rw [B8Ss]; exact ⟨h x (by simp), B8Ss.of fun y hy => h y (by simp [hy])⟩
theorem NbsOf : ∀ {l : List Ex}, (∀ y ∈ l, Nb y) → Nbs l
  | [], h => by rw [Nbs]; trivial
  | x :: r, h => by rw [Nbs]; exact ⟨h x (by simp), NbsOf fun y hy => h y (by simp [hy])⟩
theorem NbSsOf : ∀ {l : List Sm}, (∀ y ∈ l, NbS y) → NbSs l
  | [], h => by rw [NbSs]; trivial
  | x :: r, h => by rw [NbSs]; exact ⟨h x (by simp), NbSsOf fun y hy => h y (by simp [hy])⟩
theorem expr_trod : ∀ (N fuel : Nat), fuel ≤ N → ∀ (cs : List Value) (x : DataW H × List MemPlace), DataW.trod enc Tryz.prog w 0 (fun _ => true) held fuel 46 cs = some x →
    ∃ t : Ex, cs.length = 4 ∧ Rw w (Sz w) t.nd (.agg cs.toArray) ∧ (Nb t ∧ B8 t) := by
  intro N
  induction N with
  | zero =>
    intro fuel hf cs x h
    obtain rfl : fuel = 0 := by omega
    simp [DataW.trod] at h
  | succ N ih =>
    intro fuel hf cs x h
    obtain ⟨hl, n, hn, hc⟩ := struct_cut Tryz.underlying46 (by kernel_rfl) (by kernel_rfl) h
    obtain ⟨c0, c1, c2, c3, rfl⟩ : ∃ c0 c1 c2 c3, cs = [c0, c1, c2, c3] := by
      match cs, hl with
      | [c0, c1, c2, c3], _ => exact ⟨_, _, _, _, rfl⟩
    obtain ⟨y0, h0⟩ := hc 0 _ c0 rfl rfl
    obtain ⟨y1, h1⟩ := hc 1 _ c1 rfl rfl
    obtain ⟨y2, h2⟩ := hc 2 _ c2 rfl rfl
    obtain ⟨y3, h3⟩ := hc 3 _ c3 rfl rfl
    obtain ⟨k, rfl, wk⟩ := num_cut Tryz.underlying43 h0
    obtain ⟨s, rfl, hs8, hsl⟩ := str_cut Tryz.underlying9 h1
    obtain ⟨m, rfl, wm⟩ := num_cut Tryz.underlying2 h2
    obtain ⟨k, rfl, hk8⟩ := wf_u8 wk
    obtain ⟨hm0, hm1⟩ := wf_i64 wm
    obtain ⟨l, hl, hg⟩ := rows_trod (sz := 4) Ex.nd (fun t => Nb t ∧ B8 t) (.mk 0 [] 0 []) Tryz.underlying44 (by kernel_rfl) (by decide) N (fun n hn cs x h => ih n (by omega) cs x h) (by omega) h3
    refine ⟨.mk k s m l, rfl, (Ex.rw k s m l _).2 ⟨_, rfl, hs8, hsl, hl⟩, ?_, ?_⟩
    · rw [Nb]
      exact ⟨by omega, NbsOf fun y hy => (hg y hy).1⟩
    · rw [B8]
      exact ⟨hs8, B8s.of fun y hy => (hg y hy).2⟩
theorem stmt_trod : ∀ (N fuel : Nat), fuel ≤ N → ∀ (cs : List Value) (x : DataW H × List MemPlace), DataW.trod enc Tryz.prog w 0 (fun _ => true) held fuel 58 cs = some x →
    ∃ t : Sm, cs.length = 6 ∧ Rw w (Sz w) t.nd (.agg cs.toArray) ∧ (NbS t ∧ B8S t) := by
  intro N
  induction N with
  | zero =>
    intro fuel hf cs x h
    obtain rfl : fuel = 0 := by omega
    simp [DataW.trod] at h
  | succ N ih =>
    intro fuel hf cs x h
    obtain ⟨hl, n, hn, hc⟩ := struct_cut Tryz.underlying58 (by kernel_rfl) (by kernel_rfl) h
    obtain ⟨c0, c1, c2, c3, c4, c5, rfl⟩ : ∃ c0 c1 c2 c3 c4 c5, cs = [c0, c1, c2, c3, c4, c5] := by
      match cs, hl with
      | [c0, c1, c2, c3, c4, c5], _ => exact ⟨_, _, _, _, _, _, rfl⟩
    obtain ⟨y0, h0⟩ := hc 0 _ c0 rfl rfl
    obtain ⟨y1, h1⟩ := hc 1 _ c1 rfl rfl
    obtain ⟨y2, h2⟩ := hc 2 _ c2 rfl rfl
    obtain ⟨y3, h3⟩ := hc 3 _ c3 rfl rfl
    obtain ⟨y4, h4⟩ := hc 4 _ c4 rfl rfl
    obtain ⟨y5, h5⟩ := hc 5 _ c5 rfl rfl
    obtain ⟨k, rfl, wk⟩ := num_cut Tryz.underlying56 h0
    obtain ⟨s, rfl, hs8, hsl⟩ := str_cut Tryz.underlying9 h1
    obtain ⟨m, rfl, wm⟩ := num_cut Tryz.underlying3 h5
    obtain ⟨k, rfl, hk8⟩ := wf_u8 wk
    obtain ⟨l, hl, hg⟩ := rows_trod (sz := 4) Ex.nd (fun t => Nb t ∧ B8 t) (.mk 0 [] 0 []) Tryz.underlying44 (by kernel_rfl) (by decide) n (fun n hn cs x h => expr_trod n n (Nat.le_refl _) cs x h) (Nat.le_refl _) h2
    obtain ⟨l2, hl2, hg2⟩ := rows_trod (sz := 6) Sm.nd (fun t => NbS t ∧ B8S t) (.mk 0 [] [] [] [] 0) Tryz.underlying53 (by kernel_rfl) (by decide) N (fun n hn cs x h => ih n (by omega) cs x h) (by omega) h3
    obtain ⟨l3, hl3, hg3⟩ := rows_trod (sz := 6) Sm.nd (fun t => NbS t ∧ B8S t) (.mk 0 [] [] [] [] 0) Tryz.underlying53 (by kernel_rfl) (by decide) N (fun n hn cs x h => ih n (by omega) cs x h) (by omega) h4
    refine ⟨.mk k s l l2 l3 m, rfl, (Sm.rw k s l l2 l3 m _).2 ⟨_, _, _, rfl, hs8, hsl, hl, hl2, hl3⟩, ?_, ?_⟩
    · rw [NbS]
      exact ⟨NbsOf fun y hy => (hg y hy).1, NbSsOf fun y hy => (hg2 y hy).1, NbSsOf fun y hy => (hg3 y hy).1⟩
    · rw [B8S]
      exact ⟨B8s.of fun y hy => (hg y hy).2, B8Ss.of fun y hy => (hg2 y hy).2, B8Ss.of fun y hy => (hg3 y hy).2⟩
/-- A row of names. -/
theorem names_trod {fuel : Nat} {c : Value} {y : DataW H × List MemPlace} (h : DataW.trod enc Tryz.prog w 0 (fun _ => true) held fuel 41 [c] = some y) : ∃ l : List (List Nat), Rw w (Sz w) (.row 1 (l.map nmNd)) c := by
  obtain ⟨l, hl, -⟩ := rows_trod (sz := 1) nmNd (fun _ => True) [] Tryz.underlying41 (by kernel_rfl) (by decide) fuel (fun n hn cs x h => by
    obtain ⟨s, hs, _, ws⟩ := DataW.trod_string Tryz.underlying9 h
    obtain ⟨l, rfl, hl8, hll⟩ := bytes_open s
    unfold maxLen at ws
    subst hs
    exact ⟨l, rfl, (nm_rw l _).2 ⟨rfl, hl8, by omega⟩, trivial⟩) (Nat.le_refl _) h
  exact ⟨l, hl⟩
theorem body_trod (fuel : Nat) (cs : List Value) (x : DataW H × List MemPlace) (h : DataW.trod enc Tryz.prog w 0 (fun _ => true) held fuel 55 cs = some x) :
    ∃ t : Bd, cs.length = 4 ∧ Rw w (Sz w) t.nd (.agg cs.toArray) ∧ (NbSs t.st ∧ B8Ss t.st) := by
  obtain ⟨hl, n, hn, hc⟩ := struct_cut Tryz.underlying55 (by kernel_rfl) (by kernel_rfl) h
  obtain ⟨c0, c1, c2, c3, rfl⟩ : ∃ c0 c1 c2 c3, cs = [c0, c1, c2, c3] := by
    match cs, hl with
    | [c0, c1, c2, c3], _ => exact ⟨_, _, _, _, rfl⟩
  obtain ⟨y0, h0⟩ := hc 0 _ c0 rfl rfl
  obtain ⟨y1, h1⟩ := hc 1 _ c1 rfl rfl
  obtain ⟨y2, h2⟩ := hc 2 _ c2 rfl rfl
  obtain ⟨y3, h3⟩ := hc 3 _ c3 rfl rfl
  obtain ⟨s, rfl, hs8, hsl⟩ := str_cut Tryz.underlying9 h0
  obtain ⟨m, rfl, wm⟩ := num_cut Tryz.underlying3 h3
  obtain ⟨ps, hps⟩ := names_trod h1
  obtain ⟨l2, hl2, hg2⟩ := rows_trod (sz := 6) Sm.nd (fun t => NbS t ∧ B8S t) (.mk 0 [] [] [] [] 0) Tryz.underlying53 (by kernel_rfl) (by decide) n (fun n hn cs x h => stmt_trod n n (Nat.le_refl _) cs x h) (Nat.le_refl _) h2
  exact ⟨⟨s, ps, l2, m⟩, rfl, (hd_rw s ps 6 (l2.map Sm.nd) m _).2 ⟨_, _, rfl, hs8, hsl, hps, hl2⟩, NbSsOf fun y hy => (hg2 y hy).1, B8Ss.of fun y hy => (hg2 y hy).2⟩
theorem role_trod (fuel : Nat) (cs : List Value) (x : DataW H × List MemPlace) (h : DataW.trod enc Tryz.prog w 0 (fun _ => true) held fuel 85 cs = some x) :
    ∃ t : Rl, cs.length = 4 ∧ Rw w (Sz w) t.nd (.agg cs.toArray) ∧ ∀ b ∈ t.on, (NbSs b.st ∧ B8Ss b.st) := by
  obtain ⟨hl, n, hn, hc⟩ := struct_cut Tryz.underlying85 (by kernel_rfl) (by kernel_rfl) h
  obtain ⟨c0, c1, c2, c3, rfl⟩ : ∃ c0 c1 c2 c3, cs = [c0, c1, c2, c3] := by
    match cs, hl with
    | [c0, c1, c2, c3], _ => exact ⟨_, _, _, _, rfl⟩
  obtain ⟨y0, h0⟩ := hc 0 _ c0 rfl rfl
  obtain ⟨y1, h1⟩ := hc 1 _ c1 rfl rfl
  obtain ⟨y2, h2⟩ := hc 2 _ c2 rfl rfl
  obtain ⟨y3, h3⟩ := hc 3 _ c3 rfl rfl
  obtain ⟨s, rfl, hs8, hsl⟩ := str_cut Tryz.underlying9 h0
  obtain ⟨m, rfl, wm⟩ := num_cut Tryz.underlying3 h3
  obtain ⟨ps, hps⟩ := names_trod h1
  obtain ⟨l2, hl2, hg2⟩ := rows_trod (sz := 4) Bd.nd (fun b => NbSs b.st ∧ B8Ss b.st) ⟨[], [], [], 0⟩ Tryz.underlying23 (by kernel_rfl) (by decide) n (fun n hn cs x h => body_trod n cs x h) (Nat.le_refl _) h2
  exact ⟨⟨s, ps, l2, m⟩, rfl, (hd_rw s ps 4 (l2.map Bd.nd) m _).2 ⟨_, _, rfl, hs8, hsl, hps, hl2⟩, hg2⟩
/-- A program among the arguments. -/
theorem prog_open {r : Reach} {b0 : Nat} {v : Value} {d : DataW H} {p : List MemPlace} (hv : Value.okWide Tryz.prog w r b0 26 v) (h : DataW.Trod enc Tryz.prog w 0 (fun _ => true) held 26 v d p) :
    ∃ g : Pg, Rw w (Sz w) g.nd v ∧ NbP g ∧ B8P g := by
  obtain ⟨cs, rfl, hsz⟩ := okWide_struct Tryz.underlying26 hv
  rw [show Tryz.prog.cellsOf 26 = 2 by kernel_rfl] at hsz
  obtain ⟨c0, c1, rfl⟩ : ∃ c0 c1, cs = #[c0, c1] := by
    match cs, hsz with
    | ⟨[c0, c1]⟩, _ => exact ⟨_, _, rfl⟩
  obtain ⟨fuel, hf⟩ := h
  have hcs : (Value.agg #[c0, c1]).cells.toList = [c0, c1] := rfl
  rw [hcs] at hf
  obtain ⟨hl, n, hn, hc⟩ := struct_cut Tryz.underlying26 (by kernel_rfl) (by kernel_rfl) hf
  obtain ⟨y0, h0⟩ := hc 0 _ c0 rfl rfl
  obtain ⟨y1, h1⟩ := hc 1 _ c1 rfl rfl
  obtain ⟨l2, hl2, hg2⟩ := rows_trod (sz := 4) Bd.nd (fun b => NbSs b.st ∧ B8Ss b.st) ⟨[], [], [], 0⟩ Tryz.underlying23 (by kernel_rfl) (by decide) n (fun n hn cs x h => body_trod n cs x h) (Nat.le_refl _) h0
  obtain ⟨l3, hl3, hg3⟩ := rows_trod (sz := 4) Rl.nd (fun r => ∀ b ∈ r.on, (NbSs b.st ∧ B8Ss b.st)) ⟨[], [], [], 0⟩ Tryz.underlying24 (by kernel_rfl) (by decide) n (fun n hn cs x h => role_trod n cs x h) (Nat.le_refl _) h1
  exact ⟨⟨l2, l3⟩, (Pg.rw ⟨l2, l3⟩ _).2 ⟨_, _, rfl, hl2, hl3⟩, ⟨fun b hb => (hg2 b hb).1, fun r hr b hb => (hg3 r hr b hb).1⟩, ⟨fun b hb => (hg2 b hb).2, fun r hr b hb => (hg3 r hr b hb).2⟩⟩
end
end Go.Proofs.YteacmanbiamhoaaGreatDoor
