/- drover/frame.Unpack: the walk. -/
import Derived.Test.YtjcefnlidophoaaUnpack
import Derived.Deep.RegionHeld3
import Derived.Deep.DeepCutAuto
import Derived.BigQuiet
namespace Go.Proofs.Ytjcefnlidophoaa
open Go.RowKit

def zeroP : Value := .agg #[.int .i64 0, .int .i64 0, .int .i64 0, .int .i64 0, .slice none 0 0]
def pget (l : List Nat) : Except Nat Pk := if 1048640 < l.length then .error 3 else if (us l).2 ≠ 0 then .error (us l).2 else pdec (us l).1
def OutUnpack (r : Except Nat Pk) (w : World) (e : Ending) (w' : World) : Prop := Below w.heap.size w w' ∧ match r with
  | .error er => e = .returned (.tuple #[zeroP, .int .i64 ((er : Nat) : Int)])
  | .ok p => ∃ A c, e = .returned (.tuple #[.agg #[.int .i64 (p.f : Int), .int .i64 (p.l : Int), .int .i64 (p.s : Int), .int .i64 (p.a : Int), .slice A p.d.length c], .int .i64 0]) ∧ Own w' w.heap.size (.slice A p.d.length c) p.d ∧ Bs w' (.slice A p.d.length c) p.d
theorem set5 {w : World} {g : Nat} {y0 y1 y2 y3 y4 : Value} {T : TypeId} {fr : Nat × Nat} (h : w.heap[g]? = some (.cells #[y0, y1, y2, y3, y4] T fr)) (z0 z1 z2 z3 z4 : Value) :
    (((((w.setCell ⟨g, 0, none⟩ z0).setCell ⟨g, 1, none⟩ z1).setCell ⟨g, 2, none⟩ z2).setCell ⟨g, 3, none⟩ z3).setCell ⟨g, 4, none⟩ z4).heap[g]? = some (.cells #[z0, z1, z2, z3, z4] T fr) :=
  heap_set (heap_set (heap_set (heap_set (heap_set h 0 z0) 1 z1) 2 z2) 3 z3) 4 z4
theorem bel5 {w W : World} {B g : Nat} (h : Below B w W) (hg : B ≤ g) (z0 z1 z2 z3 z4 : Value) : Below B w (((((W.setCell ⟨g, 0, none⟩ z0).setCell ⟨g, 1, none⟩ z1).setCell ⟨g, 2, none⟩ z2).setCell ⟨g, 3, none⟩ z3).setCell ⟨g, 4, none⟩ z4) :=
  ((((h.setCell hg _).setCell hg _).setCell hg _).setCell hg _).setCell hg _
theorem many_err0 {α : Type} {f : Nat → Except Nat (α × Nat)} (hf : ∀ a er, f a = .error er → er ≠ 0) : ∀ (c a er : Nat), many f c a = .error er → er ≠ 0
  | 0, a, er, h => by simp [many] at h
  | c + 1, a, er, h => by
    rw [many] at h
    split at h
    · rename_i e he
      injection h with h
      exact h ▸ hf _ _ he
    · split at h
      · rename_i e he
        injection h with h
        exact h ▸ many_err0 hf c _ _ he
      · cases h
theorem Own.set1 {w : World} {B g : Nat} {v : Value} {l : List Nat} (h : Own w B v l) (hg : g < B) (i : Nat) (u : Value) : Own (w.setCell ⟨g, i, none⟩ u) B v l :=
  World.ownsRow.kept (row := some g) h ⟨rfl, rfl, rfl, by simp [World.setCell], fun k _ hk => Below.heap_setCell _ _ _ _ (fun e => hk (by rw [e]))⟩ (.inr (fun h2 => by have := (World.ownsRow.lt h _ h2).1; omega))
theorem us_len (l : List Nat) : (us l).1.length ≤ l.length := by
  unfold us
  split
  · simp
  · split
    · simp
    · simp
theorem box5 {w : World} {g : Nat} {y0 y1 y2 y3 y4 : Value} {T : TypeId} (h : w.heap[g]? = some (.cells #[y0, y1, y2, y3, y4] T (0, 0))) :
    (w.cell? ⟨g, 0, none⟩ = some y0 ∧ w.cell? ⟨g, 1, none⟩ = some y1 ∧ w.cell? ⟨g, 2, none⟩ = some y2 ∧ w.cell? ⟨g, 3, none⟩ = some y3 ∧ w.cell? ⟨g, 4, none⟩ = some y4) ∧
    (w.frozen? ⟨g, 0, none⟩ = false ∧ w.frozen? ⟨g, 1, none⟩ = false ∧ w.frozen? ⟨g, 2, none⟩ = false ∧ w.frozen? ⟨g, 3, none⟩ = false ∧ w.frozen? ⟨g, 4, none⟩ = false) :=
  ⟨⟨cell_block h 0, cell_block h 1, cell_block h 2, cell_block h 3, cell_block h 4⟩, free_block h 0, free_block h 1, free_block h 2, free_block h 3, free_block h 4⟩
/-- The result's cells are stored, and told. -/
theorem ret5 {w X : World} {g : Nat} {y0 y1 y2 y3 y4 : Value} {r : Except Nat Pk} {a : Act} {z0 z1 z2 z3 z4 : Value} (er : Nat) (q : X.heap[g]? = some (.cells #[y0, y1, y2, y3, y4] 29 (0, 0))) (hb : Below w.heap.size w X) (hg : w.heap.size ≤ g)
    (h2 : a.tmps[2]?.getD undef = .pointer (some ⟨g, 0, none⟩)) (h3 : a.tmps[3]?.getD undef = .int .i64 (er : Int)) (hd : a.defers = [])
    (hr : ∀ Z : World, Below w.heap.size w Z → Z = (((((X.setCell ⟨g, 0, none⟩ z0).setCell ⟨g, 1, none⟩ z1).setCell ⟨g, 2, none⟩ z2).setCell ⟨g, 3, none⟩ z3).setCell ⟨g, 4, none⟩ z4) → OutUnpack r w (.returned (.tuple #[.agg #[z0, z1, z2, z3, z4], .int .i64 (er : Int)])) Z) :
    bodyPost Try.prog Try.f21 (OutUnpack r w) Exit.ret a (((((X.setCell ⟨g, 0, none⟩ z0).setCell ⟨g, 1, none⟩ z1).setCell ⟨g, 2, none⟩ z2).setCell ⟨g, 3, none⟩ z3).setCell ⟨g, 4, none⟩ z4) := by
  have p := set5 q z0 z1 z2 z3 z4
  obtain ⟨⟨c0, c1, c2, c3, c4⟩, -⟩ := box5 p
  exact bodyPost_ret (v := .tuple #[.agg #[z0, z1, z2, z3, z4], .int .i64 (er : Int)]) (by simp [results, Try.results21, go_sem, h2, h3, c0, c1, c2, c3, c4]) hd (hr _ (bel5 hb hg _ _ _ _ _) rfl)
set_option maxRecDepth 100000 in
set_option maxHeartbeats 1600000 in
theorem unpack_any (v : Value) (l : List Nat) (w : World) (h : Bs w v l) (hn : l.length ≤ 1099511627776) :
    Calls Try.prog 21 #[v] w (OutUnpack (pget l) w) := by
  obtain ⟨⟨A, c, rfl, hc, _⟩, _⟩ := id h
  obtain ⟨W, hW⟩ : ∃ W : World, W = (w.alloc (.cells #[.slice A l.length c] 27)).alloc (.cells #[.int .i64 0, .int .i64 0, .int .i64 0, .int .i64 0, .slice none 0 0] 29) := ⟨_, rfl⟩
  have q1 : W.heap[w.heap.size]? = some (.cells #[.slice A l.length c] 27 (0, 0)) := by rw [hW]; exact heap_old (heap_new _ _) _
  have q2 : W.heap[w.heap.size + 1]? = some (.cells #[.int .i64 0, .int .i64 0, .int .i64 0, .int .i64 0, .slice none 0 0] 29 (0, 0)) := by rw [hW]; exact heap_new' _ _ _ (by simp)
  have hb0 : Below w.heap.size w W := by rw [hW]; exact two _ _ _
  go_enter Try.func21, Try.ntmps21
  go_wp2_with fail
  rw [← hW]
  clear hW
  refine (unseal_f _ l 1048640 _ (h.below hb0) hn).mono ?_
  rintro e w1 ⟨v1, rfl, ho1, hv1, hb1⟩
  have hP : pget l = if (if 1048640 < l.length then (([], 3) : List Nat × Nat) else us l).2 ≠ 0 then .error (if 1048640 < l.length then (([], 3) : List Nat × Nat) else us l).2 else pdec (if 1048640 < l.length then (([], 3) : List Nat × Nat) else us l).1 := by
    unfold pget
    by_cases hbig : 1048640 < l.length
    · rw [if_pos hbig, if_pos hbig, if_pos (by simp)]
    · rw [if_neg hbig, if_neg hbig]
  have hbl0 : (if 1048640 < l.length then (([], 3) : List Nat × Nat) else us l).1.length ≤ l.length := by
    split
    · simp
    · exact us_len l
  generalize (if 1048640 < l.length then (([], 3) : List Nat × Nat) else us l) = r at *
  obtain ⟨b, er⟩ := r
  dsimp only at *
  have HP := Lib.hid hP
  clear hP
  have hbw := nxt hb0 hb1
  have p1 := heap_below q1 hb1
  have p2 := heap_below q2 hb1
  have c0 : w1.cell? ⟨w.heap.size, 0, none⟩ = some _ := cell_block p1 0
  have f0 := free_block p1 0
  have d0 := cell_block p2 0
  have d1 := cell_block p2 1
  have d2 := cell_block p2 2
  have d3 := cell_block p2 3
  have d4 := cell_block p2 4
  have g0 := free_block p2 0
  have g1 := free_block p2 1
  have g2 := free_block p2 2
  have g3 := free_block p2 3
  have g4 := free_block p2 4
  have s1 := lt_heap p2
  obtain ⟨⟨A1, c1, rfl, hc1, _⟩, _⟩ := id hv1
  by_cases he : er = 0
  · subst he
    obtain ⟨X, hX⟩ : ∃ X : World, X = w1.setCell ⟨w.heap.size, 0, none⟩ (.slice A1 b.length c1) := ⟨_, rfl⟩
    have x1 : X.heap[w.heap.size]? = some (.cells #[.slice A1 b.length c1] 27 (0, 0)) := by rw [hX]; exact heap_set p1 0 _
    have x2 : X.heap[w.heap.size + 1]? = some (.cells #[.int .i64 0, .int .i64 0, .int .i64 0, .int .i64 0, .slice none 0 0] 29 (0, 0)) := by rw [hX]; exact heap_set_ne p2 (show w.heap.size + 1 ≠ w.heap.size by omega) 0 _
    have hbX : Below w.heap.size w X := by rw [hX]; exact hbw.setCell (Nat.le_refl _) (p := ⟨w.heap.size, 0, none⟩) _
    have hsW : w.heap.size + 1 < W.heap.size := lt_heap q2
    have hoX : Own X W.heap.size (.slice A1 b.length c1) b := by
      rw [hX]
      refine World.ownsRow.kept (row := some w.heap.size) ho1 ⟨rfl, rfl, rfl, by simp [World.setCell], fun k _ hk => Below.heap_setCell _ _ _ _ (fun e => hk (by rw [e]))⟩ (.inr ?_)
      intro h
      have := (World.ownsRow.lt ho1 _ h).1
      omega
    have h8 := hv1.2
    have hvX := Bs.of_own hoX h8
    have hbl : b.length ≤ 1099511627776 := Nat.le_trans hbl0 hn
    clear d0 d1 d2 d3 d4 g0 g1 g2 g3 g4 p1 p2 hb1 hbw ho1 hv1
    go_wp2_with fail
    rw [← hX]
    clear hX c0 f0
    cases hm : many (fP b) 4 0 with
    | error er =>
      have hne := many_err0 (fun a er h => fP_err b a er h) 4 0 er hm
      have HE : Hid (pget l = .error er) := by
        show _ = _
        rw [HP.out, if_neg (by simp)]
        unfold pdec
        rw [hm]
      have HM := Lib.hid hm
      have k1 : ((er : Int) != 0) = true := bne_iff_ne.2 (by omega)
      clear hm hne
      refine (ints_any w.heap.size (.slice A1 b.length c1) b 4 0 _ x1 hvX hbl (Nat.zero_le _) (by omega)).mono ?_
      intro e w2 hO
      rw [HM.out] at hO
      obtain ⟨hb2, rfl⟩ := hO
      have y2 := heap_below x2 hb2
      have d0 := cell_block y2 0
      have d1 := cell_block y2 1
      have d2 := cell_block y2 2
      have d3 := cell_block y2 3
      have d4 := cell_block y2 4
      have g0 := free_block y2 0
      have g1 := free_block y2 1
      have g2 := free_block y2 2
      have g3 := free_block y2 3
      have g4 := free_block y2 4
      have s2 := lt_heap y2
      go_wp2_with fail
      exact ret5 er y2 (nxt hbX hb2) (by omega) rfl rfl rfl (fun Z hZ _ => ⟨hZ, by rw [HE.out]; rfl⟩)
    | ok r =>
      obtain ⟨ns, a⟩ := r
      obtain ⟨q1', _, _, q4', _⟩ := many_back b (fP b) varint _ (fP_back b h8) 4 0 ns a (Nat.zero_le _) hm
      have HM := Lib.hid hm
      clear hm
      refine (ints_any w.heap.size (.slice A1 b.length c1) b 4 0 _ x1 hvX hbl (Nat.zero_le _) (by omega)).mono ?_
      intro e w2 hO
      rw [HM.out] at hO
      obtain ⟨hb2, u, rfl, hrow⟩ := hO
      have y1 := heap_below x1 hb2
      have e0 : w2.cell? ⟨w.heap.size, 0, none⟩ = some _ := cell_block y1 0
      have hv2 := hvX.below hb2
      have s2 := lt_heap y1
      match ns, q1' with
      | [n0, n1, n2, n3], _ =>
      obtain ⟨g, cap, rfl, hgc, hgl⟩ : ∃ g cap, u = .slice (some ⟨g, 0, none⟩) 4 cap ∧ 4 ≤ cap ∧ g < w2.heap.size := by
        rcases hrow.2 with ⟨_, h⟩ | ⟨g, cap, cur, he, _, hh, hc, _⟩
        · cases h
        · exact ⟨g, cap, he, hc, lt_heap hh⟩
      have r0 : w2.cell? ⟨g, 0, none⟩ = some (.int .i64 (n0 : Int)) := World.ownsRow.cellAt hrow 0 (by simp)
      have r1 : w2.cell? ⟨g, 1, none⟩ = some (.int .i64 (n1 : Int)) := World.ownsRow.cellAt hrow 1 (by simp)
      have r2 : w2.cell? ⟨g, 2, none⟩ = some (.int .i64 (n2 : Int)) := World.ownsRow.cellAt hrow 2 (by simp)
      have r3 : w2.cell? ⟨g, 3, none⟩ = some (.int .i64 (n3 : Int)) := World.ownsRow.cellAt hrow 3 (by simp)
      have y2 := heap_below x2 hb2
      have s6 := lt_heap y2
      go_wp2_with fail
      refine (getblob_bs _ b a 1048576 _ hv2 hbl q4' (by omega) (by omega)).mono ?_
      rintro e w3 ⟨v3, rfl, ho3, hv3, hb3⟩
      have hD : pget l = if (gb b a 1048576).2.2 ≠ 0 then .error (gb b a 1048576).2.2 else if n2 = 0 ∧ (gb b a 1048576).1 ≠ [] then .error 14 else if (gb b a 1048576).2.1 < b.length then .error 10 else .ok ⟨n0, n1, n2, n3, (gb b a 1048576).1⟩ := by
        rw [HP.out, if_neg (by simp)]
        unfold pdec
        rw [HM.out]
        rfl
      generalize gb b a 1048576 = r at *
      obtain ⟨d, nx, er⟩ := r
      dsimp only at *
      have HD := Lib.hid hD
      obtain ⟨⟨A3, c3, rfl, hc3, _⟩, _⟩ := id hv3
      have z1 := heap_below y1 hb3
      have z2 := heap_below y2 hb3
      have t0 : w3.cell? ⟨g, 0, none⟩ = some (.int .i64 (n0 : Int)) := (hb3.cell (p := ⟨g, 0, none⟩) hgl).trans r0
      have t1 : w3.cell? ⟨g, 1, none⟩ = some (.int .i64 (n1 : Int)) := (hb3.cell (p := ⟨g, 1, none⟩) hgl).trans r1
      have t2 : w3.cell? ⟨g, 2, none⟩ = some (.int .i64 (n2 : Int)) := (hb3.cell (p := ⟨g, 2, none⟩) hgl).trans r2
      have t3 : w3.cell? ⟨g, 3, none⟩ = some (.int .i64 (n3 : Int)) := (hb3.cell (p := ⟨g, 3, none⟩) hgl).trans r3
      have hbw3 := nxt (nxt hbX hb2) hb3
      have e0' : w3.cell? ⟨w.heap.size, 0, none⟩ = some _ := cell_block z1 0
      have s3 := lt_heap z1
      have s4 := lt_heap z2
      have s5 : g < w3.heap.size := Nat.lt_of_lt_of_le hgl hb3.size
      clear hD r0 r1 r2 r3 e0 y1 y2 x1 x2 hrow hb2 hb3 hbX hvX hoX hv2 HM HP
      obtain ⟨Y, hY⟩ : ∃ Y, Y = World.drew (w3.alloc (.cells #[.int .i64 (n0 : Int), .int .i64 (n1 : Int), .int .i64 (n2 : Int), .int .i64 (n3 : Int), .slice A3 d.length c3] 29)) := ⟨_, rfl⟩
      have hY3 : Below w3.heap.size w3 Y := by
        rw [hY]
        exact ((Below.refl w3.heap.size w3).alloc (Nat.le_refl _) _).drew
      have y1' := heap_below z1 hY3
      have y2' := heap_below z2 hY3
      obtain ⟨G, hG⟩ : ∃ G, G = w3.heap.size := ⟨_, rfl⟩
      have y3' : Y.heap[G]? = some (.cells #[.int .i64 (n0 : Int), .int .i64 (n1 : Int), .int .i64 (n2 : Int), .int .i64 (n3 : Int), .slice A3 d.length c3] 29 (0, 0)) := by rw [hY, hG]; exact heap_new w3 _
      have hbY := nxt hbw3 hY3
      have hoY := ho3.below hY3 (Nat.le_refl _)
      have h8d : ∀ x ∈ d, x < 256 := hv3.2
      have s2' : w2.heap.size ≥ w.heap.size := by omega
      go_upto_region 8 with fail
      go_cut [8] (fun s wx => s = .pointer (some ⟨G, 0, none⟩) ∧ Y = wx)
      case first =>
        go_region_held3 (fun w' => w'.cell? ⟨g, 0, none⟩ = some (.int .i64 (n0 : Int)) ∧ w'.cell? ⟨g, 1, none⟩ = some (.int .i64 (n1 : Int)) ∧ w'.cell? ⟨g, 2, none⟩ = some (.int .i64 (n2 : Int)) ∧ w'.cell? ⟨g, 3, none⟩ = some (.int .i64 (n3 : Int))) (go_keep) (fail)
        all_goals
          go_wp2_with fail
          go_meet
          exact ⟨by rw [hG], hY⟩
      case rest =>
      obtain ⟨rfl, rfl⟩ := hcut
      have hD' : pget l = if er ≠ 0 then .error er else if n2 = 0 ∧ d ≠ [] then .error 14 else if nx < b.length then .error 10 else .ok ⟨n0, n1, n2, n3, d⟩ := HD.out
      obtain ⟨⟨j0, j1, j2, j3, j4⟩, -⟩ := box5 y3'
      obtain ⟨⟨d0, d1, d2, d3, d4⟩, ⟨g0, g1, g2, g3, g4⟩⟩ := box5 y2'
      have e0'' : Y.cell? ⟨w.heap.size, 0, none⟩ = some (.slice A1 b.length c1) := cell_block y1' 0
      clear HD t0 t1 t2 t3 z1 z2 e0' hv3 ho3 hbw3 hY3 y1' y3' s3 s4 hY hG s5
      by_cases he : er = 0
      · subst he
        rw [if_neg (by simp)] at hD'
        rw [show ((0 : Nat) : Int) = 0 from rfl]
        by_cases hz : n2 = 0 ∧ d ≠ []
        · rw [if_pos hz] at hD'
          have k1 : ((n2 : Int) == 0) = true := by rw [hz.1]; rfl
          have k2 : decide ((0 : Int) < (d.length : Int)) = true := decide_eq_true (by have := List.length_pos_iff.2 hz.2; omega)
          have k2' : decide (0 < d.length) = true := decide_eq_true (List.length_pos_iff.2 hz.2)
          have HE := Lib.hid hD'
          clear hD' hz
          go_wp2_with fail
          exact ret5 14 y2' hbY (Nat.le_succ _) rfl rfl rfl (fun Z hZ _ => ⟨hZ, by rw [HE.out]; rfl⟩)
        · rw [if_neg hz] at hD'
          have hz2 : n2 ≠ 0 ∨ (n2 = 0 ∧ d = []) := by
            by_cases h0 : n2 = 0
            · exact .inr ⟨h0, Classical.byContradiction fun h => hz ⟨h0, h⟩⟩
            · exact .inl h0
          clear hz
          by_cases hx : nx < b.length
          · rw [if_pos hx] at hD'
            have k3 : decide ((nx : Int) < (b.length : Int)) = true := decide_eq_true (by omega)
            have k3' : decide (nx < b.length) = true := decide_eq_true (by omega)
            have HE := Lib.hid hD'
            clear hD'
            rcases hz2 with h0 | ⟨h0, h1⟩
            · have k1 : ((n2 : Int) == 0) = false := beq_eq_false_iff_ne.2 (by omega)
              go_wp2_with fail
              exact ret5 10 y2' hbY (Nat.le_succ _) rfl rfl rfl (fun Z hZ _ => ⟨hZ, by rw [HE.out]; rfl⟩)
            · have k1 : ((n2 : Int) == 0) = true := by rw [h0]; rfl
              have k2 : decide ((0 : Int) < (d.length : Int)) = false := by rw [h1]; rfl
              have k2' : decide (0 < d.length) = false := by rw [h1]; rfl
              clear h0 h1
              go_wp2_with fail
              exact ret5 10 y2' hbY (Nat.le_succ _) rfl rfl rfl (fun Z hZ _ => ⟨hZ, by rw [HE.out]; rfl⟩)
          · rw [if_neg hx] at hD'
            have k3 : decide ((nx : Int) < (b.length : Int)) = false := decide_eq_false (by omega)
            have k3' : decide (nx < b.length) = false := decide_eq_false (by omega)
            have HE := Lib.hid hD'
            have hs : w.heap.size + 1 < w2.heap.size := s6
            have fin : ∀ Z : World, Below w.heap.size w Z → ∀ z0 z1 z2 z3 z4, Z = (((((Y.setCell ⟨w.heap.size + 1, 0, none⟩ z0).setCell ⟨w.heap.size + 1, 1, none⟩ z1).setCell ⟨w.heap.size + 1, 2, none⟩ z2).setCell ⟨w.heap.size + 1, 3, none⟩ z3).setCell ⟨w.heap.size + 1, 4, none⟩ z4) →
                OutUnpack (pget l) w (.returned (.tuple #[.agg #[.int .i64 (n0 : Int), .int .i64 (n1 : Int), .int .i64 (n2 : Int), .int .i64 (n3 : Int), .slice A3 d.length c3], .int .i64 0])) Z := by
              intro Z hZ z0 z1 z2 z3 z4 hZe
              have ho : Own Z w2.heap.size (.slice A3 d.length c3) d := by
                rw [hZe]
                exact ((((hoY.set1 hs 0 z0).set1 hs 1 z1).set1 hs 2 z2).set1 hs 3 z3).set1 hs 4 z4
              refine ⟨hZ, ?_⟩
              rw [HE.out]
              exact ⟨A3, c3, rfl, ho.mono (by omega), Bs.of_own ho h8d⟩
            have FIN := Lib.hid fin
            clear hD' fin
            rcases hz2 with h0 | ⟨h0, h1⟩
            · have k1 : ((n2 : Int) == 0) = false := beq_eq_false_iff_ne.2 (by omega)
              go_wp2_with fail
              exact ret5 0 y2' hbY (Nat.le_succ _) rfl rfl rfl (fun Z hZ e => FIN.out Z hZ _ _ _ _ _ e)
            · have k1 : ((n2 : Int) == 0) = true := by rw [h0]; rfl
              have k2 : decide ((0 : Int) < (d.length : Int)) = false := by rw [h1]; rfl
              have k2' : decide (0 < d.length) = false := by rw [h1]; rfl
              clear h0 h1
              go_wp2_with fail
              exact ret5 0 y2' hbY (Nat.le_succ _) rfl rfl rfl (fun Z hZ e => FIN.out Z hZ _ _ _ _ _ e)
      · rw [if_pos he] at hD'
        have k1 : ((er : Int) != 0) = true := bne_iff_ne.2 (by omega)
        have HE := Lib.hid hD'
        clear hD' he
        go_wp2_with fail
        exact ret5 er y2' hbY (Nat.le_succ _) rfl rfl rfl (fun Z hZ _ => ⟨hZ, by rw [HE.out]; rfl⟩)
  · have k1 : ((er : Int) != 0) = true := bne_iff_ne.2 (by omega)
    have p3 := heap_set_ne p2 (show w.heap.size + 1 ≠ w.heap.size by omega) 0 (.slice A1 b.length c1)
    have hb3 := hbw.setCell (Nat.le_refl _) (p := ⟨w.heap.size, 0, none⟩) (.slice A1 b.length c1)
    go_wp2_with fail
    exact ret5 er p3 hb3 (by omega) rfl rfl rfl (fun Z hZ _ => ⟨hZ, by rw [HP.out, if_pos he]; rfl⟩)
end Go.Proofs.Ytjcefnlidophoaa
