/- droverref05.Open: the walk of the document's answer. -/
import Derived.Test.YtjcefnlidophoaaRef05
namespace Go.Proofs.Ytjcefnlidophoaa
open Go.RowKit

section
variable {w w' : World} {base : Nat}
theorem row_fr {T : TypeId} {sz n base' : Nat} {v : Value} {vs : List Value} (h : w.ownsRow base T sz v n vs) (hb : base' ≤ base) (hf : ∀ k, base ≤ k → k < w.heap.size → w'.heap[k]? = w.heap[k]?) : w'.ownsRow base' T sz v n vs := by
  refine ⟨h.1, ?_⟩
  rcases h.2 with h0 | ⟨g, cap, cur, e, hg, hh, hr⟩
  · exact .inl h0
  · exact .inr ⟨g, cap, cur, e, Nat.le_trans hb hg, (hf g hg (lt_heap hh)).trans hh, hr⟩
theorem blk_fr {base' : Nat} {vs : List Value} {ls : List (List Nat)} (h : Blk w base vs ls) (hb : base' ≤ base) (hf : ∀ k, base ≤ k → k < w.heap.size → w'.heap[k]? = w.heap[k]?) : Blk w' base' vs ls :=
  ⟨h.1, fun i x hx => by
    obtain ⟨v, h1, h2, h3⟩ := h.2 i x hx
    exact ⟨v, h1, row_fr h2 hb hf, h3⟩⟩
theorem set3 {g : Nat} {y0 y1 y2 : Value} {T : TypeId} {fr : Nat × Nat} (h : w.heap[g]? = some (.cells #[y0, y1, y2] T fr)) (z0 z1 z2 : Value) :
    (((w.setCell ⟨g, 0, none⟩ z0).setCell ⟨g, 1, none⟩ z1).setCell ⟨g, 2, none⟩ z2).heap[g]? = some (.cells #[z0, z1, z2] T fr) :=
  heap_set (heap_set (heap_set h 0 z0) 1 z1) 2 z2
theorem box3r {g : Nat} {y0 y1 y2 : Value} {T : TypeId} (h : w.heap[g]? = some (.cells #[y0, y1, y2] T (0, 0))) :
    (w.cell? ⟨g, 0, none⟩ = some y0 ∧ w.cell? ⟨g, 1, none⟩ = some y1 ∧ w.cell? ⟨g, 2, none⟩ = some y2) ∧ (w.frozen? ⟨g, 0, none⟩ = false ∧ w.frozen? ⟨g, 1, none⟩ = false ∧ w.frozen? ⟨g, 2, none⟩ = false) :=
  ⟨⟨cell_block h 0, cell_block h 1, cell_block h 2⟩, free_block h 0, free_block h 1, free_block h 2⟩
/-- A disk is stored whole at block g, a log's answer at block h. -/
def put5 (w : World) (g : Nat) (z0 z1 z2 z3 z4 : Value) : World := ((((w.setCell ⟨g, 0, none⟩ z0).setCell ⟨g, 1, none⟩ z1).setCell ⟨g, 2, none⟩ z2).setCell ⟨g, 3, none⟩ z3).setCell ⟨g, 4, none⟩ z4
def put3 (w : World) (g : Nat) (z0 z1 z2 : Value) : World := ((w.setCell ⟨g, 0, none⟩ z0).setCell ⟨g, 1, none⟩ z1).setCell ⟨g, 2, none⟩ z2
theorem put5_ne {k g : Nat} (h : k ≠ g) (z0 z1 z2 z3 z4 : Value) : (put5 w g z0 z1 z2 z3 z4).heap[k]? = w.heap[k]? :=
  ((((Below.heap_setCell _ _ _ _ h).trans (Below.heap_setCell _ _ _ _ h)).trans (Below.heap_setCell _ _ _ _ h)).trans (Below.heap_setCell _ _ _ _ h)).trans (Below.heap_setCell _ _ _ _ h)
theorem put3_ne {k g : Nat} (h : k ≠ g) (z0 z1 z2 : Value) : (put3 w g z0 z1 z2).heap[k]? = w.heap[k]? :=
  ((Below.heap_setCell _ _ _ _ h).trans (Below.heap_setCell _ _ _ _ h)).trans (Below.heap_setCell _ _ _ _ h)
theorem put5_size (g : Nat) (z0 z1 z2 z3 z4 : Value) : (put5 w g z0 z1 z2 z3 z4).heap.size = w.heap.size := by simp [put5, World.setCell]
theorem put3_size (g : Nat) (z0 z1 z2 : Value) : (put3 w g z0 z1 z2).heap.size = w.heap.size := by simp [put3, World.setCell]
theorem put5_below {B g : Nat} {a : World} (h : Below B a w) (hg : B ≤ g) (z0 z1 z2 z3 z4 : Value) : Below B a (put5 w g z0 z1 z2 z3 z4) := bel5 h hg _ _ _ _ _
theorem put3_below {B g : Nat} {a : World} (h : Below B a w) (hg : B ≤ g) (z0 z1 z2 : Value) : Below B a (put3 w g z0 z1 z2) := ((h.setCell hg _).setCell hg _).setCell hg _
theorem put5_new {g : Nat} {y0 y1 y2 y3 y4 : Value} {T : TypeId} {fr : Nat × Nat} (h : w.heap[g]? = some (.cells #[y0, y1, y2, y3, y4] T fr)) (z0 z1 z2 z3 z4 : Value) : (put5 w g z0 z1 z2 z3 z4).heap[g]? = some (.cells #[z0, z1, z2, z3, z4] T fr) := set5 h _ _ _ _ _
theorem put3_new {g : Nat} {y0 y1 y2 : Value} {T : TypeId} {fr : Nat × Nat} (h : w.heap[g]? = some (.cells #[y0, y1, y2] T fr)) (z0 z1 z2 : Value) : (put3 w g z0 z1 z2).heap[g]? = some (.cells #[z0, z1, z2] T fr) := set3 h _ _ _
/-- Own rows stay where a disk, an answer is stored below them. -/
theorem put5_far {g : Nat} (hg : g < base) (z0 z1 z2 z3 z4 : Value) : ∀ k, base ≤ k → (put5 w g z0 z1 z2 z3 z4).heap[k]? = w.heap[k]? := fun k hk => put5_ne (by omega) _ _ _ _ _
theorem put3_far {g : Nat} (hg : g < base) (z0 z1 z2 : Value) : ∀ k, base ≤ k → (put3 w g z0 z1 z2).heap[k]? = w.heap[k]? := fun k hk => put3_ne (by omega) _ _ _
end
theorem res4 {fn : Func} {k1 k2 m1 m2 : Tmp} (hf : fn.results = #[.cell k1 62, .cell k2 69, .tmp m1, .tmp m2]) {R : Ending → World → Prop} {Y : World} {g h : Nat} {x0 x1 x2 x3 x4 y0 y1 y2 z0 z1 z2 z3 z4 u0 u1 u2 v1 v2 : Value} {T T' : TypeId} {a : Act}
    (q : Y.heap[g]? = some (.cells #[x0, x1, x2, x3, x4] T (0, 0))) (q' : Y.heap[h]? = some (.cells #[y0, y1, y2] T' (0, 0))) (hne : g ≠ h)
    (e1 : a.tmps[k1]?.getD undef = .pointer (some ⟨g, 0, none⟩)) (e2 : a.tmps[k2]?.getD undef = .pointer (some ⟨h, 0, none⟩)) (e3 : a.tmps[m1]?.getD undef = v1) (e4 : a.tmps[m2]?.getD undef = v2) (hd : a.defers = [])
    (hR : R (.returned (.tuple #[.agg #[z0, z1, z2, z3, z4], .agg #[u0, u1, u2], v1, v2])) (put3 (put5 Y g z0 z1 z2 z3 z4) h u0 u1 u2)) : bodyPost Try.prog fn R .ret a (put3 (put5 Y g z0 z1 z2 z3 z4) h u0 u1 u2) := by
  have q1 : (put3 (put5 Y g z0 z1 z2 z3 z4) h u0 u1 u2).heap[g]? = some (.cells #[z0, z1, z2, z3, z4] T (0, 0)) := (put3_ne hne _ _ _).trans (put5_new q _ _ _ _ _)
  have q2 : (put3 (put5 Y g z0 z1 z2 z3 z4) h u0 u1 u2).heap[h]? = some (.cells #[u0, u1, u2] T' (0, 0)) := put3_new ((put5_ne (fun e => hne e.symm) _ _ _ _ _).trans q') _ _ _
  obtain ⟨⟨c0, c1, c2, c3, c4⟩, -⟩ := box5 q1
  obtain ⟨⟨d0, d1, d2⟩, -⟩ := box3r q2
  exact bodyPost_ret (by simp [results, hf, go_sem, e1, e2, e3, e4, c0, c1, c2, c3, c4, d0, d1, d2]) hd hR
theorem res4o {fn : Func} {k1 k2 m1 m2 : Tmp} (hf : fn.results = #[.cell k1 62, .cell k2 69, .tmp m1, .tmp m2]) {R : Ending → World → Prop} {Y : World} {g h : Nat} {x0 x1 x2 x3 x4 y0 y1 y2 z0 z1 z2 z3 z4 u0 u1 u2 v1 v2 : Value} {o : Obj} {T T' : TypeId} {a : Act}
    (q : Y.heap[g]? = some (.cells #[x0, x1, x2, x3, x4] T (0, 0))) (q' : Y.heap[h]? = some (.cells #[y0, y1, y2] T' (0, 0))) (hne : g ≠ h)
    (e1 : a.tmps[k1]?.getD undef = .pointer (some ⟨g, 0, none⟩)) (e2 : a.tmps[k2]?.getD undef = .pointer (some ⟨h, 0, none⟩)) (e3 : a.tmps[m1]?.getD undef = v1) (e4 : a.tmps[m2]?.getD undef = v2) (hd : a.defers = [])
    (hR : R (.returned (.tuple #[.agg #[z0, z1, z2, z3, z4], .agg #[u0, u1, u2], v1, v2])) ((put3 (put5 Y g z0 z1 z2 z3 z4) h u0 u1 u2).alloc o)) : bodyPost Try.prog fn R .ret a ((put3 (put5 Y g z0 z1 z2 z3 z4) h u0 u1 u2).alloc o) := by
  have q1 : ((put3 (put5 Y g z0 z1 z2 z3 z4) h u0 u1 u2).alloc o).heap[g]? = some (.cells #[z0, z1, z2, z3, z4] T (0, 0)) := heap_old ((put3_ne hne _ _ _).trans (put5_new q _ _ _ _ _)) o
  have q2 : ((put3 (put5 Y g z0 z1 z2 z3 z4) h u0 u1 u2).alloc o).heap[h]? = some (.cells #[u0, u1, u2] T' (0, 0)) := heap_old (put3_new ((put5_ne (fun e => hne e.symm) _ _ _ _ _).trans q') _ _ _) o
  obtain ⟨⟨c0, c1, c2, c3, c4⟩, -⟩ := box5 q1
  obtain ⟨⟨d0, d1, d2⟩, -⟩ := box3r q2
  exact bodyPost_ret (by simp [results, hf, go_sem, e1, e2, e3, e4, c0, c1, c2, c3, c4, d0, d1, d2]) hd hR
/-- What Open answers. -/
def RoP (w : World) (A : Option Addr) (c : Nat) (d : Pd) (R : Pd × Except Nat (List (List Nat))) (e : Ending) (w' : World) : Prop := ∃ v' n m u er, e = .returned (.tuple #[v', .agg #[.int .i64 ((n : Nat) : Int), .int .i64 ((m : Nat) : Int), .bool false], u, .int .i64 ((er : Nat) : Int)]) ∧ Rv w w' A c d R.1 v' ∧ Below w.heap.size w w' ∧
  match R.2 with
  | .error k => n = 0 ∧ m = 0 ∧ u = .slice none 0 0 ∧ er = k
  | .ok ws => n = ws.length ∧ m = (lrecs ws).length ∧ er = 0 ∧ ∃ vs, w'.ownsRow w.heap.size 27 1 u ws.length vs ∧ Blk w' w.heap.size vs ws
theorem Rv.same {w w' : World} {A : Option Addr} {c : Nat} {d : Pd} (hok : d.Ok) : Rv w w' A c d d (.agg #[.int .i64 (d.most : Int), .slice A d.bs.length c, .int .i64 (d.syn : Int), .int .i64 d.num, .bool d.down]) := ⟨hok, A, c, rfl, .inl ⟨rfl, rfl, rfl⟩⟩
theorem Rv.far {w w1 w2 w3 : World} {A : Option Addr} {c : Nat} {d d' : Pd} {v' : Value} (h : Rv w1 w2 A c d d' v') (hs : w.heap.size ≤ w1.heap.size) (hf : ∀ k, w1.heap.size ≤ k → k < w2.heap.size → w3.heap[k]? = w2.heap[k]?) : Rv w w3 A c d d' v' := by
  obtain ⟨h1, A', c', e, h2⟩ := h
  refine ⟨h1, A', c', e, ?_⟩
  rcases h2 with h2 | h2
  · exact .inl h2
  · right
    refine ⟨h2.1, ?_⟩
    rcases h2.2 with h0 | ⟨g, cap, cur, e, hg, hh, hr⟩
    · exact .inl h0
    · exact .inr ⟨g, cap, cur, e, Nat.le_trans hs hg, (hf g hg (lt_heap hh)).trans hh, hr⟩
set_option maxRecDepth 100000 in
set_option maxHeartbeats 3200000 in
theorem refopen_any (A : Option Addr) (c : Nat) (d : Pd) (w : World) (hok : d.Ok) (hv : Bs w (.slice A d.bs.length c) d.bs) :
    Calls Try.prog 34 #[.agg #[.int .i64 (d.most : Int), .slice A d.bs.length c, .int .i64 (d.syn : Int), .int .i64 d.num, .bool d.down]] w (RoP w A c d (openL d)) := by
  have hO1 : Hid (d.down = true → openL d = (d, .error 15)) := fun h => if_pos h
  have hO2 : Hid (d.down = false → (lrecs (whole d.bs)).length < d.bs.length → (d.cut ((lrecs (whole d.bs)).length : Int)).2 ≠ 0 → openL d = ((d.cut ((lrecs (whole d.bs)).length : Int)).1, .error (d.cut ((lrecs (whole d.bs)).length : Int)).2)) :=
    fun h k j => (if_neg (by rw [h]; decide)).trans ((if_pos k).trans (if_pos j))
  have hO3 : Hid (d.down = false → (lrecs (whole d.bs)).length < d.bs.length → (d.cut ((lrecs (whole d.bs)).length : Int)).2 = 0 → openL d = ((d.cut ((lrecs (whole d.bs)).length : Int)).1, .ok (whole d.bs))) :=
    fun h k j => (if_neg (by rw [h]; decide)).trans ((if_pos k).trans (if_neg (by rw [j]; decide)))
  have hO4 : Hid (d.down = false → ¬ (lrecs (whole d.bs)).length < d.bs.length → openL d = (d, .ok (whole d.bs))) :=
    fun h k => (if_neg (by rw [h]; decide)).trans (if_neg k)
  generalize openL d = R at *
  obtain ⟨W, hW⟩ : ∃ W, W = ((w.alloc (.cells #[.int .i64 (d.most : Int), .slice A d.bs.length c, .int .i64 (d.syn : Int), .int .i64 d.num, .bool d.down] 62)).alloc (.cells #[.int .i64 0, .slice none 0 0, .int .i64 0, .int .i64 0, .bool false] 62)).alloc (.cells #[.int .i64 0, .int .i64 0, .bool false] 69) := ⟨_, rfl⟩
  obtain ⟨G1, hG1⟩ : ∃ G, G = w.heap.size := ⟨_, rfl⟩
  obtain ⟨G2, hG2⟩ : ∃ G, G = w.heap.size + 1 := ⟨_, rfl⟩
  obtain ⟨G3, hG3⟩ : ∃ G, G = w.heap.size + 1 + 1 := ⟨_, rfl⟩
  have q1 : W.heap[G1]? = some (.cells #[.int .i64 (d.most : Int), .slice A d.bs.length c, .int .i64 (d.syn : Int), .int .i64 d.num, .bool d.down] 62 (0, 0)) := by rw [hW, hG1]; exact heap_old (heap_old (heap_new _ _) _) _
  have q2 : W.heap[G2]? = some (.cells #[.int .i64 0, .slice none 0 0, .int .i64 0, .int .i64 0, .bool false] 62 (0, 0)) := by rw [hW, hG2]; exact heap_old (heap_new' _ _ _ (by simp)) _
  have q3 : W.heap[G3]? = some (.cells #[.int .i64 0, .int .i64 0, .bool false] 69 (0, 0)) := by rw [hW, hG3]; exact heap_new' _ _ _ (by simp)
  have hbW : Below w.heap.size w W := by rw [hW]; exact nxt (two _ _ _) ((Below.refl _ _).alloc (Nat.le_refl _) _)
  have HG := Lib.hid (show w.heap.size ≤ G1 ∧ w.heap.size ≤ G2 ∧ w.heap.size ≤ G3 ∧ G1 ≠ G2 ∧ G1 ≠ G3 ∧ G2 ≠ G3 ∧ G1 < W.heap.size ∧ G2 < W.heap.size ∧ G3 < W.heap.size from ⟨by omega, by omega, by omega, by omega, by omega, by omega, lt_heap q1, lt_heap q2, lt_heap q3⟩)
  have hvW := hv.below hbW
  have hlen := hok.len
  have hmost := hok.most
  have Q1 := Lib.hid q1
  have Q2 := Lib.hid q2
  have Q3 := Lib.hid q3
  go_enter Try.func34, Try.ntmps34
  go_upto_region 1 with fail
  rw [← hW, ← hG3, ← hG2, ← hG1]
  clear hW hG1 hG2 hG3 hv
  obtain ⟨⟨b0, b1, b2, b3, b4⟩, -⟩ := box5 q1
  obtain ⟨⟨c0, c1, c2, c3, c4⟩, k0, k1, k2, k3, k4⟩ := box5 q2
  obtain ⟨⟨y0, y1, y2⟩, l0, l1, l2⟩ := box3r q3
  clear q1 q2 q3
  obtain ⟨-, -, -, m12, m13, m23, z1, z2, z3⟩ := HG.out
  have m21 : G2 ≠ G1 := fun e => m12 e.symm
  have m31 : G3 ≠ G1 := fun e => m13 e.symm
  have m32 : G3 ≠ G2 := fun e => m23 e.symm
  cases hd : d.down with
  | true =>
    have HO := Lib.hid (hO1.out hd)
    have HD := Lib.hid hd
    rw [hd] at b4
    clear hO1 hO2 hO3 hO4 hd
    go_wp2_with fail
    refine res4 (Y := W) (g := G2) (h := G3) rfl Q2.out Q3.out m23 rfl rfl rfl rfl rfl ?_
    rw [HO.out]
    refine ⟨_, 0, 0, _, 15, rfl, ?_, put3_below (put5_below hbW HG.out.2.1 _ _ _ _ _) HG.out.2.2.1 _ _ _, rfl, rfl, rfl, rfl⟩
    have := Rv.same (w := w) (w' := put3 (put5 W G2 (.int .i64 (d.most : Int)) (.slice A d.bs.length c) (.int .i64 (d.syn : Int)) (.int .i64 d.num) (.bool true)) G3 (.int .i64 0) (.int .i64 0) (.bool false)) (A := A) (c := c) hok
    rw [HD.out] at this
    exact this
  | false =>
    have HD := Lib.hid hd
    have HO2 := Lib.hid (hO2.out hd)
    have HO3 := Lib.hid (hO3.out hd)
    have HO4 := Lib.hid (hO4.out hd)
    clear hO1 hO2 hO3 hO4
    have HW := Lib.hid (refwhole_any _ d.bs W hvW (by omega))
    have hle := whole_le d.bs hok.byte
    have hnl := lrecs_many (whole d.bs)
    obtain ⟨ws, hws⟩ : ∃ ws, ws = whole d.bs := ⟨_, rfl⟩
    have hcut := Lib.hid (fun (w1 : World) (hv1 : Bs w1 (.slice A d.bs.length c) d.bs) => refcut_any A c d ((lrecs ws).length : Int) w1 hok hv1)
    rw [← hws] at HO2 HO3 HO4 HW hle hnl
    clear hws
    generalize d.cut ((lrecs ws).length : Int) = D at *
    obtain ⟨d1, e1⟩ := D
    dsimp only at HO2 HO3 hcut
    generalize hn : (lrecs ws).length = n at *
    have hnn := Lib.hid hn.symm
    rw [hd] at b4 hcut
    clear hn hd
    go_wp2_with fail
    refine HW.out.mono ?_
    rintro e w1 ⟨u, vs, rfl, hown, hblk, hb1⟩
    obtain ⟨Au, cu, rfl, hcu⟩ := rows_form hown
    have p1 := heap_below Q1.out hb1
    have p2 := heap_below Q2.out hb1
    have p3 := heap_below Q3.out hb1
    rw [HD.out] at p1
    have hbw1 := nxt hbW hb1
    have hv1 := hvW.below hb1
    have hsz := hb1.size
    have HOW := Lib.hid hown
    have HBL := Lib.hid hblk
    clear HW b0 b1 b2 b3 b4 c0 c1 c2 c3 c4 k0 k1 k2 k3 k4 y0 y1 y2 l0 l1 l2 hown hblk
    obtain ⟨⟨b0, b1, b2, b3, b4⟩, f0, f1, f2, f3, f4⟩ := box5 p1
    obtain ⟨⟨c0, c1, c2, c3, c4⟩, k0, k1, k2, k3, k4⟩ := box5 p2
    obtain ⟨⟨y0, y1, y2⟩, l0, l1, l2⟩ := box3r p3
    have P1 := Lib.hid p1
    have P2 := Lib.hid p2
    have P3 := Lib.hid p3
    clear p1 p2 p3
    by_cases hlt : n < d.bs.length
    · have t1 : decide ((n : Int) < (d.bs.length : Int)) = true := decide_eq_true (by omega)
      have t1' : decide (n < d.bs.length) = true := decide_eq_true hlt
      by_cases h0 : e1 = 0
      · have HO := Lib.hid (HO3.out hlt h0)
        subst h0
        clear HO2 HO3 HO4 hlt
        go_wp2_with fail
        refine (hcut.out w1 hv1).mono ?_
        rintro e w3 ⟨v', rfl, hrv, hb3⟩
        obtain ⟨hok1, A', c', rfl, -⟩ := id hrv
        have HRV := Lib.hid hrv
        have p1 := Lib.hid (heap_below P1.out hb3)
        have p2 := Lib.hid (heap_below P2.out hb3)
        have p3 := Lib.hid (heap_below P3.out hb3)
        have hbw3 := nxt hbw1 hb3
        have hsz3 := hb3.size
        clear hrv b0 b1 b2 b3 b4 f0 f1 f2 f3 f4 c0 c1 c2 c3 c4 k0 k1 k2 k3 k4 y0 y1 y2 l0 l1 l2
        obtain ⟨⟨b0, b1, b2, b3, b4⟩, f0, f1, f2, f3, f4⟩ := box5 p1.out
        obtain ⟨⟨c0, c1, c2, c3, c4⟩, k0, k1, k2, k3, k4⟩ := box5 p2.out
        obtain ⟨⟨y0, y1, y2⟩, l0, l1, l2⟩ := box3r p3.out
        have z1' : G1 < w3.heap.size := lt_heap p1.out
        have z2' : G2 < w3.heap.size := lt_heap p2.out
        have z3' : G3 < w3.heap.size := lt_heap p3.out
        go_wp2_with fail
        refine res4o (Y := put5 w3 G1 (.int .i64 (d1.most : Int)) (.slice A' d1.bs.length c') (.int .i64 (d1.syn : Int)) (.int .i64 d1.num) (.bool d1.down)) (g := G2) (h := G3) rfl ((put5_ne m21 _ _ _ _ _).trans p2.out) ((put5_ne m31 _ _ _ _ _).trans p3.out) m23 rfl rfl rfl rfl rfl ?_
        rw [HO.out]
        have hfar : ∀ k, W.heap.size ≤ k → k < w3.heap.size → ((put3 (put5 (put5 w3 G1 (.int .i64 (d1.most : Int)) (.slice A' d1.bs.length c') (.int .i64 (d1.syn : Int)) (.int .i64 d1.num) (.bool d1.down)) G2 (.int .i64 (d1.most : Int)) (.slice A' d1.bs.length c') (.int .i64 (d1.syn : Int)) (.int .i64 d1.num) (.bool d1.down)) G3 (.int .i64 (ws.length : Int)) (.int .i64 (n : Int)) (.bool false)).alloc (.cells #[.int .i64 (d1.most : Int), .slice A' d1.bs.length c', .int .i64 (d1.syn : Int), .int .i64 d1.num, .bool d1.down] 62)).heap[k]? = w3.heap[k]? :=
          fun k hk hk2 => (Below.heap_alloc _ _ _ (by rw [put3_size, put5_size, put5_size]; exact hk2)).trans ((put3_ne (by omega) _ _ _).trans ((put5_ne (by omega) _ _ _ _ _).trans (put5_ne (by omega) _ _ _ _ _)))
        have hown3 : w3.ownsRow W.heap.size 27 1 (.slice Au ws.length cu) ws.length vs := row_fr HOW.out (Nat.le_refl _) (fun k _ hk => hb3.block k hk)
        have hblk3 : Blk w3 W.heap.size vs ws := blk_fr HBL.out (Nat.le_refl _) (fun k _ hk => hb3.block k hk)
        exact ⟨_, ws.length, n, _, 0, rfl, HRV.out.far hbw1.size (fun k hk hk2 => hfar k (Nat.le_trans hsz hk) hk2), (put3_below (put5_below (put5_below hbw3 HG.out.1 _ _ _ _ _) HG.out.2.1 _ _ _ _ _) HG.out.2.2.1 _ _ _).alloc (by rw [put3_size, put5_size, put5_size]; exact hbw3.size) _, rfl, hnn.out, rfl, vs, row_fr hown3 hbW.size hfar, blk_fr hblk3 hbW.size hfar⟩
      · have HO := Lib.hid (HO2.out hlt h0)
        have t2 : ((e1 : Int) == 0) = false := beq_eq_false_iff_ne.2 (by omega)
        have t3 : ((e1 : Int) != 0) = true := bne_iff_ne.2 (by omega)
        clear HO2 HO3 HO4 hlt h0
        go_wp2_with fail
        refine (hcut.out w1 hv1).mono ?_
        rintro e w3 ⟨v', rfl, hrv, hb3⟩
        obtain ⟨hok1, A', c', rfl, -⟩ := id hrv
        have HRV := Lib.hid hrv
        have p1 := Lib.hid (heap_below P1.out hb3)
        have p2 := Lib.hid (heap_below P2.out hb3)
        have p3 := Lib.hid (heap_below P3.out hb3)
        have hbw3 := nxt hbw1 hb3
        have hsz3 := hb3.size
        clear hrv b0 b1 b2 b3 b4 f0 f1 f2 f3 f4 c0 c1 c2 c3 c4 k0 k1 k2 k3 k4 y0 y1 y2 l0 l1 l2
        obtain ⟨⟨b0, b1, b2, b3, b4⟩, f0, f1, f2, f3, f4⟩ := box5 p1.out
        obtain ⟨⟨c0, c1, c2, c3, c4⟩, k0, k1, k2, k3, k4⟩ := box5 p2.out
        obtain ⟨⟨y0, y1, y2⟩, l0, l1, l2⟩ := box3r p3.out
        have z1' : G1 < w3.heap.size := lt_heap p1.out
        have z2' : G2 < w3.heap.size := lt_heap p2.out
        have z3' : G3 < w3.heap.size := lt_heap p3.out
        go_wp2_with fail
        refine res4o (Y := put5 w3 G1 (.int .i64 (d1.most : Int)) (.slice A' d1.bs.length c') (.int .i64 (d1.syn : Int)) (.int .i64 d1.num) (.bool d1.down)) (g := G2) (h := G3) rfl ((put5_ne m21 _ _ _ _ _).trans p2.out) ((put5_ne m31 _ _ _ _ _).trans p3.out) m23 rfl rfl rfl rfl rfl ?_
        rw [HO.out]
        have hfar : ∀ k, W.heap.size ≤ k → k < w3.heap.size → ((put3 (put5 (put5 w3 G1 (.int .i64 (d1.most : Int)) (.slice A' d1.bs.length c') (.int .i64 (d1.syn : Int)) (.int .i64 d1.num) (.bool d1.down)) G2 (.int .i64 (d1.most : Int)) (.slice A' d1.bs.length c') (.int .i64 (d1.syn : Int)) (.int .i64 d1.num) (.bool d1.down)) G3 (.int .i64 0) (.int .i64 0) (.bool false)).alloc (.cells #[.int .i64 (d1.most : Int), .slice A' d1.bs.length c', .int .i64 (d1.syn : Int), .int .i64 d1.num, .bool d1.down] 62)).heap[k]? = w3.heap[k]? :=
          fun k hk hk2 => (Below.heap_alloc _ _ _ (by rw [put3_size, put5_size, put5_size]; exact hk2)).trans ((put3_ne (by omega) _ _ _).trans ((put5_ne (by omega) _ _ _ _ _).trans (put5_ne (by omega) _ _ _ _ _)))
        exact ⟨_, 0, 0, _, e1, rfl, HRV.out.far hbw1.size (fun k hk hk2 => hfar k (Nat.le_trans hsz hk) hk2), (put3_below (put5_below (put5_below hbw3 HG.out.1 _ _ _ _ _) HG.out.2.1 _ _ _ _ _) HG.out.2.2.1 _ _ _).alloc (by rw [put3_size, put5_size, put5_size]; exact hbw3.size) _, rfl, rfl, rfl, rfl⟩
    · have HO := Lib.hid (HO4.out hlt)
      have t1 : decide ((n : Int) < (d.bs.length : Int)) = false := decide_eq_false (by omega)
      have t1' : decide (n < d.bs.length) = false := decide_eq_false hlt
      clear HO2 HO3 HO4 hlt hcut
      go_wp2_with fail
      refine res4 (Y := w1) (g := G2) (h := G3) rfl P2.out P3.out m23 rfl rfl rfl rfl rfl ?_
      rw [HO.out]
      have hfar : ∀ k, W.heap.size ≤ k → k < w1.heap.size → (put3 (put5 w1 G2 (.int .i64 (d.most : Int)) (.slice A d.bs.length c) (.int .i64 (d.syn : Int)) (.int .i64 d.num) (.bool false)) G3 (.int .i64 (ws.length : Int)) (.int .i64 (n : Int)) (.bool false)).heap[k]? = w1.heap[k]? :=
        fun k hk _ => (put3_ne (by omega) _ _ _).trans (put5_ne (by omega) _ _ _ _ _)
      refine ⟨_, ws.length, n, _, 0, rfl, ?_, put3_below (put5_below hbw1 HG.out.2.1 _ _ _ _ _) HG.out.2.2.1 _ _ _, rfl, hnn.out, rfl, vs, row_fr HOW.out hbW.size hfar, blk_fr HBL.out hbW.size hfar⟩
      have := Rv.same (w := w) (w' := put3 (put5 w1 G2 (.int .i64 (d.most : Int)) (.slice A d.bs.length c) (.int .i64 (d.syn : Int)) (.int .i64 d.num) (.bool false)) G3 (.int .i64 (ws.length : Int)) (.int .i64 (n : Int)) (.bool false)) (A := A) (c := c) hok
      rw [HD.out] at this
      exact this
end Go.Proofs.Ytjcefnlidophoaa
