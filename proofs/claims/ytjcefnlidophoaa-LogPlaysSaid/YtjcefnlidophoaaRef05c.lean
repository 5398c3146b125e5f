/- (droverref05.Log).Add: the walk of the document's answer. -/
import Derived.Test.YtjcefnlidophoaaRef05b
import Derived.Deep.RegionLaw
import Derived.Deep.CutRange
namespace Go.Proofs.Ytjcefnlidophoaa
open Go.RowKit

theorem res3 {fn : Func} {k1 k2 m1 : Tmp} (hf : fn.results = #[.cell k1 62, .cell k2 69, .tmp m1]) {R : Ending → World → Prop} {X : World} {g h : Nat} {z0 z1 z2 z3 z4 u0 u1 u2 v1 : Value} {T T' : TypeId} {a : Act}
    (q1 : X.heap[g]? = some (.cells #[z0, z1, z2, z3, z4] T (0, 0))) (q2 : X.heap[h]? = some (.cells #[u0, u1, u2] T' (0, 0)))
    (e1 : a.tmps[k1]?.getD undef = .pointer (some ⟨g, 0, none⟩)) (e2 : a.tmps[k2]?.getD undef = .pointer (some ⟨h, 0, none⟩)) (e3 : a.tmps[m1]?.getD undef = v1) (hd : a.defers = [])
    (hR : R (.returned (.tuple #[.agg #[z0, z1, z2, z3, z4], .agg #[u0, u1, u2], v1])) X) : bodyPost Try.prog fn R .ret a X := by
  obtain ⟨⟨c0, c1, c2, c3, c4⟩, -⟩ := box5 q1
  obtain ⟨⟨d0, d1, d2⟩, -⟩ := box3r q2
  exact bodyPost_ret (by simp [results, hf, go_sem, e1, e2, e3, c0, c1, c2, c3, c4, d0, d1, d2]) hd hR
/-- What Add answers. -/
def RaP (w : World) (A : Option Addr) (c : Nat) (d : Pd) (R : Pl × Pd × Nat) (e : Ending) (w' : World) : Prop := ∃ v', e = .returned (.tuple #[v', .agg #[.int .i64 (R.1.n : Int), .int .i64 (R.1.size : Int), .bool R.1.shut], .int .i64 (R.2.2 : Int)]) ∧ Rv w w' A c d R.2.1 v' ∧ Below w.heap.size w w'
theorem drew_heap (w : World) : w.drew.heap = w.heap := rfl
theorem ty_ne {w : World} {k g : Nat} {c c' : Array Value} {T T' : TypeId} {fr fr' : Nat × Nat} (h : w.heap[k]? = some (.cells c T fr)) (q : w.heap[g]? = some (.cells c' T' fr')) (hT : T ≠ T') : k ≠ g := by
  rintro rfl
  rw [h] at q
  have := Option.some.inj q
  injection this with _ e _
  exact hT e
/-- The end of a call: the answers are stored. -/
theorem add_end {w Y X : World} {G3 G4 : Nat} {A A' : Option Addr} {c c' : Nat} {d d' : Pd} {R : Pl × Pd × Nat} {fn : Func} {a : Act} {er : Nat} {n s : Nat} {sh : Bool} (hf : fn.results = #[.cell 6 62, .cell 7 69, .tmp 8])
    {x0 x1 x2 x3 x4 y0 y1 y2 : Value} (q3 : Y.heap[G3]? = some (.cells #[x0, x1, x2, x3, x4] 62 (0, 0))) (q4 : Y.heap[G4]? = some (.cells #[y0, y1, y2] 69 (0, 0))) (hne : G3 ≠ G4)
    (hX : X.heap = (put3 (put5 Y G3 (.int .i64 (d'.most : Int)) (.slice A' d'.bs.length c') (.int .i64 (d'.syn : Int)) (.int .i64 d'.num) (.bool d'.down)) G4 (.int .i64 (n : Int)) (.int .i64 (s : Int)) (.bool sh)).heap) (hX1 : Below w.heap.size w X)
    (hrv : Rv w Y A c d d' (.agg #[.int .i64 (d'.most : Int), .slice A' d'.bs.length c', .int .i64 (d'.syn : Int), .int .i64 d'.num, .bool d'.down])) (hR : R = (⟨n, s, sh⟩, d', er))
    (e1 : a.tmps[6]?.getD undef = .pointer (some ⟨G3, 0, none⟩)) (e2 : a.tmps[7]?.getD undef = .pointer (some ⟨G4, 0, none⟩)) (e3 : a.tmps[8]?.getD undef = .int .i64 (er : Int)) (hd : a.defers = []) : bodyPost Try.prog fn (RaP w A c d R) .ret a X := by
  have k1 : X.heap[G3]? = some (.cells #[.int .i64 (d'.most : Int), .slice A' d'.bs.length c', .int .i64 (d'.syn : Int), .int .i64 d'.num, .bool d'.down] 62 (0, 0)) := by rw [hX]; exact (put3_ne hne _ _ _).trans (put5_new q3 _ _ _ _ _)
  have k2 : X.heap[G4]? = some (.cells #[.int .i64 (n : Int), .int .i64 (s : Int), .bool sh] 69 (0, 0)) := by rw [hX]; exact put3_new ((put5_ne (fun e => hne e.symm) _ _ _ _ _).trans q4) _ _ _
  refine res3 hf k1 k2 e1 e2 e3 hd ?_
  rw [hR]
  refine ⟨_, rfl, ?_, hX1⟩
  obtain ⟨h1, A2, c2, e, h2⟩ := hrv
  refine ⟨h1, A2, c2, e, ?_⟩
  rcases h2 with h2 | h2
  · exact .inl h2
  · right
    refine ⟨h2.1, ?_⟩
    rcases h2.2 with h0 | ⟨g, cap, cur, e, hg, hh, hr⟩
    · exact .inl h0
    · exact .inr ⟨g, cap, cur, e, hg, by rw [hX]; exact (put3_ne (ty_ne hh q4 (by decide)) _ _ _).trans ((put5_ne (ty_ne hh q3 (by decide)) _ _ _ _ _).trans hh), hr⟩
/-- What the disk's calls leave at its block. -/
def Ad (w W wx : World) (G2 : Nat) (A : Option Addr) (c : Nat) (d d' : Pd) : Prop := ∃ A' c', wx.heap[G2]? = some (.cells #[.int .i64 (d'.most : Int), .slice A' d'.bs.length c', .int .i64 (d'.syn : Int), .int .i64 d'.num, .bool d'.down] 62 (0, 0)) ∧ Rv W wx A c d d' (.agg #[.int .i64 (d'.most : Int), .slice A' d'.bs.length c', .int .i64 (d'.syn : Int), .int .i64 d'.num, .bool d'.down]) ∧ (∀ k, k < W.heap.size → k ≠ G2 → wx.heap[k]? = W.heap[k]?) ∧ W.heap.size ≤ wx.heap.size ∧ Below w.heap.size w wx
theorem Ad.put {w W w0 w1 w3 : World} {G2 : Nat} {A A1 A' : Option Addr} {c c1 c' : Nat} {d d1 d' : Pd} (hold : Rv W w0 A c d d1 (.agg #[.int .i64 (d1.most : Int), .slice A1 d1.bs.length c1, .int .i64 (d1.syn : Int), .int .i64 d1.num, .bool d1.down])) (hk0 : ∀ k, k < W.heap.size → k ≠ G2 → w0.heap[k]? = W.heap[k]?) (hs0 : W.heap.size ≤ w0.heap.size) (hb0 : Below w.heap.size w w0) (h01 : Below w0.heap.size w0 w1)
    (hrv : Rv w1 w3 A1 c1 d1 d' (.agg #[.int .i64 (d'.most : Int), .slice A' d'.bs.length c', .int .i64 (d'.syn : Int), .int .i64 d'.num, .bool d'.down])) (hb3 : Below w1.heap.size w1 w3) {x0 x1 x2 x3 x4 : Value} (q2 : w3.heap[G2]? = some (.cells #[x0, x1, x2, x3, x4] 62 (0, 0))) (hG : w.heap.size ≤ G2) (hG2 : G2 < W.heap.size) :
    Ad w W (put5 w3 G2 ((.int .i64 (d'.most : Int))) ((.slice A' d'.bs.length c')) ((.int .i64 (d'.syn : Int))) ((.int .i64 d'.num)) ((.bool d'.down))) G2 A c d d' := by
  have h03 := nxt h01 hb3
  refine ⟨A', c', put5_new q2 _ _ _ _ _, ?_, fun k hk hne => (put5_ne hne _ _ _ _ _).trans ((h03.block k (by omega)).trans (hk0 k hk hne)), by rw [put5_size]; exact Nat.le_trans hs0 h03.size, put5_below (nxt hb0 h03) hG _ _ _ _ _⟩
  obtain ⟨k1, A2, c2, e2, j2⟩ := hrv
  obtain ⟨k1', A3, c3, e3, j3⟩ := hold
  have e4 : A' = A2 ∧ c' = c2 := by
    simp only [Value.agg.injEq] at e2
    have h := congrArg (fun a : Array Value => a[1]?) e2
    simp at h
    exact ⟨h.1, h.2⟩
  have e5 : A1 = A3 ∧ c1 = c3 := by
    simp only [Value.agg.injEq] at e3
    have h := congrArg (fun a : Array Value => a[1]?) e3
    simp at h
    exact ⟨h.1, h.2⟩
  obtain ⟨rfl, rfl⟩ := e4
  obtain ⟨rfl, rfl⟩ := e5
  refine ⟨k1, A', c', rfl, ?_⟩
  rcases j2 with ⟨rfl, rfl, hbs⟩ | j2
  · rcases j3 with ⟨rfl, rfl, hbs3⟩ | j3
    · exact .inl ⟨rfl, rfl, hbs.trans hbs3⟩
    · right
      rw [hbs]
      refine row_fr j3 (Nat.le_refl _) (fun k hk hk2 => (put5_ne (by omega) _ _ _ _ _).trans (h03.block k hk2))
  · right
    exact row_fr j2 (Nat.le_trans hs0 h01.size) (fun k hk _ => put5_ne (by have := h01.size; omega) _ _ _ _ _)
set_option maxRecDepth 100000 in
set_option maxHeartbeats 6400000 in
theorem refladd_any (A : Option Addr) (c : Nat) (d : Pd) (ln ls : Nat) (lsh : Bool) (vx : Value) (x : List Nat) (w : World) (hok : d.Ok) (hv : Bs w (.slice A d.bs.length c) d.bs) (hx : Bs w vx x) (hn : ln ≤ 1099511627776) (hsz : ls ≤ 1099511627776) :
    Calls Try.prog 36 #[.agg #[.int .i64 (ln : Int), .int .i64 (ls : Int), .bool lsh], .agg #[.int .i64 (d.most : Int), .slice A d.bs.length c, .int .i64 (d.syn : Int), .int .i64 d.num, .bool d.down], vx] w (RaP w A c d (addL ⟨ln, ls, lsh⟩ d x)) := by
  have hA1 : Hid (takesE ⟨ln, ls, lsh⟩ x ≠ 0 → addL ⟨ln, ls, lsh⟩ d x = (⟨ln, ls, lsh⟩, d, takesE ⟨ln, ls, lsh⟩ x)) := fun h => if_pos h
  have hA2 : Hid (takesE ⟨ln, ls, lsh⟩ x = 0 → (addD d (lrec x)).2 ≠ 0 → addL ⟨ln, ls, lsh⟩ d x = (⟨ln, ls, (addD d (lrec x)).2 != 5⟩, (addD d (lrec x)).1, (addD d (lrec x)).2)) := fun h k => (if_neg (by rw [h]; decide)).trans (if_pos k)
  have hA3 : Hid (takesE ⟨ln, ls, lsh⟩ x = 0 → (addD d (lrec x)).2 = 0 → addL ⟨ln, ls, lsh⟩ d x = (⟨ln + 1, ls + (lrec x).length, lsh⟩, (addD d (lrec x)).1, 0)) := fun h k => (if_neg (by rw [h]; decide)).trans (if_neg (by rw [k]; decide))
  have HT : Hid (takesE ⟨ln, ls, lsh⟩ x = if x.length = 0 then 2 else if 1048576 < x.length then 3 else if lsh = true then 15 else 0) := rfl
  have hD1 : Hid ((d.app (lrec x)).2 ≠ 0 → addD d (lrec x) = d.app (lrec x)) := fun h => if_pos h
  have hD2 : Hid ((d.app (lrec x)).2 = 0 → addD d (lrec x) = (d.app (lrec x)).1.sync) := fun h => if_neg (by rw [h]; decide)
  generalize addL ⟨ln, ls, lsh⟩ d x = R at *
  generalize takesE ⟨ln, ls, lsh⟩ x = tk at *
  have HX8 := Lib.hid hx.2
  obtain ⟨⟨Ax, cx, rfl, hcx, -⟩, -⟩ := id hx
  obtain ⟨W, hW⟩ : ∃ W, W = (((w.alloc (.cells #[.int .i64 (ln : Int), .int .i64 (ls : Int), .bool lsh] 69)).alloc (.cells #[.int .i64 (d.most : Int), .slice A d.bs.length c, .int .i64 (d.syn : Int), .int .i64 d.num, .bool d.down] 62)).alloc (.cells #[.int .i64 0, .slice none 0 0, .int .i64 0, .int .i64 0, .bool false] 62)).alloc (.cells #[.int .i64 0, .int .i64 0, .bool false] 69) := ⟨_, rfl⟩
  obtain ⟨G1, hG1⟩ : ∃ G, G = w.heap.size := ⟨_, rfl⟩
  obtain ⟨G2, hG2⟩ : ∃ G, G = w.heap.size + 1 := ⟨_, rfl⟩
  obtain ⟨G3, hG3⟩ : ∃ G, G = w.heap.size + 1 + 1 := ⟨_, rfl⟩
  obtain ⟨G4, hG4⟩ : ∃ G, G = w.heap.size + 1 + 1 + 1 := ⟨_, rfl⟩
  have q1 : W.heap[G1]? = some (.cells #[.int .i64 (ln : Int), .int .i64 (ls : Int), .bool lsh] 69 (0, 0)) := by rw [hW, hG1]; exact heap_old (heap_old (heap_old (heap_new _ _) _) _) _
  have q2 : W.heap[G2]? = some (.cells #[.int .i64 (d.most : Int), .slice A d.bs.length c, .int .i64 (d.syn : Int), .int .i64 d.num, .bool d.down] 62 (0, 0)) := by rw [hW, hG2]; exact heap_old (heap_old (heap_new' _ _ _ (by simp)) _) _
  have q3 : W.heap[G3]? = some (.cells #[.int .i64 0, .slice none 0 0, .int .i64 0, .int .i64 0, .bool false] 62 (0, 0)) := by rw [hW, hG3]; exact heap_old (heap_new' _ _ _ (by simp)) _
  have q4 : W.heap[G4]? = some (.cells #[.int .i64 0, .int .i64 0, .bool false] 69 (0, 0)) := by rw [hW, hG4]; exact heap_new' _ _ _ (by simp)
  have hbW : Below w.heap.size w W := by rw [hW]; exact nxt (two _ _ _) (two _ _ _)
  have HG := Lib.hid (show (w.heap.size ≤ G1 ∧ w.heap.size ≤ G2 ∧ w.heap.size ≤ G3 ∧ w.heap.size ≤ G4) ∧ (G1 ≠ G2 ∧ G1 ≠ G3 ∧ G1 ≠ G4 ∧ G2 ≠ G3 ∧ G2 ≠ G4 ∧ G3 ≠ G4) ∧ G1 < W.heap.size ∧ G2 < W.heap.size ∧ G3 < W.heap.size ∧ G4 < W.heap.size from ⟨⟨by omega, by omega, by omega, by omega⟩, ⟨by omega, by omega, by omega, by omega, by omega, by omega⟩, lt_heap q1, lt_heap q2, lt_heap q3, lt_heap q4⟩)
  have hvW := hv.below hbW
  have hxW := hx.below hbW
  have hlen := hok.len
  have hmost := hok.most
  have Q1 := Lib.hid q1
  have Q2 := Lib.hid q2
  have Q3 := Lib.hid q3
  have Q4 := Lib.hid q4
  clear hx
  go_enter Try.func36, Try.ntmps36
  go_upto_region 1 with fail
  rw [← hW, ← hG4, ← hG3, ← hG2, ← hG1]
  clear hW hG1 hG2 hG3 hG4 hv
  obtain ⟨⟨l0, l1, l2⟩, fl0, fl1, fl2⟩ := box3r q1
  obtain ⟨⟨b0, b1, b2, b3, b4⟩, f0, f1, f2, f3, f4⟩ := box5 q2
  obtain ⟨⟨c0, c1, c2, c3, c4⟩, k0, k1, k2, k3, k4⟩ := box5 q3
  obtain ⟨⟨y0, y1, y2⟩, g0, g1, g2⟩ := box3r q4
  clear q1 q2 q3 q4
  obtain ⟨-, ⟨m12, m13, m14, m23, m24, m34⟩, z1, z2, z3, z4⟩ := HG.out
  have m21 : G2 ≠ G1 := fun e => m12 e.symm
  have m31 : G3 ≠ G1 := fun e => m13 e.symm
  have m41 : G4 ≠ G1 := fun e => m14 e.symm
  have m32 : G3 ≠ G2 := fun e => m23 e.symm
  have m42 : G4 ≠ G2 := fun e => m24 e.symm
  have m43 : G4 ≠ G3 := fun e => m34 e.symm
  by_cases h1 : x.length = 0
  · have t1 : ((x.length : Int) == 0) = true := by rw [h1]; rfl
    have HK : Hid (tk = 2) := HT.out.trans (if_pos h1)
    have HO := Lib.hid (hA1.out (by rw [HK.out]; decide))
    rw [HK.out] at HO
    clear hA1 hA2 hA3 HT h1 hD1 hD2
    go_upto_region 2 with fail
    go_region
    all_goals
      go_wp2_with fail
      refine add_end (Y := W) (n := ln) (s := ls) (sh := lsh) rfl Q3.out Q4.out m34 ?hx ?hb (Rv.same hok) HO.out rfl rfl rfl rfl
      case hx => exact drew_heap (put3 (put5 W G3 _ _ _ _ _) G4 _ _ _)
      case hb => exact (put3_below (put5_below hbW HG.out.1.2.2.1 _ _ _ _ _) HG.out.1.2.2.2 _ _ _).drew
  have t1 : ((x.length : Int) == 0) = false := beq_eq_false_iff_ne.2 (by omega)
  by_cases h2 : 1048576 < x.length
  · have t2 : decide ((1048576 : Int) < (x.length : Int)) = true := decide_eq_true (by omega)
    have t2' : decide (1048576 < x.length) = true := decide_eq_true h2
    have HK : Hid (tk = 3) := HT.out.trans ((if_neg h1).trans (if_pos h2))
    have HO := Lib.hid (hA1.out (by rw [HK.out]; decide))
    rw [HK.out] at HO
    clear hA1 hA2 hA3 HT h1 h2 hD1 hD2
    go_upto_region 4 with fail
    go_region
    all_goals
      go_wp2_with fail
      refine add_end (Y := W) (n := ln) (s := ls) (sh := lsh) rfl Q3.out Q4.out m34 ?hx ?hb (Rv.same hok) HO.out rfl rfl rfl rfl
      case hx => exact drew_heap (put3 (put5 W G3 _ _ _ _ _) G4 _ _ _)
      case hb => exact (put3_below (put5_below hbW HG.out.1.2.2.1 _ _ _ _ _) HG.out.1.2.2.2 _ _ _).drew
  have t2 : decide ((1048576 : Int) < (x.length : Int)) = false := decide_eq_false (by omega)
  have t2' : decide (1048576 < x.length) = false := decide_eq_false h2
  cases lsh with
  | true =>
    have HK : Hid (tk = 15) := HT.out.trans ((if_neg h1).trans ((if_neg h2).trans (if_pos rfl)))
    have HO := Lib.hid (hA1.out (by rw [HK.out]; decide))
    rw [HK.out] at HO
    clear hA1 hA2 hA3 HT h1 h2 hD1 hD2
    go_upto_region 6 with fail
    go_region
    all_goals
      go_wp2_with fail
      refine add_end (Y := W) (n := ln) (s := ls) (sh := true) rfl Q3.out Q4.out m34 ?hx ?hb (Rv.same hok) HO.out rfl rfl rfl rfl
      case hx => exact drew_heap (put3 (put5 W G3 _ _ _ _ _) G4 _ _ _)
      case hb => exact (put3_below (put5_below hbW HG.out.1.2.2.1 _ _ _ _ _) HG.out.1.2.2.2 _ _ _).drew
  | false =>
  have HK : Hid (tk = 0) := HT.out.trans ((if_neg h1).trans ((if_neg h2).trans (if_neg (by decide))))
  have hA2 := Lib.hid (hA2.out HK.out)
  have hA3 := Lib.hid (hA3.out HK.out)
  have hgood : lgood x := ⟨by omega, by omega, HX8.out⟩
  have hyl := lrec_length x
  have HY8 := Lib.hid (lrec_bytes x hgood)
  have hrec := Lib.hid (refrecord_any _ x W.drew hxW.drew (by omega))
  clear hA1 HT HK h1 hgood
  generalize lrec x = y at *
  have happ := Lib.hid (fun (w1 : World) (u : Value) (h1 : Bs w1 (.slice A d.bs.length c) d.bs) (h2 : Bs w1 u y) => refapp_any A c u d y w1 hok h1 h2 (by omega))
  generalize d.app y = D at *
  obtain ⟨d1, e1⟩ := D
  generalize addD d y = D2 at *
  obtain ⟨dz, ez⟩ := D2
  dsimp only at hD1 hD2 hA2 hA3 happ
  have HL := Lib.hid hyl
  have hxl : x.length ≤ 1048576 := by omega
  clear hyl h2
  go_upto_region 7 with fail
  go_cut [9] (fun s wx => s = .int .i64 (e1 : Int) ∧ Ad w W wx G2 A c d d1)
  case first =>
    go_region_law (first
      | (go_simp
         go_at_call 49
         refine hrec.out.mono ?_
         rintro e w1 ⟨u1, rfl, ho1, hb1'⟩
         have hb1 := of_drew hb1'
         have hu1 := Bs.of_own ho1 HY8.out
         obtain ⟨⟨a0, a1, a2, a3, a4⟩, -⟩ := box5 (heap_below Q2.out hb1))
      | (go_simp
         go_at_call 43
         refine (happ.out w1 u1 (hvW.below hb1) hu1).mono ?_
         rintro e w3 ⟨v', rfl, hrv, hb3⟩
         obtain ⟨hok1, A', c', rfl, -⟩ := id hrv
         have p2 := heap_below Q2.out (nxt hb1 hb3)
         obtain ⟨⟨a0', a1', a2', a3', a4'⟩, ff0, ff1, ff2, ff3, ff4⟩ := box5 p2)
      | (fail))
    all_goals
      go_wp2_with fail
      go_meet
      exact ⟨rfl, Ad.put (A1 := A) (c1 := c) (Rv.same hok) (fun _ _ _ => rfl) (Nat.le_refl _) hbW hb1 hrv hb3 p2 HG.out.1.2.1 HG.out.2.2.2.1⟩
  case rest =>
  obtain ⟨rfl, hAd⟩ := hcut
  clear l0 l1 l2 fl0 fl1 fl2 b0 b1 b2 b3 b4 f0 f1 f2 f3 f4 c0 c1 c2 c3 c4 k0 k1 k2 k3 k4 y0 y1 y2 g0 g1 g2
  clear hrec happ
  obtain ⟨A1, c1', p2, hrv, hoth, hszx, hbx⟩ := hAd
  have p1 : Hid (wc.heap[G1]? = some (.cells #[.int .i64 (ln : Int), .int .i64 (ls : Int), .bool false] 69 (0, 0))) := (hoth G1 z1 m12).trans Q1.out
  have p3 : Hid (wc.heap[G3]? = some (.cells #[.int .i64 0, .slice none 0 0, .int .i64 0, .int .i64 0, .bool false] 62 (0, 0))) := (hoth G3 z3 m32).trans Q3.out
  have p4 : Hid (wc.heap[G4]? = some (.cells #[.int .i64 0, .int .i64 0, .bool false] 69 (0, 0))) := (hoth G4 z4 m42).trans Q4.out
  have HP2 := Lib.hid p2
  have HRV := Lib.hid hrv
  have HOTH := Lib.hid hoth
  clear p2 hrv hoth
  obtain ⟨⟨l0, l1, l2⟩, fl0, fl1, fl2⟩ := box3r p1.out
  obtain ⟨⟨b0, b1, b2, b3, b4⟩, f0, f1, f2, f3, f4⟩ := box5 HP2.out
  obtain ⟨⟨c0, c1, c2, c3, c4⟩, k0, k1, k2, k3, k4⟩ := box5 p3.out
  obtain ⟨⟨y0, y1, y2⟩, g0, g1, g2⟩ := box3r p4.out
  by_cases h0 : ¬ (e1 = 0)
  · have hz := hD1.out h0
    injection hz with hz1 hz2
    subst hz1 hz2
    have HO := Lib.hid (hA2.out h0)
    clear hA2 hA3 hD1 hD2
    have t3 : ((ez : Int) != 0) = true := bne_iff_ne.2 (by omega)
    have t3' : ((ez : Int) == 0) = false := beq_eq_false_iff_ne.2 (by omega)
    obtain ⟨bb, hbb⟩ : ∃ b, ((ez : Int) != 5) = b := ⟨_, rfl⟩
    have hbn : (ez != 5) = bb := by
      rw [← hbb]
      by_cases h : ez = 5
      · subst h
        rfl
      · rw [bne_iff_ne.2 h, bne_iff_ne.2 (by omega)]
    rw [hbn] at HO
    clear hbn h0
    go_upto_region 12 with fail
    go_region
    all_goals
      go_wp2_with fail
      refine add_end (A' := A1) (c' := c1') (Y := wc.setCell ⟨G1, 2, none⟩ (.bool bb)) (n := ln) (s := ls) (sh := bb) rfl (heap_set_ne p3.out m31 2 _) (heap_set_ne p4.out m41 2 _) m34 ?hx ?hb ?hr HO.out rfl rfl rfl rfl
      case hx => exact drew_heap (put3 (put5 (wc.setCell ⟨G1, 2, none⟩ (.bool bb)) G3 _ _ _ _ _) G4 _ _ _)
      case hb => exact (put3_below (put5_below (hbx.setCell HG.out.1.1 _) HG.out.1.2.2.1 _ _ _ _ _) HG.out.1.2.2.2 _ _ _).drew
      case hr => exact HRV.out.far hbW.size (fun k hk _ => Below.heap_setCell _ _ _ _ (show k ≠ G1 by omega))
  have h0 : e1 = 0 := Classical.not_not.1 h0
  subst h0
  have hz := hD2.out rfl
  have hsy := Lib.hid (refsync_any A1 c1' d1 wc HRV.out.1)
  rw [← hz] at hsy
  dsimp only at hsy
  clear hz hD1 hD2
  rw [show ((0 : Nat) : Int) = 0 from rfl]
  go_wp2_with fail
  refine hsy.out.mono ?_
  rintro e w3 ⟨v', rfl, hrv3, hb3⟩
  obtain ⟨hok2, A2, c2', rfl, -⟩ := id hrv3
  have p2' := heap_below HP2.out hb3
  clear l0 l1 l2 fl0 fl1 fl2 b0 b1 b2 b3 b4 f0 f1 f2 f3 f4 c0 c1 c2 c3 c4 k0 k1 k2 k3 k4 y0 y1 y2 g0 g1 g2
  obtain ⟨⟨b0, b1, b2, b3, b4⟩, f0, f1, f2, f3, f4⟩ := box5 p2'
  obtain ⟨V, hV⟩ : ∃ V, V = ((((w3.setCell ⟨G2, 0, none⟩ (.int .i64 (dz.most : Int))).setCell ⟨G2, 1, none⟩ (.slice A2 dz.bs.length c2')).setCell ⟨G2, 2, none⟩ (.int .i64 (dz.syn : Int))).setCell ⟨G2, 3, none⟩ (.int .i64 dz.num)).setCell ⟨G2, 4, none⟩ (.bool dz.down) := ⟨_, rfl⟩
  have hAd : Ad w W V G2 A c d dz := by
    rw [hV]
    exact Ad.put HRV.out HOTH.out hszx hbx (Below.refl _ _) hrv3 hb3 p2' HG.out.1.2.1 HG.out.2.2.2.1
  go_upto_region 10 with fail
  rw [← hV]
  clear hV b0 b1 b2 b3 b4 f0 f1 f2 f3 f4 p2' hrv3 hb3 hok2 hsy HRV HOTH HP2 p1 p3 p4 hbx hszx
  obtain ⟨A1, c1', p2, hrv, hoth, hszx, hbx⟩ := hAd
  have p1 : Hid (V.heap[G1]? = some (.cells #[.int .i64 (ln : Int), .int .i64 (ls : Int), .bool false] 69 (0, 0))) := (hoth G1 z1 m12).trans Q1.out
  have p3 : Hid (V.heap[G3]? = some (.cells #[.int .i64 0, .slice none 0 0, .int .i64 0, .int .i64 0, .bool false] 62 (0, 0))) := (hoth G3 z3 m32).trans Q3.out
  have p4 : Hid (V.heap[G4]? = some (.cells #[.int .i64 0, .int .i64 0, .bool false] 69 (0, 0))) := (hoth G4 z4 m42).trans Q4.out
  have HP2 := Lib.hid p2
  have HRV := Lib.hid hrv
  have HOTH := Lib.hid hoth
  clear p2 hrv hoth
  obtain ⟨⟨l0, l1, l2⟩, fl0, fl1, fl2⟩ := box3r p1.out
  obtain ⟨⟨b0, b1, b2, b3, b4⟩, f0, f1, f2, f3, f4⟩ := box5 HP2.out
  obtain ⟨⟨c0, c1, c2, c3, c4⟩, k0, k1, k2, k3, k4⟩ := box5 p3.out
  obtain ⟨⟨y0, y1, y2⟩, g0, g1, g2⟩ := box3r p4.out
  by_cases h0 : ¬ (ez = 0)
  · have HO := Lib.hid (hA2.out h0)
    clear hA2 hA3
    have t3 : ((ez : Int) != 0) = true := bne_iff_ne.2 (by omega)
    have t3' : ((ez : Int) == 0) = false := beq_eq_false_iff_ne.2 (by omega)
    obtain ⟨bb, hbb⟩ : ∃ b, ((ez : Int) != 5) = b := ⟨_, rfl⟩
    have hbn : (ez != 5) = bb := by
      rw [← hbb]
      by_cases h : ez = 5
      · subst h
        rfl
      · rw [bne_iff_ne.2 h, bne_iff_ne.2 (by omega)]
    rw [hbn] at HO
    clear hbn h0
    go_upto_region 12 with fail
    go_region
    all_goals
      go_wp2_with fail
      refine add_end (A' := A1) (c' := c1') (Y := V.setCell ⟨G1, 2, none⟩ (.bool bb)) (n := ln) (s := ls) (sh := bb) rfl (heap_set_ne p3.out m31 2 _) (heap_set_ne p4.out m41 2 _) m34 ?hx ?hb ?hr HO.out rfl rfl rfl rfl
      case hx => exact drew_heap (put3 (put5 (V.setCell ⟨G1, 2, none⟩ (.bool bb)) G3 _ _ _ _ _) G4 _ _ _)
      case hb => exact (put3_below (put5_below (hbx.setCell HG.out.1.1 _) HG.out.1.2.2.1 _ _ _ _ _) HG.out.1.2.2.2 _ _ _).drew
      case hr => exact HRV.out.far hbW.size (fun k hk _ => Below.heap_setCell _ _ _ _ (show k ≠ G1 by omega))
  have h0 : ez = 0 := Classical.not_not.1 h0
  subst h0
  have HO := Lib.hid (hA3.out rfl)
  rw [HL.out, ← Nat.add_assoc] at HO
  rw [show ((0 : Nat) : Int) = 0 from rfl]
  clear hA2 hA3 HL
  obtain ⟨n1, hn1⟩ : ∃ n1 : Nat, n1 = ln + 1 := ⟨_, rfl⟩
  obtain ⟨s1, hs1⟩ : ∃ s1 : Nat, s1 = ls + 8 + x.length := ⟨_, rfl⟩
  have r1 : (ln : Int) + 1 = (n1 : Int) := by omega
  have r2 : (ls : Int) + 8 + (x.length : Int) = (s1 : Int) := by omega
  rw [← hn1, ← hs1] at HO
  have HR1 := Lib.hid r1
  have HR2 := Lib.hid r2
  clear r1 r2 hn1 hs1
  go_upto_region 15 with fail
  rw [HR1.out, HR2.out]
  obtain ⟨V2, hV2⟩ : ∃ V2, V2 = (V.setCell ⟨G1, 0, none⟩ (.int .i64 (n1 : Int))).setCell ⟨G1, 1, none⟩ (.int .i64 (s1 : Int)) := ⟨_, rfl⟩
  have e1' : V2.heap[G1]? = some (.cells #[.int .i64 (n1 : Int), .int .i64 (s1 : Int), .bool false] 69 (0, 0)) := by rw [hV2]; exact heap_set (heap_set p1.out 0 _) 1 _
  have e2' : V2.heap[G2]? = some (.cells #[.int .i64 (dz.most : Int), .slice A1 dz.bs.length c1', .int .i64 (dz.syn : Int), .int .i64 dz.num, .bool dz.down] 62 (0, 0)) := by rw [hV2]; exact heap_set_ne (heap_set_ne HP2.out m21 0 _) m21 1 _
  have e3' : Hid (V2.heap[G3]? = some (.cells #[.int .i64 0, .slice none 0 0, .int .i64 0, .int .i64 0, .bool false] 62 (0, 0))) := by rw [hV2]; exact heap_set_ne (heap_set_ne p3.out m31 0 _) m31 1 _
  have e4' : Hid (V2.heap[G4]? = some (.cells #[.int .i64 0, .int .i64 0, .bool false] 69 (0, 0))) := by rw [hV2]; exact heap_set_ne (heap_set_ne p4.out m41 0 _) m41 1 _
  have hrv2 : Hid (Rv w V2 A c d dz (.agg #[.int .i64 (dz.most : Int), .slice A1 dz.bs.length c1', .int .i64 (dz.syn : Int), .int .i64 dz.num, .bool dz.down])) := by
    rw [hV2]
    exact HRV.out.far hbW.size (fun k hk _ => (Below.heap_setCell _ _ _ _ (show k ≠ G1 by omega)).trans (Below.heap_setCell _ _ _ _ (show k ≠ G1 by omega)))
  have hbx2 : Below w.heap.size w V2 := by rw [hV2]; exact (hbx.setCell HG.out.1.1 _).setCell HG.out.1.1 _
  rw [← hV2]
  clear hV2 HR1 HR2 p1 p3 p4 HP2 HRV HOTH hbx hszx
  clear l0 l1 l2 fl0 fl1 fl2 b0 b1 b2 b3 b4 f0 f1 f2 f3 f4 c0 c1 c2 c3 c4 k0 k1 k2 k3 k4 y0 y1 y2 g0 g1 g2
  obtain ⟨⟨l0, l1, l2⟩, -⟩ := box3r e1'
  obtain ⟨⟨b0, b1, b2, b3, b4⟩, -⟩ := box5 e2'
  obtain ⟨⟨c0, c1, c2, c3, c4⟩, k0, k1, k2, k3, k4⟩ := box5 e3'.out
  obtain ⟨⟨y0, y1, y2⟩, g0, g1, g2⟩ := box3r e4'.out
  clear e1' e2'
  go_region
  all_goals
    go_wp2_with fail
    refine add_end (A' := A1) (c' := c1') (Y := V2) (n := n1) (s := s1) (sh := false) rfl e3'.out e4'.out m34 ?hx ?hb hrv2.out HO.out rfl rfl rfl rfl
    case hx => exact drew_heap (put3 (put5 V2 G3 _ _ _ _ _) G4 _ _ _)
    case hb => exact (put3_below (put5_below hbx2 HG.out.1.2.2.1 _ _ _ _ _) HG.out.1.2.2.2 _ _ _).drew
end Go.Proofs.Ytjcefnlidophoaa
