/- droverlaw06.NetPlays returns true whatever its arguments: through any script every answer, and what is on its way, is as the document defines. For every input, without conditions. -/
import Derived.Test.YtcaddokedkndmaaRow
import Derived.Test.YtcaddokedkndmaaNf
import Derived.Test.YtcaddokedkndmaaNl
namespace Go.Proofs.Ytcaddokedkndmaa.netPlays
open Go.ChangeShapes Go.WideShapes Go.ChangeAt Go.RowKit
set_option linter.unusedVariables false

theorem box5 {w : World} {g : Nat} {y0 y1 y2 y3 y4 : Value} {T : TypeId} (h : w.heap[g]? = some (.cells #[y0, y1, y2, y3, y4] T (0, 0))) :
    w.cell? ⟨g, 0, none⟩ = some y0 ∧ w.cell? ⟨g, 1, none⟩ = some y1 ∧ w.cell? ⟨g, 2, none⟩ = some y2 ∧ w.cell? ⟨g, 3, none⟩ = some y3 ∧ w.cell? ⟨g, 4, none⟩ = some y4 :=
  ⟨cell_block h 0, cell_block h 1, cell_block h 2, cell_block h 3, cell_block h 4⟩
def El (N : Nat) (L : List Gr) : Prop := ∀ x ∈ L, hasB N x.fr = true ∧ hasB N x.to = true ∧ x.d.length ≤ 200
theorem El.send {N : Nat} {L : List Gr} (h : El N L) (f t : Int) (d : List Nat) (hd : d.length ≤ 200) : El N (sendL N L f t d) := by
  unfold sendL
  split
  · rename_i hE
    unfold sendE at hE
    have b1 : hasB N f = true := by cases hb : hasB N f <;> simp_all
    have b2 : hasB N t = true := by cases hb : hasB N t <;> simp_all
    intro x hx
    rcases List.mem_append.1 hx with hx | hx
    · exact h x hx
    · simp at hx
      subst hx
      exact ⟨b1, b2, hd⟩
  · exact h
theorem El.copy {N : Nat} {L : List Gr} (h : El N L) (i : Int) : El N (copyL L i) := by
  unfold copyL
  split
  · exact h
  · split
    · exact h
    · rename_i x hx
      intro y hy
      rcases List.mem_append.1 hy with hy | hy
      · exact h y hy
      · simp at hy
        subst hy
        unfold nthG at hx
        split at hx
        · exact h y (List.mem_of_getElem? hx)
        · cases hx
theorem El.drop {N : Nat} {L : List Gr} (h : El N L) (i : Int) : El N (dropL L i) := by
  unfold dropL
  split
  · exact fun x hx => h x (List.mem_of_mem_eraseIdx hx)
  · exact h
theorem El.rest {N : Nat} {L : List Gr} (h : El N L) (i : Int) : El N (rest L i) := fun x hx => h x (rest_mem L i hx)
theorem El.mid {N : Nat} {L : List Gr} (h : El N L) : ∀ x ∈ L, hasB N x.fr = true ∧ hasB N x.to = true ∧ x.d.length ≤ 1048640 := fun x hx => by
  obtain ⟨h1, h2, h3⟩ := h x hx
  exact ⟨h1, h2, by omega⟩
/-- What Take tells, in one form. -/
theorem take_flat {w w' : World} {base q N : Nat} {r : Option Nat} {L : List Gr} {i : Int} {e : Ending} (h : TakeP w base q r N L i e w') :
    AfterN w base q r N (dropL L i) w' ∧ ∃ A c, e = .returned (.tuple #[.agg #[.int .i64 (takeG L i).fr, .int .i64 (takeG L i).to, .slice A (takeG L i).d.length c], .bool (hasB L.length i)]) ∧ Bx w' base (.slice A (takeG L i).d.length c) (takeG L i).d := by
  obtain ⟨h1, h2⟩ := h
  refine ⟨h1, ?_⟩
  unfold takeG
  rcases nth_has L i with ⟨k1, k2⟩ | ⟨k, hk, rfl, k1, k2⟩
  · rw [k2] at h2 ⊢
    rw [k1]
    exact ⟨none, 0, h2, Bx.nil _ _⟩
  · rw [k2] at h2 ⊢
    rw [k1]
    obtain ⟨b, c, cur, fr, rfl, -, hh, hb, -⟩ := h2
    exact ⟨_, _, rfl, Bx.of_blk hb hh⟩
def cN (N : Nat) (v : Value) : Obj := .cells #[.int .i64 (N : Int), v] 40 (0, 0)
def cG (x : Gr) (u : Value) : Obj := .cells #[.int .i64 x.fr, .int .i64 x.to, u] 29 (0, 0)
/-- The net, and the document's beside it. -/
structure Two6 (w : World) (N Bw : Nat) (r : Option Nat) (v : Value) (L : List Gr) (wx : World) : Prop where
  nt : NtAt wx w.heap.size w.heap.size r N L
  gr : GR wx w.heap.size v L
  bw : wx.heap[Bw]? = some (cN N v)
  el : El N L
  bl : Below w.heap.size w wx
theorem Two6.below {w wx wy : World} {N Bw : Nat} {r : Option Nat} {v : Value} {L : List Gr} (h : Two6 w N Bw r v L wx) (hb : Below wx.heap.size wx wy) : Two6 w N Bw r v L wy :=
  ⟨h.nt.below hb, h.gr.below hb, heap_below h.bw hb, h.el, nxt h.bl hb⟩
theorem nth_one (L : List Gr) (k : Nat) (x : Gr) (hx : L[k]? = some x) : nthG L (k : Int) = some x := by unfold nthG; rw [if_pos (by omega)]; simpa using hx
/-- What the two calls of a step leave. -/
def Pl6 (w : World) (N Bw G1 G2 : Nat) (s11 s12 s15 s16 s17 s18 : Value) (wx : World) : Prop := ∃ (er kk : Nat) (ok : Bool) (r : Option Nat) (v : Value) (L : List Gr) (x : Gr) (A1 A2 : Option Addr) (c1 c2 : Nat),
  s11 = .int .i64 (er : Int) ∧ s12 = .int .i64 (er : Int) ∧ s15 = .bool ok ∧ s16 = .bool ok ∧ s17 = .int .i64 (kk : Int) ∧ s18 = .int .i64 (kk : Int) ∧ Two6 w N Bw r v L wx ∧
  wx.heap[G1]? = some (cG x (.slice A1 x.d.length c1)) ∧ wx.heap[G2]? = some (cG x (.slice A2 x.d.length c2)) ∧ Bx wx w.heap.size (.slice A1 x.d.length c1) x.d ∧ Bx wx w.heap.size (.slice A2 x.d.length c2) x.d
/-- The document's net is stored. -/
theorem Two6.put {w w3 : World} {N Bw : Nat} {r : Option Nat} {v0 v3 : Value} {L' : List Gr} (hn : NtAt w3 w.heap.size w.heap.size r N L') (hb : w3.heap[Bw]? = some (cN N v0)) (hBw : w.heap.size ≤ Bw) (hg : GR w3 w.heap.size v3 L') (hel : El N L') (hbl : Below w.heap.size w w3) :
    Two6 w N Bw r v3 L' ((w3.setCell ⟨Bw, 0, none⟩ (.int .i64 (N : Int))).setCell ⟨Bw, 1, none⟩ v3) := by
  have h1 := heap_set hb 0 (.int .i64 (N : Int))
  have h2 := heap_set h1 1 v3
  have hq : w.heap.size ≠ Bw := fun e => by
    have := hn.q_ne hb (by decide)
    exact this e.symm
  refine ⟨hn.other ?_ (fun g e => ?_), (hg.other (i := 0) hb (by decide) (by decide) hBw _).other (i := 1) h1 (by decide) (by decide) hBw _, h2, hel, (hbl.setCell (p := ⟨Bw, 0, none⟩) hBw _).setCell (p := ⟨Bw, 1, none⟩) hBw _⟩
  · exact (Below.heap_setCell _ _ _ _ hq).trans (Below.heap_setCell _ _ _ _ hq)
  · have hne : g ≠ Bw := fun h => hn.row_ne hb (by decide) (by rw [e, h])
    exact (Below.heap_setCell _ _ _ _ hne).trans (Below.heap_setCell _ _ _ _ hne)
theorem set_far {w : World} {k g : Nat} {o : Obj} {u0 u1 : Value} (h : w.heap[k]? = some o) (hne : k ≠ g) : ((w.setCell ⟨g, 0, none⟩ u0).setCell ⟨g, 1, none⟩ u1).heap[k]? = some o := heap_set_ne (heap_set_ne h hne 0 u0) hne 1 u1
theorem Bx.far {w : World} {base g : Nat} {v u0 u1 : Value} {x : List Nat} {C : Array Value} {T : TypeId} {fr : Nat × Nat} (h : Bx w base v x) (hg : w.heap[g]? = some (.cells C T fr)) (hT : T ≠ 5) (hb : base ≤ g) : Bx ((w.setCell ⟨g, 0, none⟩ u0).setCell ⟨g, 1, none⟩ u1) base v x :=
  (h.other (i := 0) hg hT hb u0).other (i := 1) (heap_set hg 0 u0) hT hb u1
/-- What holds at the loop's head. -/
def PlI (w : World) (n N Bw : Nat) (i : Value) (wr : World) : Prop := ∃ (j : Nat) (r : Option Nat) (v : Value) (L : List Gr), j ≤ n ∧ j ≤ 80 ∧ i = .int .i64 (j : Int) ∧ Two6 w N Bw r v L wr

set_option maxRecDepth 100000 in
set_option maxHeartbeats 32000000 in
theorem walk (w : World) (a0 : Int) (a1 : Option Addr) (n1 c1 : Nat) (w0 : (Lit.int .i64 a0).wf = true) (w1 : ∃ l, l.length = n1 ∧ n1 ≤ c1 ∧ c1 ≤ maxLen ∧ Ops6 w w.heap.size a1 l) :
    Calls Try.prog 4 #[.int .i64 a0, .slice a1 n1 c1] w fun e w' => e = .returned (.bool true) ∧ Below w.heap.size w w' := by
  obtain ⟨l, hl, hc, hcm, hg⟩ := w1
  have HG := Lib.hid hg
  have HL := Lib.hid hl
  unfold maxLen at hcm
  clear hg hl w0
  go_enter Try.func4, Try.ntmps4
  go_wp2_with fail
  refine (new_any a0 w).mono ?_
  rintro e w1 (⟨hno, rfl, rfl⟩ | ⟨N, rfl, hN1, hN16, rfl, hn1, hb1⟩)
  · go_wp2_with fail
    refine (rnew_any a0 w).mono ?_
    rintro e w2 ⟨hb2, ⟨-, rfl⟩ | ⟨hyes, rfl⟩⟩
    · have hb3 := nxt hb2 ((Below.refl w2.heap.size w2).alloc (Nat.le_refl _) (.cells #[.int .i64 0, .slice none 0 0] 40))
      go_wp2_with fail
      refine (awake06_any _).mono ?_
      rintro e w3 ⟨rfl, hb4⟩
      go_wp2_with fail
      go_ret
      exact ⟨rfl, nxt hb3 hb4⟩
    · exact absurd hyes hno
  go_wp2_with fail
  refine (rnew_any (N : Int) w1).mono ?_
  rintro e w2 ⟨hb2, ⟨hno, rfl⟩ | ⟨-, rfl⟩⟩
  · exact absurd ⟨by omega, by omega⟩ hno
  have hb3 := (Below.refl w2.heap.size w2).alloc (Nat.le_refl _) (.cells #[.int .i64 (N : Int), .slice none 0 0] 40)
  have hbw : (w2.alloc (.cells #[.int .i64 (N : Int), .slice none 0 0] 40)).heap[w2.heap.size]? = some (cN N (.slice none 0 0)) := heap_new w2 _
  have h2 : Two6 w N w2.heap.size none (.slice none 0 0) [] (w2.alloc (.cells #[.int .i64 (N : Int), .slice none 0 0] 40)) := ⟨(hn1.below hb2).below hb3, GR.nil _ _, hbw, fun x hx => (by cases hx), nxt (nxt hb1 hb2) hb3⟩
  have hBw : w.heap.size ≤ w2.heap.size := (nxt hb1 hb2).size
  obtain ⟨W, hW⟩ : ∃ W, W = w2.alloc (.cells #[.int .i64 (N : Int), .slice none 0 0] 40) := ⟨_, rfl⟩
  obtain ⟨Bw, hB⟩ : ∃ Bw, Bw = w2.heap.size := ⟨_, rfl⟩
  go_upto_region 5 with fail
  rw [← hW] at h2 ⊢
  rw [← hB] at h2 hBw ⊢
  clear hW hB hb3 hbw hn1 hb1 hb2
  go_wp2_with fail
  go_loopw [9] (fun i wr => PlI w n1 N Bw i wr) (fun i _ => n1 - (intOf i).toNat)
  case atStart => exact ⟨0, none, _, [], by omega, by omega, rfl, h2⟩
  case round =>
    clear h2
    obtain ⟨j, r, v, L, hjn, hj80, rfl, h2⟩ := hrel
    obtain ⟨bb, hbb⟩ : ∃ b, Hid (decide (j < n1 ∧ j < 80) = b) := ⟨_, Lib.hid rfl⟩
    go_upto_region 6 with fail
    go_cut [56] from 49 to 56 (fun s wx => s = .bool bb ∧ wr = wx)
    case first =>
      by_cases h1 : j < n1
      · have d1 : decide ((j : Int) < (n1 : Int)) = true := decide_eq_true (by omega)
        have d2 : decide (j < n1) = true := decide_eq_true h1
        obtain ⟨b2, hb2⟩ : ∃ b, decide ((j : Int) < 80) = b := ⟨_, rfl⟩
        have hb3 : decide (j < 80) = b2 := by rw [← hb2]; exact decide_eq_decide.2 (by omega)
        obtain rfl : bb = b2 := by rw [← hbb.out, ← hb3]; exact decide_eq_decide.2 ⟨fun h => h.2, fun h => ⟨h1, h⟩⟩
        go_wp2_with fail
        go_meet
        exact ⟨rfl, rfl⟩
      · have d1 : decide ((j : Int) < (n1 : Int)) = false := decide_eq_false (by omega)
        have d2 : decide (j < n1) = false := decide_eq_false h1
        obtain rfl : bb = false := by rw [← hbb.out]; exact decide_eq_false (fun h => h1 h.1)
        go_wp2_with fail
        go_meet
        exact ⟨rfl, rfl⟩
    case rest =>
      obtain ⟨rfl, rfl⟩ := hcut
      cases bb with
      | true =>
        obtain ⟨hlt, hlt2⟩ := of_decide_eq_true hbb.out
        have hjl : j < l.length := by have := HL.out; omega
        obtain ⟨x, hx⟩ : ∃ x, Hid (l[j]? = some x) := ⟨l[j], Lib.hid (List.getElem?_eq_getElem hjl)⟩
        obtain ⟨b, o, y0, y1, y2, y3, y4, rfl, hbB, hra, Ad, cd, rfl, rfl, rfl, rfl, rfl, hcd, hat, h8, -, -, -, -, -⟩ := HG.out j x hx.out
        have hbr := h2.bl
        have t0 := (hbr.cell (p := ⟨b, o + j * 5, none⟩) hbB).trans (hra 0 _ rfl)
        have t1 := (hbr.cell (p := ⟨b, o + j * 5 + 1, none⟩) hbB).trans (hra 1 _ rfl)
        have t2 := (hbr.cell (p := ⟨b, o + j * 5 + 2, none⟩) hbB).trans (hra 2 _ rfl)
        have t3 := (hbr.cell (p := ⟨b, o + j * 5 + 3, none⟩) hbB).trans (hra 3 _ rfl)
        have t4 := (hbr.cell (p := ⟨b, o + j * 5 + 4, none⟩) hbB).trans (hra 4 _ rfl)
        have hbx : Bx w w.heap.size (.slice Ad x.d.length cd) x.d := Bx.of_bs ⟨⟨Ad, cd, rfl, hcd, hat⟩, h8⟩ (Nat.le_refl _)
        have hb8 := (Below.refl wr.heap.size wr).alloc (Nat.le_refl _) (.cells #[.int .i64 x.k, .int .i64 x.fr, .int .i64 x.to, .int .i64 x.i, .slice Ad x.d.length cd] 44)
        have hq8 := heap_new wr (.cells #[.int .i64 x.k, .int .i64 x.fr, .int .i64 x.to, .int .i64 x.i, .slice Ad x.d.length cd] 44)
        have H28 := Lib.hid (h2.below hb8)
        have HX8 := Lib.hid ((hbx.below hbr).below hb8)
        obtain ⟨W, hW⟩ : ∃ W, W = wr.alloc (.cells #[.int .i64 x.k, .int .i64 x.fr, .int .i64 x.to, .int .i64 x.i, .slice Ad x.d.length cd] 44) := ⟨_, rfl⟩
        obtain ⟨B, hB⟩ : ∃ B, B = wr.heap.size := ⟨_, rfl⟩
        clear hra hat h8 hbx hjl hbr hb8 h2
        go_upto_region 9 with fail
        rw [← hW] at hq8 H28 HX8 ⊢
        rw [← hB] at hq8 ⊢
        clear hW hB t0 t1 t2 t3 t4 hbB
        obtain ⟨c0, c1, c2, c3, c4⟩ := box5 hq8
        by_cases h200 : x.d.length ≤ 200
        · have d1 : decide ((x.d.length : Int) > 200) = false := decide_eq_false (by omega)
          have d2 : decide (200 < x.d.length) = false := decide_eq_false (by omega)
          have hbG := two W (.cells #[.int .i64 0, .int .i64 0, .slice none 0 0] 29) (.cells #[.int .i64 0, .int .i64 0, .slice none 0 0] 29)
          have hg1 : ((W.alloc (.cells #[.int .i64 0, .int .i64 0, .slice none 0 0] 29)).alloc (.cells #[.int .i64 0, .int .i64 0, .slice none 0 0] 29)).heap[W.heap.size]? = some (cG gz (.slice none 0 0)) := heap_old (heap_new W (.cells #[.int .i64 0, .int .i64 0, .slice none 0 0] 29)) (.cells #[.int .i64 0, .int .i64 0, .slice none 0 0] 29)
          have hg2 : ((W.alloc (.cells #[.int .i64 0, .int .i64 0, .slice none 0 0] 29)).alloc (.cells #[.int .i64 0, .int .i64 0, .slice none 0 0] 29)).heap[W.heap.size + 1]? = some (cG gz (.slice none 0 0)) := heap_new' (W.alloc (.cells #[.int .i64 0, .int .i64 0, .slice none 0 0] 29)) (.cells #[.int .i64 0, .int .i64 0, .slice none 0 0] 29) (W.heap.size + 1) (by simp)
          have H2 := Lib.hid (H28.out.below hbG)
          have HX := Lib.hid (HX8.out.below hbG)
          have hq := heap_below hq8 hbG
          have hBW : B < W.heap.size := lt_heap hq8
          obtain ⟨X, hX⟩ : ∃ X, X = (W.alloc (.cells #[.int .i64 0, .int .i64 0, .slice none 0 0] 29)).alloc (.cells #[.int .i64 0, .int .i64 0, .slice none 0 0] 29) := ⟨_, rfl⟩
          obtain ⟨G1, hG1⟩ : ∃ G1, G1 = W.heap.size := ⟨_, rfl⟩
          obtain ⟨G2, hG2⟩ : ∃ G2, G2 = W.heap.size + 1 := ⟨_, rfl⟩
          have hBwW : Bw < W.heap.size := lt_heap H28.out.bw
          have hrow : ∀ g, v.ownBlock = some g → g < W.heap.size := fun g hg => (H28.out.gr.blk hg).2.1
          go_upto_region 14 with fail
          rw [← hX] at hg1 hg2 H2 HX hq ⊢
          rw [← hG2] at hg2 ⊢
          rw [← hG1] at hg1 hBW hBwW hrow ⊢
          have hG12 : G1 < G2 := by rw [hG2, hG1]; exact Nat.lt_succ_self _
          have hsX : G2 < X.heap.size := lt_heap hg2
          have hwG : w.heap.size ≤ G1 := by have := H28.out.bl.size; omega
          clear hX hG1 hG2 hbG H28 HX8 hq8 c0 c1 c2 c3 c4 d1 d2
          have HQ := Lib.hid hq
          have HG1 := Lib.hid hg1
          have HG2 := Lib.hid hg2
          have HRW := Lib.hid hrow
          clear hg1 hg2 hrow
          obtain ⟨c0, c1, c2, c3, c4⟩ := box5 hq
          clear hq
          go_upto_block 2 with fail
          go_cut [11, 12, 15, 16, 17, 18] from 69 to 148 (fun s11 s12 s15 s16 s17 s18 wx => Pl6 w N Bw G1 G2 s11 s12 s15 s16 s17 s18 wx)
          case first =>
            by_cases q1 : x.k = 1
            · have u1 : (x.k == 1) = true := by rw [q1]; rfl
              clear q1
              as_aux_lemma =>
                go_wp2_with fail
                refine (send_any H2.out.nt x.fr x.to _ x.d HX.out.bs).mono ?_
                rintro e w2 ⟨rfl, ha2⟩
                have hq2 := ha2.keep H2.out.nt HQ.out (by decide) (by decide)
                have hw2 := ha2.keep H2.out.nt H2.out.bw (by decide) (by decide)
                have hg12 := ha2.keep H2.out.nt HG1.out (by decide) (by decide)
                have hg22 := ha2.keep H2.out.nt HG2.out (by decide) (by decide)
                have hGr2 := H2.out.gr.aft H2.out.nt ha2
                have hX2 := ha2.bx H2.out.nt HX.out
                have hb2 := H2.out.bl.trans (ha2.low H2.out.nt)
                have hel := H2.out.el
                have hlen := H2.out.nt.len
                have hsz2 : X.heap.size ≤ w2.heap.size := by
                  obtain ⟨_, _, h, _⟩ := ha2
                  exact h.size
                obtain ⟨r2, hn2, -, -⟩ := ha2
                clear c0 c1 c2 c3 c4 H2 HX HQ HG1 HG2
                obtain ⟨c0, c1, c2, c3, c4⟩ := box5 hq2
                obtain ⟨⟨z0, z1⟩, -⟩ := box2 (show w2.heap[Bw]? = some (.cells #[.int .i64 (N : Int), v] 40 (0, 0)) from hw2)
                go_wp2_with fail
                refine (rsend_any N x.fr x.to _ x.d hGr2 (by have := hb2.size; omega) hX2).mono ?_
                rintro e w3 ⟨u3, rfl, ⟨v3, rfl, hG3, -⟩, hb3⟩
                have hn3 := hn2.below hb3
                have hw3 := heap_below hw2 hb3
                have hg13 := heap_below hg12 hb3
                have hg23 := heap_below hg22 hb3
                have hP := Two6.put hn3 hw3 hBw hG3 (hel.send x.fr x.to x.d h200) (nxt hb2 hb3)
                have HP := Lib.hid hP
                obtain ⟨A3, k3, rfl, -, -⟩ := hG3.slice
                obtain ⟨m3, hm3⟩ : ∃ m3, Hid ((sendL N L x.fr x.to x.d).length = m3) := ⟨_, Lib.hid rfl⟩
                rw [show (Value.slice A3 (sendL N L x.fr x.to x.d).length k3) = .slice A3 m3 k3 by rw [hm3.out]] at HP ⊢
                obtain ⟨⟨z0, z1⟩, p0, p1⟩ := box2 (show w3.heap[Bw]? = some (.cells #[.int .i64 (N : Int), v] 40 (0, 0)) from hw3)
                have HE1 := Lib.hid (set_far (u0 := .int .i64 (N : Int)) (u1 := .slice A3 m3 k3) hg13 (show G1 ≠ Bw by omega))
                have HE2 := Lib.hid (set_far (u0 := .int .i64 (N : Int)) (u1 := .slice A3 m3 k3) hg23 (show G2 ≠ Bw by omega))
                clear c0 c1 c2 c3 c4 hq2 hw2 hg12 hg22 hGr2 hX2 hb2 hn2 hn3 hw3 hg13 hg23 hP hG3 hb3
                go_wp2_with fail
                go_meet
                exact ⟨sendE N L x.fr x.to x.d, 0, true, _, _, _, gz, none, none, 0, 0, rfl, rfl, rfl, rfl, rfl, rfl, HP.out, HE1.out, HE2.out, Bx.nil _ _, Bx.nil _ _⟩
            have u1 : (x.k == 1) = false := beq_eq_false_iff_ne.2 q1
            clear q1
            by_cases q2 : x.k = 2
            · have u2 : (x.k == 2) = true := by rw [q2]; rfl
              clear q2
              as_aux_lemma =>
                go_wp2_with fail
                refine (send_any H2.out.nt x.fr x.to _ x.d HX.out.bs).mono ?_
                rintro e w2 ⟨rfl, ha2⟩
                have hq2 := ha2.keep H2.out.nt HQ.out (by decide) (by decide)
                have hw2 := ha2.keep H2.out.nt H2.out.bw (by decide) (by decide)
                have hg12 := ha2.keep H2.out.nt HG1.out (by decide) (by decide)
                have hg22 := ha2.keep H2.out.nt HG2.out (by decide) (by decide)
                have hGr2 := H2.out.gr.aft H2.out.nt ha2
                have hX2 := ha2.bx H2.out.nt HX.out
                have hb2 := H2.out.bl.trans (ha2.low H2.out.nt)
                have hel := H2.out.el
                have hlen := H2.out.nt.len
                have hsz2 : X.heap.size ≤ w2.heap.size := by
                  obtain ⟨_, _, h, _⟩ := ha2
                  exact h.size
                obtain ⟨r2, hn2, -, -⟩ := ha2
                clear c0 c1 c2 c3 c4 H2 HX HQ HG1 HG2
                obtain ⟨c0, c1, c2, c3, c4⟩ := box5 hq2
                obtain ⟨⟨z0, z1⟩, -⟩ := box2 (show w2.heap[Bw]? = some (.cells #[.int .i64 (N : Int), v] 40 (0, 0)) from hw2)
                go_wp2_with fail
                refine (rsend_any N x.fr x.to _ x.d hGr2 (by have := hb2.size; omega) hX2).mono ?_
                rintro e w3 ⟨u3, rfl, ⟨v3, rfl, hG3, -⟩, hb3⟩
                have hn3 := hn2.below hb3
                have hw3 := heap_below hw2 hb3
                have hg13 := heap_below hg12 hb3
                have hg23 := heap_below hg22 hb3
                have hP := Two6.put hn3 hw3 hBw hG3 (hel.send x.fr x.to x.d h200) (nxt hb2 hb3)
                have HP := Lib.hid hP
                obtain ⟨A3, k3, rfl, -, -⟩ := hG3.slice
                obtain ⟨m3, hm3⟩ : ∃ m3, Hid ((sendL N L x.fr x.to x.d).length = m3) := ⟨_, Lib.hid rfl⟩
                rw [show (Value.slice A3 (sendL N L x.fr x.to x.d).length k3) = .slice A3 m3 k3 by rw [hm3.out]] at HP ⊢
                obtain ⟨⟨z0, z1⟩, p0, p1⟩ := box2 (show w3.heap[Bw]? = some (.cells #[.int .i64 (N : Int), v] 40 (0, 0)) from hw3)
                have HE1 := Lib.hid (set_far (u0 := .int .i64 (N : Int)) (u1 := .slice A3 m3 k3) hg13 (show G1 ≠ Bw by omega))
                have HE2 := Lib.hid (set_far (u0 := .int .i64 (N : Int)) (u1 := .slice A3 m3 k3) hg23 (show G2 ≠ Bw by omega))
                clear c0 c1 c2 c3 c4 hq2 hw2 hg12 hg22 hGr2 hX2 hb2 hn2 hn3 hw3 hg13 hg23 hP hG3 hb3
                go_wp2_with fail
                go_meet
                exact ⟨sendE N L x.fr x.to x.d, 0, true, _, _, _, gz, none, none, 0, 0, rfl, rfl, rfl, rfl, rfl, rfl, HP.out, HE1.out, HE2.out, Bx.nil _ _, Bx.nil _ _⟩
            have u2 : (x.k == 2) = false := beq_eq_false_iff_ne.2 q2
            clear q2
            by_cases q3 : x.k = 3
            · have u3 : (x.k == 3) = true := by rw [q3]; rfl
              clear q3
              as_aux_lemma =>
                go_wp2_with fail
                refine (send_any H2.out.nt x.fr x.to _ x.d HX.out.bs).mono ?_
                rintro e w2 ⟨rfl, ha2⟩
                have hq2 := ha2.keep H2.out.nt HQ.out (by decide) (by decide)
                have hw2 := ha2.keep H2.out.nt H2.out.bw (by decide) (by decide)
                have hg12 := ha2.keep H2.out.nt HG1.out (by decide) (by decide)
                have hg22 := ha2.keep H2.out.nt HG2.out (by decide) (by decide)
                have hGr2 := H2.out.gr.aft H2.out.nt ha2
                have hX2 := ha2.bx H2.out.nt HX.out
                have hb2 := H2.out.bl.trans (ha2.low H2.out.nt)
                have hel := H2.out.el
                have hlen := H2.out.nt.len
                have hsz2 : X.heap.size ≤ w2.heap.size := by
                  obtain ⟨_, _, h, _⟩ := ha2
                  exact h.size
                obtain ⟨r2, hn2, -, -⟩ := ha2
                clear c0 c1 c2 c3 c4 H2 HX HQ HG1 HG2
                obtain ⟨c0, c1, c2, c3, c4⟩ := box5 hq2
                obtain ⟨⟨z0, z1⟩, -⟩ := box2 (show w2.heap[Bw]? = some (.cells #[.int .i64 (N : Int), v] 40 (0, 0)) from hw2)
                go_wp2_with fail
                refine (rsend_any N x.fr x.to _ x.d hGr2 (by have := hb2.size; omega) hX2).mono ?_
                rintro e w3 ⟨u3, rfl, ⟨v3, rfl, hG3, -⟩, hb3⟩
                have hn3 := hn2.below hb3
                have hw3 := heap_below hw2 hb3
                have hg13 := heap_below hg12 hb3
                have hg23 := heap_below hg22 hb3
                have hP := Two6.put hn3 hw3 hBw hG3 (hel.send x.fr x.to x.d h200) (nxt hb2 hb3)
                have HP := Lib.hid hP
                obtain ⟨A3, k3, rfl, -, -⟩ := hG3.slice
                obtain ⟨m3, hm3⟩ : ∃ m3, Hid ((sendL N L x.fr x.to x.d).length = m3) := ⟨_, Lib.hid rfl⟩
                rw [show (Value.slice A3 (sendL N L x.fr x.to x.d).length k3) = .slice A3 m3 k3 by rw [hm3.out]] at HP ⊢
                obtain ⟨⟨z0, z1⟩, p0, p1⟩ := box2 (show w3.heap[Bw]? = some (.cells #[.int .i64 (N : Int), v] 40 (0, 0)) from hw3)
                have HE1 := Lib.hid (set_far (u0 := .int .i64 (N : Int)) (u1 := .slice A3 m3 k3) hg13 (show G1 ≠ Bw by omega))
                have HE2 := Lib.hid (set_far (u0 := .int .i64 (N : Int)) (u1 := .slice A3 m3 k3) hg23 (show G2 ≠ Bw by omega))
                clear c0 c1 c2 c3 c4 hq2 hw2 hg12 hg22 hGr2 hX2 hb2 hn2 hn3 hw3 hg13 hg23 hP hG3 hb3
                go_wp2_with fail
                go_meet
                exact ⟨sendE N L x.fr x.to x.d, 0, true, _, _, _, gz, none, none, 0, 0, rfl, rfl, rfl, rfl, rfl, rfl, HP.out, HE1.out, HE2.out, Bx.nil _ _, Bx.nil _ _⟩
            have u3 : (x.k == 3) = false := beq_eq_false_iff_ne.2 q3
            clear q3
            by_cases q4 : x.k = 4
            · have u4 : (x.k == 4) = true := by rw [q4]; rfl
              clear q4
              as_aux_lemma =>
                go_wp2_with fail
                refine (take_any H2.out.nt x.i).mono ?_
                rintro e w2 hT
                obtain ⟨ha2, A1, k1, rfl, hX1⟩ := take_flat hT
                clear hT
                have hq2 := ha2.keep H2.out.nt HQ.out (by decide) (by decide)
                have hw2 := ha2.keep H2.out.nt H2.out.bw (by decide) (by decide)
                have hg12 := ha2.keep H2.out.nt HG1.out (by decide) (by decide)
                have hg22 := ha2.keep H2.out.nt HG2.out (by decide) (by decide)
                have hGr2 := H2.out.gr.aft H2.out.nt ha2
                have hX2 := ha2.bx H2.out.nt HX.out
                have hb2 := H2.out.bl.trans (ha2.low H2.out.nt)
                have hel := H2.out.el
                have hlen := H2.out.nt.len
                have hsz2 : X.heap.size ≤ w2.heap.size := by
                  obtain ⟨_, _, h, _⟩ := ha2
                  exact h.size
                obtain ⟨r2, hn2, -, -⟩ := ha2
                clear c0 c1 c2 c3 c4 H2 HX HQ HG1 HG2
                obtain ⟨c0, c1, c2, c3, c4⟩ := box5 hq2
                obtain ⟨⟨z0, z1⟩, -⟩ := box2 (show w2.heap[Bw]? = some (.cells #[.int .i64 (N : Int), v] 40 (0, 0)) from hw2)
                have hg12' : w2.heap[G1]? = some (.cells #[.int .i64 gz.fr, .int .i64 gz.to, .slice none 0 0] 29 (0, 0)) := hg12
                obtain ⟨⟨g0, g1, g2⟩, f0, f1, f2⟩ := box3 hg12'
                have hs1 := heap_set hg12' 0 (.int .i64 (takeG L x.i).fr)
                have hs2 := heap_set hs1 1 (.int .i64 (takeG L x.i).to)
                have hs3 := heap_set hs2 2 (.slice A1 (takeG L x.i).d.length k1)
                have hvG : v.ownBlock ≠ some G1 := fun h => by have := HRW.out G1 h; omega
                have hGr3 := ((hGr2.other2 (i := 0) hg12' (by decide) hvG hwG (.int .i64 (takeG L x.i).fr)).other2 (i := 1) hs1 (by decide) hvG hwG (.int .i64 (takeG L x.i).to)).other2 (i := 2) hs2 (by decide) hvG hwG (.slice A1 (takeG L x.i).d.length k1)
                have hX3 := ((hX1.other (i := 0) hg12' (by decide) hwG (.int .i64 (takeG L x.i).fr)).other (i := 1) hs1 (by decide) hwG (.int .i64 (takeG L x.i).to)).other (i := 2) hs2 (by decide) hwG (.slice A1 (takeG L x.i).d.length k1)
                have hf : ∀ {k : Nat} {o : Obj}, w2.heap[k]? = some o → k ≠ G1 → (((w2.setCell ⟨G1, 0, none⟩ (.int .i64 (takeG L x.i).fr)).setCell ⟨G1, 1, none⟩ (.int .i64 (takeG L x.i).to)).setCell ⟨G1, 2, none⟩ (.slice A1 (takeG L x.i).d.length k1)).heap[k]? = some o := fun h hne => heap_set_ne (heap_set_ne (heap_set_ne h hne 0 _) hne 1 _) hne 2 _
                have hq3 := hf hq2 (show B ≠ G1 by omega)
                have hw3 := hf hw2 (show Bw ≠ G1 by omega)
                have hg23 := hf hg22 (show G2 ≠ G1 by omega)
                have hqq : w.heap.size ≠ G1 := fun e => hn2.q_ne hg12' (by decide) e.symm
                have hn3 : NtAt (((w2.setCell ⟨G1, 0, none⟩ (.int .i64 (takeG L x.i).fr)).setCell ⟨G1, 1, none⟩ (.int .i64 (takeG L x.i).to)).setCell ⟨G1, 2, none⟩ (.slice A1 (takeG L x.i).d.length k1)) w.heap.size w.heap.size r2 N (dropL L x.i) :=
                  hn2.other (other3 hqq _ _ _) (fun g e => other3 (fun h => hn2.row_ne hg12' (by decide) (by rw [e, h])) _ _ _)
                have hb3 := ((hb2.setCell (p := ⟨G1, 0, none⟩) hwG (.int .i64 (takeG L x.i).fr)).setCell (p := ⟨G1, 1, none⟩) hwG (.int .i64 (takeG L x.i).to)).setCell (p := ⟨G1, 2, none⟩) hwG (.slice A1 (takeG L x.i).d.length k1)
                have hg13 : (((w2.setCell ⟨G1, 0, none⟩ (.int .i64 (takeG L x.i).fr)).setCell ⟨G1, 1, none⟩ (.int .i64 (takeG L x.i).to)).setCell ⟨G1, 2, none⟩ (.slice A1 (takeG L x.i).d.length k1)).heap[G1]? = some (cG (takeG L x.i) (.slice A1 (takeG L x.i).d.length k1)) := hs3
                have hsz3 : X.heap.size ≤ (((w2.setCell ⟨G1, 0, none⟩ (.int .i64 (takeG L x.i).fr)).setCell ⟨G1, 1, none⟩ (.int .i64 (takeG L x.i).to)).setCell ⟨G1, 2, none⟩ (.slice A1 (takeG L x.i).d.length k1)).heap.size := by simpa [World.setCell] using hsz2
                obtain ⟨Y, hY⟩ : ∃ Y, Y = ((w2.setCell ⟨G1, 0, none⟩ (.int .i64 (takeG L x.i).fr)).setCell ⟨G1, 1, none⟩ (.int .i64 (takeG L x.i).to)).setCell ⟨G1, 2, none⟩ (.slice A1 (takeG L x.i).d.length k1) := ⟨_, rfl⟩
                go_upto_region 22 with fail
                rw [← hY] at hGr3 hX3 hq3 hw3 hg23 hn3 hb3 hg13 hsz3 ⊢
                clear hY hf hs1 hs2 hs3 hqq hvG hg12' hg12 hg22 hq2 hw2 hGr2 hX2 hb2 hn2 hX1 hsz2 c0 c1 c2 c3 c4 z0 z1 g0 g1 g2 f0 f1 f2
                obtain ⟨c0, c1, c2, c3, c4⟩ := box5 hq3
                obtain ⟨⟨z0, z1⟩, -⟩ := box2 (show Y.heap[Bw]? = some (.cells #[.int .i64 (N : Int), v] 40 (0, 0)) from hw3)
                go_wp2_with fail
                refine (rtake_any (N : Int) x.i hGr3 (by have := hb3.size; omega) hlen).mono ?_
                rintro e w4 ⟨u4, uu, rfl, ⟨v4, rfl, hG4, hO4⟩, hXu, hb4⟩
                obtain ⟨A2, k2, rfl⟩ : ∃ A' c', uu = .slice A' (takeG L x.i).d.length c' := by obtain ⟨⟨A', c', h, -⟩, -⟩ := hXu; exact ⟨A', c', h⟩
                have hn4 := hn3.below hb4
                have hw4 := heap_below hw3 hb4
                have hg24 := heap_below hg23 hb4
                have hvG2 : v4.ownBlock ≠ some G2 := fun h => by
                  rcases hO4 with h4 | h4
                  · rw [h4] at h
                    have := HRW.out G2 h
                    omega
                  · have := h4 G2 h
                    omega
                have hel4 := hel.drop x.i
                have hP := Two6.put hn4 hw4 hBw hG4 hel4 (nxt hb3 hb4)
                have HP := Lib.hid hP
                have hg14 := heap_below hg13 hb4
                have hX4 := hX3.below hb4
                obtain ⟨A3, k3, rfl, -, -⟩ := hG4.slice
                obtain ⟨m3, hm3⟩ : ∃ m3, Hid ((dropL L x.i).length = m3) := ⟨_, Lib.hid rfl⟩
                rw [show (Value.slice A3 (dropL L x.i).length k3) = .slice A3 m3 k3 by rw [hm3.out]] at HP hvG2 ⊢
                obtain ⟨⟨z0, z1⟩, p0, p1⟩ := box2 (show w4.heap[Bw]? = some (.cells #[.int .i64 (N : Int), v] 40 (0, 0)) from hw4)
                have he1 := set_far (u0 := .int .i64 (N : Int)) (u1 := .slice A3 m3 k3) hg14 (show G1 ≠ Bw by omega)
                have he2 := set_far (u0 := .int .i64 (N : Int)) (u1 := .slice A3 m3 k3) hg24 (show G2 ≠ Bw by omega)
                have hx1 := Bx.far hX4 (u0 := .int .i64 (N : Int)) (u1 := .slice A3 m3 k3) hw4 (by decide) hBw
                have hx2 := Bx.far hXu (u0 := .int .i64 (N : Int)) (u1 := .slice A3 m3 k3) hw4 (by decide) hBw
                obtain ⟨Z, hZ⟩ : ∃ Z, Z = (w4.setCell ⟨Bw, 0, none⟩ (.int .i64 (N : Int))).setCell ⟨Bw, 1, none⟩ (.slice A3 m3 k3) := ⟨_, rfl⟩
                have hwB : w.heap.size ≤ G2 := by omega
                have hg24b : w4.heap[G2]? = some (.cells #[.int .i64 gz.fr, .int .i64 gz.to, .slice none 0 0] 29 (0, 0)) := hg24
                have hBG2 : Bw ≠ G2 := by omega
                have hBG2' : G2 ≠ Bw := by omega
                obtain ⟨⟨g0, g1, g2⟩, f0, f1, f2⟩ := box3 hg24b
                have fin : ∀ Z : World, Two6 w N Bw r2 (.slice A3 m3 k3) (dropL L x.i) Z → Z.heap[G1]? = some (cG (takeG L x.i) (.slice A1 (takeG L x.i).d.length k1)) → Z.heap[G2]? = some (cG gz (.slice none 0 0)) → Bx Z w.heap.size (.slice A1 (takeG L x.i).d.length k1) (takeG L x.i).d → Bx Z w.heap.size (.slice A2 (takeG L x.i).d.length k2) (takeG L x.i).d →
                    Pl6 w N Bw G1 G2 (.int .i64 0) (.int .i64 0) (.bool (hasB L.length x.i)) (.bool (hasB L.length x.i)) (.int .i64 0) (.int .i64 0) (((Z.setCell ⟨G2, 0, none⟩ (.int .i64 (takeG L x.i).fr)).setCell ⟨G2, 1, none⟩ (.int .i64 (takeG L x.i).to)).setCell ⟨G2, 2, none⟩ (.slice A2 (takeG L x.i).d.length k2)) := by
                  intro Z t6 e1 e2 x1 x2
                  have e2' : Z.heap[G2]? = some (.cells #[.int .i64 gz.fr, .int .i64 gz.to, .slice none 0 0] 29 (0, 0)) := e2
                  have s1 := heap_set e2' 0 (.int .i64 (takeG L x.i).fr)
                  have s2 := heap_set s1 1 (.int .i64 (takeG L x.i).to)
                  have s3 := heap_set s2 2 (.slice A2 (takeG L x.i).d.length k2)
                  have hqq : w.heap.size ≠ G2 := fun e => t6.nt.q_ne e2' (by decide) e.symm
                  have hn' := t6.nt.other (other3 hqq (.int .i64 (takeG L x.i).fr) (.int .i64 (takeG L x.i).to) (.slice A2 (takeG L x.i).d.length k2)) (fun g e => other3 (fun h => t6.nt.row_ne e2' (by decide) (by rw [e, h])) _ _ _)
                  have hg' := ((t6.gr.other2 (i := 0) e2' (by decide) hvG2 hwB (.int .i64 (takeG L x.i).fr)).other2 (i := 1) s1 (by decide) hvG2 hwB (.int .i64 (takeG L x.i).to)).other2 (i := 2) s2 (by decide) hvG2 hwB (.slice A2 (takeG L x.i).d.length k2)
                  have hw' := heap_set_ne (heap_set_ne (heap_set_ne t6.bw hBG2 0 (.int .i64 (takeG L x.i).fr)) hBG2 1 (.int .i64 (takeG L x.i).to)) hBG2 2 (.slice A2 (takeG L x.i).d.length k2)
                  have hne : G1 ≠ G2 := by omega
                  have h1' := heap_set_ne (heap_set_ne (heap_set_ne e1 hne 0 (.int .i64 (takeG L x.i).fr)) hne 1 (.int .i64 (takeG L x.i).to)) hne 2 (.slice A2 (takeG L x.i).d.length k2)
                  have hbl' := ((t6.bl.setCell (p := ⟨G2, 0, none⟩) hwB (.int .i64 (takeG L x.i).fr)).setCell (p := ⟨G2, 1, none⟩) hwB (.int .i64 (takeG L x.i).to)).setCell (p := ⟨G2, 2, none⟩) hwB (.slice A2 (takeG L x.i).d.length k2)
                  have x1' := ((x1.other (i := 0) e2' (by decide) hwB (.int .i64 (takeG L x.i).fr)).other (i := 1) s1 (by decide) hwB (.int .i64 (takeG L x.i).to)).other (i := 2) s2 (by decide) hwB (.slice A2 (takeG L x.i).d.length k2)
                  have x2' := ((x2.other (i := 0) e2' (by decide) hwB (.int .i64 (takeG L x.i).fr)).other (i := 1) s1 (by decide) hwB (.int .i64 (takeG L x.i).to)).other (i := 2) s2 (by decide) hwB (.slice A2 (takeG L x.i).d.length k2)
                  exact ⟨0, 0, hasB L.length x.i, _, _, _, takeG L x.i, A1, A2, k1, k2, rfl, rfl, rfl, rfl, rfl, rfl, ⟨hn', hg', hw', t6.el, hbl'⟩, h1', s3, x1', x2'⟩
                have FIN := Lib.hid (fin _ HP.out he1 he2 hx1 hx2)
                clear fin hZ Z hx1 hx2 he1 he2 hX4 hXu hP hG4 hb4 hw4 hg14 hg24 hg24b hn4 hvG2 hel4 c0 c1 c2 c3 c4 hq3 hw3 hg23 hg13 hGr3 hX3 hn3 hb3 hsz3 HP
                go_wp2_with fail
                go_meet
                exact FIN.out
            have u4 : (x.k == 4) = false := beq_eq_false_iff_ne.2 q4
            clear q4
            by_cases q5 : x.k = 5
            · have u5 : (x.k == 5) = true := by rw [q5]; rfl
              clear q5
              as_aux_lemma =>
                go_wp2_with fail
                refine (copy_any6 H2.out.nt x.i).mono ?_
                rintro e w2 ⟨rfl, ha2⟩
                have hq2 := ha2.keep H2.out.nt HQ.out (by decide) (by decide)
                have hw2 := ha2.keep H2.out.nt H2.out.bw (by decide) (by decide)
                have hg12 := ha2.keep H2.out.nt HG1.out (by decide) (by decide)
                have hg22 := ha2.keep H2.out.nt HG2.out (by decide) (by decide)
                have hGr2 := H2.out.gr.aft H2.out.nt ha2
                have hX2 := ha2.bx H2.out.nt HX.out
                have hb2 := H2.out.bl.trans (ha2.low H2.out.nt)
                have hel := H2.out.el
                have hlen := H2.out.nt.len
                have hsz2 : X.heap.size ≤ w2.heap.size := by
                  obtain ⟨_, _, h, _⟩ := ha2
                  exact h.size
                obtain ⟨r2, hn2, -, -⟩ := ha2
                clear c0 c1 c2 c3 c4 H2 HX HQ HG1 HG2
                obtain ⟨c0, c1, c2, c3, c4⟩ := box5 hq2
                obtain ⟨⟨z0, z1⟩, -⟩ := box2 (show w2.heap[Bw]? = some (.cells #[.int .i64 (N : Int), v] 40 (0, 0)) from hw2)
                go_wp2_with fail
                refine (rcopy_any N x.i hGr2 (by have := hb2.size; omega) hlen hel.mid).mono ?_
                rintro e w3 ⟨u3, rfl, ⟨v3, rfl, hG3, -⟩, hb3⟩
                have hn3 := hn2.below hb3
                have hw3 := heap_below hw2 hb3
                have hg13 := heap_below hg12 hb3
                have hg23 := heap_below hg22 hb3
                have hP := Two6.put hn3 hw3 hBw hG3 (hel.copy x.i) (nxt hb2 hb3)
                have HP := Lib.hid hP
                obtain ⟨A3, k3, rfl, -, -⟩ := hG3.slice
                obtain ⟨m3, hm3⟩ : ∃ m3, Hid ((copyL L x.i).length = m3) := ⟨_, Lib.hid rfl⟩
                rw [show (Value.slice A3 (copyL L x.i).length k3) = .slice A3 m3 k3 by rw [hm3.out]] at HP ⊢
                obtain ⟨⟨z0, z1⟩, p0, p1⟩ := box2 (show w3.heap[Bw]? = some (.cells #[.int .i64 (N : Int), v] 40 (0, 0)) from hw3)
                have HE1 := Lib.hid (set_far (u0 := .int .i64 (N : Int)) (u1 := .slice A3 m3 k3) hg13 (show G1 ≠ Bw by omega))
                have HE2 := Lib.hid (set_far (u0 := .int .i64 (N : Int)) (u1 := .slice A3 m3 k3) hg23 (show G2 ≠ Bw by omega))
                clear c0 c1 c2 c3 c4 hq2 hw2 hg12 hg22 hGr2 hX2 hb2 hn2 hn3 hw3 hg13 hg23 hP hG3 hb3
                go_wp2_with fail
                go_meet
                exact ⟨copyE L x.i, 0, true, _, _, _, gz, none, none, 0, 0, rfl, rfl, rfl, rfl, rfl, rfl, HP.out, HE1.out, HE2.out, Bx.nil _ _, Bx.nil _ _⟩
            have u5 : (x.k == 5) = false := beq_eq_false_iff_ne.2 q5
            clear q5
            by_cases q6 : x.k = 6
            · have u6 : (x.k == 6) = true := by rw [q6]; rfl
              clear q6
              as_aux_lemma =>
                go_wp2_with fail
                refine (drop_any H2.out.nt x.i).mono ?_
                rintro e w2 ⟨rfl, ha2⟩
                have hq2 := ha2.keep H2.out.nt HQ.out (by decide) (by decide)
                have hw2 := ha2.keep H2.out.nt H2.out.bw (by decide) (by decide)
                have hg12 := ha2.keep H2.out.nt HG1.out (by decide) (by decide)
                have hg22 := ha2.keep H2.out.nt HG2.out (by decide) (by decide)
                have hGr2 := H2.out.gr.aft H2.out.nt ha2
                have hX2 := ha2.bx H2.out.nt HX.out
                have hb2 := H2.out.bl.trans (ha2.low H2.out.nt)
                have hel := H2.out.el
                have hlen := H2.out.nt.len
                have hsz2 : X.heap.size ≤ w2.heap.size := by
                  obtain ⟨_, _, h, _⟩ := ha2
                  exact h.size
                obtain ⟨r2, hn2, -, -⟩ := ha2
                clear c0 c1 c2 c3 c4 H2 HX HQ HG1 HG2
                obtain ⟨c0, c1, c2, c3, c4⟩ := box5 hq2
                obtain ⟨⟨z0, z1⟩, -⟩ := box2 (show w2.heap[Bw]? = some (.cells #[.int .i64 (N : Int), v] 40 (0, 0)) from hw2)
                go_wp2_with fail
                refine (rtake_any (N : Int) x.i hGr2 (by have := hb2.size; omega) hlen).mono ?_
                rintro e w4 ⟨u4, uu, rfl, ⟨v4, rfl, hG4, hO4⟩, hXu, hb4⟩
                obtain ⟨A2, k2, rfl⟩ : ∃ A' c', uu = .slice A' (takeG L x.i).d.length c' := by obtain ⟨⟨A', c', h, -⟩, -⟩ := hXu; exact ⟨A', c', h⟩
                have hn4 := hn2.below hb4
                have hw4 := heap_below hw2 hb4
                have hg24 := heap_below hg22 hb4
                have hvG2 : v4.ownBlock ≠ some G2 := fun h => by
                  rcases hO4 with h4 | h4
                  · rw [h4] at h
                    have := HRW.out G2 h
                    omega
                  · have := h4 G2 h
                    omega
                have hel4 := hel.drop x.i
                have hP := Two6.put hn4 hw4 hBw hG4 hel4 (nxt hb2 hb4)
                have HP := Lib.hid hP
                have hg14 := heap_below hg12 hb4
                obtain ⟨A3, k3, rfl, -, -⟩ := hG4.slice
                obtain ⟨m3, hm3⟩ : ∃ m3, Hid ((dropL L x.i).length = m3) := ⟨_, Lib.hid rfl⟩
                rw [show (Value.slice A3 (dropL L x.i).length k3) = .slice A3 m3 k3 by rw [hm3.out]] at HP hvG2 ⊢
                obtain ⟨⟨z0, z1⟩, p0, p1⟩ := box2 (show w4.heap[Bw]? = some (.cells #[.int .i64 (N : Int), v] 40 (0, 0)) from hw4)
                have he1 := set_far (u0 := .int .i64 (N : Int)) (u1 := .slice A3 m3 k3) hg14 (show G1 ≠ Bw by omega)
                have he2 := set_far (u0 := .int .i64 (N : Int)) (u1 := .slice A3 m3 k3) hg24 (show G2 ≠ Bw by omega)
                have HE1 := Lib.hid he1
                have HE2 := Lib.hid he2
                clear c0 c1 c2 c3 c4 hq2 hw2 hg12 hg22 hGr2 hX2 hb2 hn2 hn4 hw4 hg14 hg24 hP hG4 hb4 he1 he2 hXu
                go_wp2_with fail
                go_meet
                exact ⟨0, 0, hasB L.length x.i, _, _, _, gz, none, none, 0, 0, rfl, rfl, rfl, rfl, rfl, rfl, HP.out, HE1.out, HE2.out, Bx.nil _ _, Bx.nil _ _⟩
            have u6 : (x.k == 6) = false := beq_eq_false_iff_ne.2 q6
            clear q6
            by_cases q7 : x.k = 7
            · have u7 : (x.k == 7) = true := by rw [q7]; rfl
              clear q7
              as_aux_lemma =>
                go_wp2_with fail
                refine (forget_any H2.out.nt x.i).mono ?_
                rintro e w2 ⟨rfl, ha2⟩
                have hq2 := ha2.keep H2.out.nt HQ.out (by decide) (by decide)
                have hw2 := ha2.keep H2.out.nt H2.out.bw (by decide) (by decide)
                have hg12 := ha2.keep H2.out.nt HG1.out (by decide) (by decide)
                have hg22 := ha2.keep H2.out.nt HG2.out (by decide) (by decide)
                have hGr2 := H2.out.gr.aft H2.out.nt ha2
                have hX2 := ha2.bx H2.out.nt HX.out
                have hb2 := H2.out.bl.trans (ha2.low H2.out.nt)
                have hel := H2.out.el
                have hlen := H2.out.nt.len
                have hsz2 : X.heap.size ≤ w2.heap.size := by
                  obtain ⟨_, _, h, _⟩ := ha2
                  exact h.size
                obtain ⟨r2, hn2, -, -⟩ := ha2
                clear c0 c1 c2 c3 c4 H2 HX HQ HG1 HG2
                obtain ⟨c0, c1, c2, c3, c4⟩ := box5 hq2
                obtain ⟨⟨z0, z1⟩, -⟩ := box2 (show w2.heap[Bw]? = some (.cells #[.int .i64 (N : Int), v] 40 (0, 0)) from hw2)
                go_wp2_with fail
                refine (rforget_any N x.i L.length hGr2 (by have := hb2.size; omega) rfl hlen).mono ?_
                rintro e w3 ⟨u3, rfl, ⟨v3, rfl, hG3, -⟩, hb3⟩
                have hn3 := hn2.below hb3
                have hw3 := heap_below hw2 hb3
                have hg13 := heap_below hg12 hb3
                have hg23 := heap_below hg22 hb3
                have hP := Two6.put hn3 hw3 hBw hG3 (hel.rest x.i) (nxt hb2 hb3)
                have HP := Lib.hid hP
                obtain ⟨A3, k3, rfl, -, -⟩ := hG3.slice
                obtain ⟨m3, hm3⟩ : ∃ m3, Hid ((rest L x.i).length = m3) := ⟨_, Lib.hid rfl⟩
                rw [show (Value.slice A3 (rest L x.i).length k3) = .slice A3 m3 k3 by rw [hm3.out]] at HP ⊢
                obtain ⟨⟨z0, z1⟩, p0, p1⟩ := box2 (show w3.heap[Bw]? = some (.cells #[.int .i64 (N : Int), v] 40 (0, 0)) from hw3)
                have HE1 := Lib.hid (set_far (u0 := .int .i64 (N : Int)) (u1 := .slice A3 m3 k3) hg13 (show G1 ≠ Bw by omega))
                have HE2 := Lib.hid (set_far (u0 := .int .i64 (N : Int)) (u1 := .slice A3 m3 k3) hg23 (show G2 ≠ Bw by omega))
                clear c0 c1 c2 c3 c4 hq2 hw2 hg12 hg22 hGr2 hX2 hb2 hn2 hn3 hw3 hg13 hg23 hP hG3 hb3
                go_wp2_with fail
                go_meet
                exact ⟨0, (L.length - (rest L x.i).length), true, _, _, _, gz, none, none, 0, 0, rfl, rfl, rfl, rfl, rfl, rfl, HP.out, HE1.out, HE2.out, Bx.nil _ _, Bx.nil _ _⟩
            have u7 : (x.k == 7) = false := beq_eq_false_iff_ne.2 q7
            clear q7
            go_wp2_with fail
            go_meet
            exact ⟨0, 0, true, r, v, L, gz, none, none, 0, 0, rfl, rfl, rfl, rfl, rfl, rfl, H2.out, HG1.out, HG2.out, Bx.nil _ _, Bx.nil _ _⟩
          case rest =>
            clear c0 c1 c2 c3 c4 HQ HG1 HG2 HRW H2 HX hsX
            obtain ⟨er, kk, ok, r, v, L, z, A1, A2, k1, k2, rfl, rfl, rfl, rfl, rfl, rfl, h2, hg1, hg2, hx1, hx2⟩ := hcut
            obtain ⟨A, c, rfl, hAc, hcm2⟩ := h2.gr.slice
            obtain ⟨m, hm⟩ : ∃ m, Hid (L.length = m) := ⟨_, Lib.hid rfl⟩
            have hm4 := h2.nt.len
            rw [hm.out] at hAc hm4
            have H2 := Lib.hid h2
            rw [show (Value.slice A L.length c) = .slice A m c by rw [hm.out]] at H2
            unfold maxLen at hcm2
            clear h2
            have HG1 := Lib.hid (show wc.heap[G1]? = some (.cells #[.int .i64 z.fr, .int .i64 z.to, .slice A1 z.d.length k1] 29 (0, 0)) from hg1)
            have HG2 := Lib.hid (show wc.heap[G2]? = some (.cells #[.int .i64 z.fr, .int .i64 z.to, .slice A2 z.d.length k2] 29 (0, 0)) from hg2)
            have HBW := Lib.hid (show wc.heap[Bw]? = some (.cells #[.int .i64 (N : Int), .slice A m c] 40 (0, 0)) from H2.out.bw)
            have HX1 := Lib.hid hx1.bs
            have HX2 := Lib.hid hx2.bs
            clear hg1 hg2 hx1 hx2
            obtain ⟨⟨c0, c1, c2⟩, -⟩ := box3 HG1.out
            obtain ⟨⟨f0, f1, f2⟩, -⟩ := box3 HG2.out
            obtain ⟨⟨z0, z1⟩, -⟩ := box2 HBW.out
            have d1 : ((er : Int) != (er : Int)) = false := by simp
            have d2 : (ok != ok) = false := by simp
            have d3 : ((kk : Int) != (kk : Int)) = false := by simp
            have d4 : ((m : Int) != (m : Int)) = false := by simp
            have HF : Hid (∀ w8, Below wc.heap.size wc w8 → Calls Try.prog 16 #[.pointer (some ⟨w.heap.size, 0, none⟩)] w8 fun e w' => e = .returned (.int .i64 (m : Int)) ∧ w8 = w') := Lib.hid (fun w8 hb => by
              have h := flying_any (H2.out.nt.below hb)
              rw [hm.out] at h
              exact h)
            go_upto_region 32 with fail
            go_cut [175] from 149 to 175 (fun s wx => s = .bool false ∧ Below wc.heap.size wc wx)
            case first =>
              as_aux_lemma =>
                go_region_held3 (fun w' => ((w'.cell? ⟨G1, 0, none⟩ = some (.int .i64 z.fr) ∧ w'.cell? ⟨G1, 1, none⟩ = some (.int .i64 z.to) ∧ w'.cell? ⟨G1, 2, none⟩ = some (.slice A1 z.d.length k1)) ∧
                    (w'.cell? ⟨G2, 0, none⟩ = some (.int .i64 z.fr) ∧ w'.cell? ⟨G2, 1, none⟩ = some (.int .i64 z.to) ∧ w'.cell? ⟨G2, 2, none⟩ = some (.slice A2 z.d.length k2))) ∧ w'.cell? ⟨Bw, 1, none⟩ = some (.slice A m c)) (go_keep)
                  (first
                    | (go_at_call 24
                       refine (samegr_any _ _ z ⟨_, rfl, HX1.out.drew⟩ ⟨_, rfl, HX2.out.drew⟩).mono ?_
                       rintro e w8 ⟨rfl, hb8'⟩
                       have hb8 := of_drew6 hb8'
                       obtain ⟨⟨g0, g1, g2⟩, -⟩ := box3 (heap_below HG1.out hb8)
                       obtain ⟨⟨l0, l1, l2⟩, -⟩ := box3 (heap_below HG2.out hb8)
                       obtain ⟨⟨s0, s1⟩, -⟩ := box2 (heap_below HBW.out hb8))
                    | (go_at_call 16
                       refine (HF.out w8 hb8).mono ?_
                       rintro e w9 ⟨rfl, rfl⟩)
                    | (fail))
                all_goals
                  go_wp2_with fail
                  go_meet
                  exact ⟨rfl, hb8⟩
            case rest =>
              obtain ⟨rfl, hbx⟩ := hcut
              clear c0 c1 c2 f0 f1 f2 z0 z1 d1 d2 d3 d4 HF HX1 HX2 HG1 HG2
              have HY := Lib.hid (H2.out.below hbx)
              have HBY := Lib.hid (show wc.heap[Bw]? = some (.cells #[.int .i64 (N : Int), .slice A m c] 40 (0, 0)) from HY.out.bw)
              clear hbx HBW H2
              go_wp2_with fail
              go_loopw [19] (fun i wq => ∃ q : Int, -1 ≤ q ∧ q ≤ (m : Int) + 1 ∧ i = .int .i64 q ∧ Below wc.heap.size wc wq) (fun i _ => ((m : Int) + 1 - intOf i).toNat)
              case atStart => exact ⟨-1, by omega, by omega, rfl, Below.refl _ _⟩
              case round =>
                obtain ⟨q, hq1, hq2, rfl, hbq⟩ := hrel
                have HBq := Lib.hid (heap_below HBY.out hbq)
                obtain ⟨⟨z0, z1⟩, -⟩ := box2 HBq.out
                by_cases hle : q ≤ (m : Int)
                · have d1 : decide (q ≤ (m : Int)) = true := decide_eq_true hle
                  have hL := look_any (HY.out.nt.below hbq) q
                  rcases nth_has L q with ⟨h1, h2⟩ | ⟨k, hk, rfl, h1, h2⟩
                  · rw [h2] at hL
                    rw [hm.out] at h1
                    have hc3 : ∃ b0 b1, decide (q ≥ 0) = b0 ∧ decide (q < (m : Int)) = b1 ∧ (b0 && b1) = false := by
                      refine ⟨_, _, rfl, rfl, ?_⟩
                      exact h1
                    obtain ⟨b0, b1, e0, e1, e2⟩ := hc3
                    have e0' : decide (0 ≤ q) = b0 := e0
                    clear h1 h2
                    go_wp2_with fail
                    refine hL.mono ?_
                    rintro e w6 ⟨hb6, rfl⟩
                    clear hL
                    have hb7 := (Below.refl w6.heap.size w6).alloc (Nat.le_refl _) (.cells #[.int .i64 0, .int .i64 0, .slice none 0 0] 29)
                    have hq7 := heap_new w6 (.cells #[.int .i64 0, .int .i64 0, .slice none 0 0] 29)
                    have hbw7 := nxt (nxt hbq hb6) hb7
                    obtain ⟨W7, hW7⟩ : ∃ W, W = w6.alloc (.cells #[.int .i64 0, .int .i64 0, .slice none 0 0] 29) := ⟨_, rfl⟩
                    obtain ⟨B7, hB7⟩ : ∃ B, B = w6.heap.size := ⟨_, rfl⟩
                    go_upto_region 38 with fail
                    rw [← hW7] at hq7 hbw7 ⊢
                    rw [← hB7] at hq7 ⊢
                    clear hW7 hB7 hb7 hb6 hbq z0 z1
                    have HB7 := Lib.hid (heap_below HBY.out hbw7)
                    obtain ⟨⟨z0, z1⟩, -⟩ := box2 HB7.out
                    obtain ⟨⟨c0, c1, c2⟩, -⟩ := box3 hq7
                    cases b0 with
                    | true =>
                      obtain rfl : b1 = false := by simpa using e2
                      clear e2
                      as_aux_lemma =>
                        refine wp_region_held_drew (S := fun w' => (w'.cell? ⟨B7, 0, none⟩ = some (.int .i64 0) ∧ w'.cell? ⟨B7, 1, none⟩ = some (.int .i64 0) ∧ w'.cell? ⟨B7, 2, none⟩ = some (.slice none 0 0)) ∧ w'.cell? ⟨Bw, 1, none⟩ = some (.slice A m c)) (by kernel_rfl) ⟨⟨c0, c1, c2⟩, z1⟩ (fun hHeld => ?_)
                        refine wpAnyH_take (i := 0) (oi := { dst := some 189, op := Go.Op.move (Go.Operand.tmp 21), type := 4, pos := "law.go:104", after := #[], guard := none }) (v := ?av0) rfl (by kernel_rfl) (by kernel_rfl) (by kernel_rfl) (fun _ _ _ h => h) (Or.inl ⟨by rfl, ?ahy0⟩) (by assumption) ?arest0
                        case ahy0 =>
                          intro w hSw
                          (try dsimp only at hSw)
                          go_simp
                          try with_reducible rfl
                        try simp only [Act.put, List.setIfInBounds_toArray, List.set_cons_zero, List.set_cons_succ]
                        refine wpAnyH_take (i := 1) (oi := { dst := some 190, op := Go.Op.move (Go.Operand.tmp 19), type := 3, pos := "law.go:104", after := #[], guard := none }) (v := ?av1) rfl (by kernel_rfl) (by kernel_rfl) (by kernel_rfl) (fun _ _ _ h => h) (Or.inl ⟨by rfl, ?ahy1⟩) (by assumption) ?arest1
                        case ahy1 =>
                          intro w hSw
                          (try dsimp only at hSw)
                          go_simp
                          try with_reducible rfl
                        try simp only [Act.put, List.setIfInBounds_toArray, List.set_cons_zero, List.set_cons_succ]
                        refine wpAnyH_take (i := 2) (oi := { dst := some 191, op := Go.Op.binOp Go.BinOp.geq 3 (Go.Operand.tmp 190) (Go.Operand.const (Go.Value.int Go.IntKind.i64 0)) 3, type := 4, pos := "law.go:104", after := #[{ on := 1, ground := Go.Ground.data }], guard := none }) (v := ?av2) rfl (by kernel_rfl) (by kernel_rfl) (by kernel_rfl) (fun _ _ _ h => h) (Or.inl ⟨by rfl, ?ahy2⟩) (by assumption) ?arest2
                        case ahy2 =>
                          intro w hSw
                          (try dsimp only at hSw)
                          go_simp
                          try with_reducible rfl
                        try simp only [Act.put, List.setIfInBounds_toArray, List.set_cons_zero, List.set_cons_succ]
                        refine wpAnyH_take (i := 3) (oi := { dst := some 192, op := Go.Op.move (Go.Operand.tmp 191), type := 4, pos := "law.go:104", after := #[{ on := 2, ground := Go.Ground.data }], guard := none }) (v := ?av3) rfl (by kernel_rfl) (by kernel_rfl) (by kernel_rfl) (fun _ _ _ h => h) (Or.inl ⟨by rfl, ?ahy3⟩) (by assumption) ?arest3
                        case ahy3 =>
                          intro w hSw
                          (try dsimp only at hSw)
                          go_simp
                          try with_reducible rfl
                        try simp only [Act.put, List.setIfInBounds_toArray, List.set_cons_zero, List.set_cons_succ]
                        refine wpAnyH_take (i := 4) (oi := { dst := some 193, op := Go.Op.move (Go.Operand.tmp 19), type := 3, pos := "law.go:104", after := #[{ on := 3, ground := Go.Ground.guard }], guard := some (3, true) }) (v := ?av4) rfl (by kernel_rfl) (by kernel_rfl) (by kernel_rfl) (fun _ _ _ h => h) (Or.inl ⟨by rfl, ?ahy4⟩) (by assumption) ?arest4
                        case ahy4 =>
                          intro w hSw
                          (try dsimp only at hSw)
                          go_simp
                          try with_reducible rfl
                        try simp only [Act.put, List.setIfInBounds_toArray, List.set_cons_zero, List.set_cons_succ]
                        refine wpAnyH_take (i := 5) (oi := { dst := some 194, op := Go.Op.fieldAddr 40 (Go.Operand.tmp 7) 1, type := 0, pos := "law.go:104", after := #[{ on := 3, ground := Go.Ground.guard }], guard := some (3, true) }) (v := ?av5) rfl (by kernel_rfl) (by kernel_rfl) (by kernel_rfl) (fun _ _ _ h => h) (Or.inl ⟨by rfl, ?ahy5⟩) (by assumption) ?arest5
                        case ahy5 =>
                          intro w hSw
                          (try dsimp only at hSw)
                          go_simp
                          try with_reducible rfl
                        try simp only [Act.put, List.setIfInBounds_toArray, List.set_cons_zero, List.set_cons_succ]
                        refine wpAnyH_take (i := 6) (oi := { dst := some 195, op := Go.Op.load 38 (Go.Operand.tmp 194), type := 38, pos := "law.go:104", after := #[{ on := 5, ground := Go.Ground.data }, { on := 3, ground := Go.Ground.guard }], guard := some (3, true) }) (v := ?av6) rfl (by kernel_rfl) (by kernel_rfl) (by kernel_rfl) (fun _ _ _ h => h) (Or.inl ⟨by rfl, ?ahy6⟩) (by assumption) ?arest6
                        case ahy6 =>
                          intro w hSw
                          (try dsimp only at hSw)
                          go_simp
                          try with_reducible rfl
                        try simp only [Act.put, List.setIfInBounds_toArray, List.set_cons_zero, List.set_cons_succ]
                        refine wpAnyH_take (i := 7) (oi := { dst := some 196, op := Go.Op.call { callee := Go.Callee.builtin Go.Builtin.len, args := #[Go.Operand.tmp 195], argTypes := #[38] }, type := 3, pos := "law.go:104", after := #[{ on := 6, ground := Go.Ground.data }, { on := 3, ground := Go.Ground.guard }], guard := some (3, true) }) (v := ?av7) rfl (by kernel_rfl) (by kernel_rfl) (by kernel_rfl) (fun _ _ _ h => h) (Or.inl ⟨by rfl, ?ahy7⟩) (by assumption) ?arest7
                        case ahy7 =>
                          intro w hSw
                          (try dsimp only at hSw)
                          go_simp
                          try with_reducible rfl
                        try simp only [Act.put, List.setIfInBounds_toArray, List.set_cons_zero, List.set_cons_succ]
                        refine wpAnyH_take (i := 8) (oi := { dst := some 197, op := Go.Op.binOp Go.BinOp.lss 3 (Go.Operand.tmp 193) (Go.Operand.tmp 196) 3, type := 4, pos := "law.go:104", after := #[{ on := 4, ground := Go.Ground.data }, { on := 7, ground := Go.Ground.data }, { on := 3, ground := Go.Ground.guard }], guard := some (3, true) }) (v := ?av8) rfl (by kernel_rfl) (by kernel_rfl) (by kernel_rfl) (fun _ _ _ h => h) (Or.inl ⟨by rfl, ?ahy8⟩) (by assumption) ?arest8
                        case ahy8 =>
                          intro w hSw
                          (try dsimp only at hSw)
                          go_simp
                          try with_reducible rfl
                        try simp only [Act.put, List.setIfInBounds_toArray, List.set_cons_zero, List.set_cons_succ]
                        refine wpAnyH_take (i := 9) (oi := { dst := some 198, op := Go.Op.pick (Go.Operand.tmp 192) (Go.Operand.tmp 197) (Go.Operand.const (Go.Value.bool false)), type := 4, pos := "law.go:104", after := #[{ on := 3, ground := Go.Ground.data }, { on := 8, ground := Go.Ground.data }], guard := none }) (v := ?av9) rfl (by kernel_rfl) (by kernel_rfl) (by kernel_rfl) (fun _ _ _ h => h) (Or.inl ⟨by rfl, ?ahy9⟩) (by assumption) ?arest9
                        case ahy9 =>
                          intro w hSw
                          (try dsimp only at hSw)
                          go_simp
                          try with_reducible rfl
                        try simp only [Act.put, List.setIfInBounds_toArray, List.set_cons_zero, List.set_cons_succ]
                        refine wpAnyH_take (i := 10) (oi := { dst := some 199, op := Go.Op.binOp Go.BinOp.neq 4 (Go.Operand.tmp 189) (Go.Operand.tmp 198) 4, type := 4, pos := "law.go:104", after := #[{ on := 0, ground := Go.Ground.data }, { on := 9, ground := Go.Ground.data }], guard := none }) (v := ?av10) rfl (by kernel_rfl) (by kernel_rfl) (by kernel_rfl) (fun _ _ _ h => h) (Or.inl ⟨by rfl, ?ahy10⟩) (by assumption) ?arest10
                        case ahy10 =>
                          intro w hSw
                          (try dsimp only at hSw)
                          go_simp
                          try with_reducible rfl
                        try simp only [Act.put, List.setIfInBounds_toArray, List.set_cons_zero, List.set_cons_succ]
                        refine wpAnyH_take (i := 11) (oi := { dst := some 200, op := Go.Op.move (Go.Operand.tmp 199), type := 4, pos := "law.go:104", after := #[{ on := 10, ground := Go.Ground.data }, { on := 3, ground := Go.Ground.chain }], guard := none }) (v := ?av11) rfl (by kernel_rfl) (by kernel_rfl) (by kernel_rfl) (fun _ _ _ h => h) (Or.inl ⟨by rfl, ?ahy11⟩) (by assumption) ?arest11
                        case ahy11 =>
                          intro w hSw
                          (try dsimp only at hSw)
                          go_simp
                          try with_reducible rfl
                        try simp only [Act.put, List.setIfInBounds_toArray, List.set_cons_zero, List.set_cons_succ]
                        refine wpAnyH_take (i := 12) (oi := { dst := some 201, op := Go.Op.move (Go.Operand.tmp 21), type := 4, pos := "law.go:104", after := #[{ on := 11, ground := Go.Ground.guard }], guard := some (11, false) }) (v := ?av12) rfl (by kernel_rfl) (by kernel_rfl) (by kernel_rfl) (fun _ _ _ h => h) (Or.inl ⟨by rfl, ?ahy12⟩) (by assumption) ?arest12
                        case ahy12 =>
                          intro w hSw
                          (try dsimp only at hSw)
                          go_simp
                          try with_reducible rfl
                        try simp only [Act.put, List.setIfInBounds_toArray, List.set_cons_zero, List.set_cons_succ]
                        refine wpAnyH_take (i := 13) (oi := { dst := some 202, op := Go.Op.move (Go.Operand.tmp 201), type := 4, pos := "law.go:104", after := #[{ on := 12, ground := Go.Ground.data }, { on := 11, ground := Go.Ground.chain }, { on := 11, ground := Go.Ground.guard }], guard := some (11, false) }) (v := ?av13) rfl (by kernel_rfl) (by kernel_rfl) (by kernel_rfl) (fun _ _ _ h => h) (Or.inl ⟨by rfl, ?ahy13⟩) (by assumption) ?arest13
                        case ahy13 =>
                          intro w hSw
                          (try dsimp only at hSw)
                          go_simp
                          try with_reducible rfl
                        try simp only [Act.put, List.setIfInBounds_toArray, List.set_cons_zero, List.set_cons_succ]
                        refine wpAnyH_take (i := 14) (oi := { dst := some 203, op := Go.Op.load 29 (Go.Operand.tmp 20), type := 29, pos := "law.go:104", after := #[{ on := 13, ground := Go.Ground.guard }], guard := some (13, true) }) (v := undef) rfl (by kernel_rfl) (by kernel_rfl) (by kernel_rfl) (fun _ _ _ h => h) (Or.inr ⟨by rfl, rfl⟩) (by assumption) ?_
                        try simp only [Act.put, List.setIfInBounds_toArray, List.set_cons_zero, List.set_cons_succ]
                        refine wpAnyH_take (i := 15) (oi := { dst := some 204, op := Go.Op.fieldAddr 40 (Go.Operand.tmp 7) 1, type := 0, pos := "law.go:104", after := #[{ on := 13, ground := Go.Ground.guard }], guard := some (13, true) }) (v := undef) rfl (by kernel_rfl) (by kernel_rfl) (by kernel_rfl) (fun _ _ _ h => h) (Or.inr ⟨by rfl, rfl⟩) (by assumption) ?_
                        try simp only [Act.put, List.setIfInBounds_toArray, List.set_cons_zero, List.set_cons_succ]
                        refine wpAnyH_take (i := 16) (oi := { dst := some 205, op := Go.Op.load 38 (Go.Operand.tmp 204), type := 38, pos := "law.go:104", after := #[{ on := 15, ground := Go.Ground.data }, { on := 13, ground := Go.Ground.guard }], guard := some (13, true) }) (v := undef) rfl (by kernel_rfl) (by kernel_rfl) (by kernel_rfl) (fun _ _ _ h => h) (Or.inr ⟨by rfl, rfl⟩) (by assumption) ?_
                        try simp only [Act.put, List.setIfInBounds_toArray, List.set_cons_zero, List.set_cons_succ]
                        refine wpAnyH_take (i := 17) (oi := { dst := some 206, op := Go.Op.move (Go.Operand.tmp 19), type := 3, pos := "law.go:104", after := #[{ on := 13, ground := Go.Ground.guard }], guard := some (13, true) }) (v := undef) rfl (by kernel_rfl) (by kernel_rfl) (by kernel_rfl) (fun _ _ _ h => h) (Or.inr ⟨by rfl, rfl⟩) (by assumption) ?_
                        try simp only [Act.put, List.setIfInBounds_toArray, List.set_cons_zero, List.set_cons_succ]
                        refine wpAnyH_take (i := 18) (oi := { dst := some 207, op := Go.Op.indexAddr 38 (Go.Operand.tmp 205) (Go.Operand.tmp 206), type := 0, pos := "law.go:104", after := #[{ on := 16, ground := Go.Ground.data }, { on := 17, ground := Go.Ground.data }, { on := 13, ground := Go.Ground.guard }], guard := some (13, true) }) (v := undef) rfl (by kernel_rfl) (by kernel_rfl) (by kernel_rfl) (fun _ _ _ h => h) (Or.inr ⟨by rfl, rfl⟩) (by assumption) ?_
                        try simp only [Act.put, List.setIfInBounds_toArray, List.set_cons_zero, List.set_cons_succ]
                        refine wpAnyH_take (i := 19) (oi := { dst := some 208, op := Go.Op.load 29 (Go.Operand.tmp 207), type := 29, pos := "law.go:104", after := #[{ on := 18, ground := Go.Ground.data }, { on := 13, ground := Go.Ground.guard }], guard := some (13, true) }) (v := undef) rfl (by kernel_rfl) (by kernel_rfl) (by kernel_rfl) (fun _ _ _ h => h) (Or.inr ⟨by rfl, rfl⟩) (by assumption) ?_
                        try simp only [Act.put, List.setIfInBounds_toArray, List.set_cons_zero, List.set_cons_succ]
                        refine wpAnyH_take (i := 20) (oi := { dst := some 209, op := Go.Op.call { callee := Go.Callee.value (Go.Operand.func 24), args := #[Go.Operand.tmp 203, Go.Operand.tmp 208], argTypes := #[29, 29] }, type := 4, pos := "law.go:104", after := #[{ on := 14, ground := Go.Ground.data }, { on := 19, ground := Go.Ground.data }, { on := 13, ground := Go.Ground.chain }, { on := 13, ground := Go.Ground.guard }], guard := some (13, true) }) (v := undef) rfl (by kernel_rfl) (by kernel_rfl) (by kernel_rfl) (fun _ _ _ h => h) (Or.inr ⟨by rfl, rfl⟩) (by assumption) ?_
                        try simp only [Act.put, List.setIfInBounds_toArray, List.set_cons_zero, List.set_cons_succ]
                        refine wpAnyH_take (i := 21) (oi := { dst := some 210, op := Go.Op.unOp Go.UnOp.not 4 (Go.Operand.tmp 209), type := 4, pos := "law.go:104", after := #[{ on := 20, ground := Go.Ground.data }, { on := 13, ground := Go.Ground.guard }], guard := some (13, true) }) (v := undef) rfl (by kernel_rfl) (by kernel_rfl) (by kernel_rfl) (fun _ _ _ h => h) (Or.inr ⟨by rfl, rfl⟩) (by assumption) ?_
                        try simp only [Act.put, List.setIfInBounds_toArray, List.set_cons_zero, List.set_cons_succ]
                        refine wpAnyH_take (i := 22) (oi := { dst := some 211, op := Go.Op.pick (Go.Operand.tmp 202) (Go.Operand.tmp 210) (Go.Operand.const (Go.Value.bool false)), type := 4, pos := "law.go:104", after := #[{ on := 13, ground := Go.Ground.data }, { on := 21, ground := Go.Ground.data }, { on := 11, ground := Go.Ground.guard }], guard := some (11, false) }) (v := ?av22) rfl (by kernel_rfl) (by kernel_rfl) (by kernel_rfl) (fun _ _ _ h => h) (Or.inl ⟨by rfl, ?ahy22⟩) (by assumption) ?arest22
                        case ahy22 =>
                          intro w hSw
                          (try dsimp only at hSw)
                          go_simp
                          try with_reducible rfl
                        try simp only [Act.put, List.setIfInBounds_toArray, List.set_cons_zero, List.set_cons_succ]
                        refine wpAnyH_take (i := 23) (oi := { dst := some 212, op := Go.Op.pick (Go.Operand.tmp 200) (Go.Operand.const (Go.Value.bool true)) (Go.Operand.tmp 211), type := 4, pos := "law.go:104", after := #[{ on := 11, ground := Go.Ground.data }, { on := 22, ground := Go.Ground.data }], guard := none }) (v := ?av23) rfl (by kernel_rfl) (by kernel_rfl) (by kernel_rfl) (fun _ _ _ h => h) (Or.inl ⟨by rfl, ?ahy23⟩) (by assumption) ?arest23
                        case ahy23 =>
                          intro w hSw
                          (try dsimp only at hSw)
                          go_simp
                          try with_reducible rfl
                        try simp only [Act.put, List.setIfInBounds_toArray, List.set_cons_zero, List.set_cons_succ]
                        refine wpAnyH_take (i := 24) (oi := { dst := some 213, op := Go.Op.move (Go.Operand.tmp 212), type := 4, pos := "law.go:104", after := #[{ on := 23, ground := Go.Ground.data }, { on := 20, ground := Go.Ground.chain }], guard := none }) (v := ?av24) rfl (by kernel_rfl) (by kernel_rfl) (by kernel_rfl) (fun _ _ _ h => h) (Or.inl ⟨by rfl, ?ahy24⟩) (by assumption) ?arest24
                        case ahy24 =>
                          intro w hSw
                          (try dsimp only at hSw)
                          go_simp
                          try with_reducible rfl
                        try simp only [Act.put, List.setIfInBounds_toArray, List.set_cons_zero, List.set_cons_succ]
                        refine wpAnyH_take (i := 25) (oi := { dst := some 214, op := Go.Op.move (Go.Operand.tmp 21), type := 4, pos := "law.go:104", after := #[{ on := 24, ground := Go.Ground.guard }], guard := some (24, false) }) (v := ?av25) rfl (by kernel_rfl) (by kernel_rfl) (by kernel_rfl) (fun _ _ _ h => h) (Or.inl ⟨by rfl, ?ahy25⟩) (by assumption) ?arest25
                        case ahy25 =>
                          intro w hSw
                          (try dsimp only at hSw)
                          go_simp
                          try with_reducible rfl
                        try simp only [Act.put, List.setIfInBounds_toArray, List.set_cons_zero, List.set_cons_succ]
                        refine wpAnyH_take (i := 26) (oi := { dst := some 215, op := Go.Op.unOp Go.UnOp.not 4 (Go.Operand.tmp 214), type := 4, pos := "law.go:104", after := #[{ on := 25, ground := Go.Ground.data }, { on := 24, ground := Go.Ground.guard }], guard := some (24, false) }) (v := ?av26) rfl (by kernel_rfl) (by kernel_rfl) (by kernel_rfl) (fun _ _ _ h => h) (Or.inl ⟨by rfl, ?ahy26⟩) (by assumption) ?arest26
                        case ahy26 =>
                          intro w hSw
                          (try dsimp only at hSw)
                          go_simp
                          try with_reducible rfl
                        try simp only [Act.put, List.setIfInBounds_toArray, List.set_cons_zero, List.set_cons_succ]
                        refine wpAnyH_take (i := 27) (oi := { dst := some 216, op := Go.Op.move (Go.Operand.tmp 215), type := 4, pos := "law.go:104", after := #[{ on := 26, ground := Go.Ground.data }, { on := 24, ground := Go.Ground.chain }, { on := 24, ground := Go.Ground.guard }], guard := some (24, false) }) (v := ?av27) rfl (by kernel_rfl) (by kernel_rfl) (by kernel_rfl) (fun _ _ _ h => h) (Or.inl ⟨by rfl, ?ahy27⟩) (by assumption) ?arest27
                        case ahy27 =>
                          intro w hSw
                          (try dsimp only at hSw)
                          go_simp
                          try with_reducible rfl
                        try simp only [Act.put, List.setIfInBounds_toArray, List.set_cons_zero, List.set_cons_succ]
                        refine wpAnyH_take (i := 28) (oi := { dst := some 217, op := Go.Op.load 29 (Go.Operand.tmp 20), type := 29, pos := "law.go:104", after := #[{ on := 27, ground := Go.Ground.guard }], guard := some (27, true) }) (v := ?av28) rfl (by kernel_rfl) (by kernel_rfl) (by kernel_rfl) (fun _ _ _ h => h) (Or.inl ⟨by rfl, ?ahy28⟩) (by assumption) ?arest28
                        case ahy28 =>
                          intro w hSw
                          (try dsimp only at hSw)
                          go_simp
                          try with_reducible rfl
                        try simp only [Act.put, List.setIfInBounds_toArray, List.set_cons_zero, List.set_cons_succ]
                        refine wpAnyH_take (i := 29) (oi := { dst := some 218, op := Go.Op.build 29 #[], type := 29, pos := "law.go:104", after := #[{ on := 27, ground := Go.Ground.guard }], guard := some (27, true) }) (v := ?av29) rfl (by kernel_rfl) (by kernel_rfl) (by kernel_rfl) (fun _ _ _ h => h) (Or.inl ⟨by rfl, ?ahy29⟩) (by assumption) ?arest29
                        case ahy29 =>
                          intro w hSw
                          (try dsimp only at hSw)
                          go_simp
                          try with_reducible rfl
                        try simp only [Act.put, List.setIfInBounds_toArray, List.set_cons_zero, List.set_cons_succ]
                        refine wpAnyH_ready (rs := [30]) (by kernel_rfl) (by simp) ?_
                        refine AllReadyH.cons (o := { dst := some 219, op := Go.Op.call { callee := Go.Callee.value (Go.Operand.func 24), args := #[Go.Operand.tmp 217, Go.Operand.tmp 218], argTypes := #[29, 29] }, type := 4, pos := "law.go:104", after := #[{ on := 28, ground := Go.Ground.data }, { on := 29, ground := Go.Ground.data }, { on := 27, ground := Go.Ground.chain }, { on := 27, ground := Go.Ground.guard }], guard := some (27, true) }) rfl (fun K hK => ?_) AllReadyH.nil
                        go_simp
                        go_at_call 24
                        refine (samegr_any _ _ gz (GmIs.zero _) (GmIs.zero _)).mono ?_
                        rintro e w8 ⟨rfl, hb8'⟩
                        have hb8 := of_drew6 hb8'
                        obtain ⟨⟨f0, f1, f2⟩, -⟩ := box3 (heap_below hq7 hb8)
                        obtain ⟨⟨s0, s1⟩, -⟩ := box2 (heap_below HB7.out hb8)
                        first
                          | (refine hK.out _ _ ⟨⟨f0, f1, f2⟩, s1⟩ (fun hHeld2 => ?_))
                          | (go_wp2_with fail
                             refine hK.out _ _ ⟨⟨f0, f1, f2⟩, s1⟩ (fun hHeld2 => ?_))
                        clear hK K
                        try simp only [Act.put, List.setIfInBounds_toArray, List.set_cons_zero, List.set_cons_succ]
                        refine wpAnyH_take (i := 31) (oi := { dst := some 220, op := Go.Op.unOp Go.UnOp.not 4 (Go.Operand.tmp 219), type := 4, pos := "law.go:104", after := #[{ on := 30, ground := Go.Ground.data }, { on := 27, ground := Go.Ground.guard }], guard := some (27, true) }) (v := ?av31) rfl (by kernel_rfl) (by kernel_rfl) (by kernel_rfl) (fun _ _ _ h => h) (Or.inl ⟨by rfl, ?ahy31⟩) (by assumption) ?arest31
                        case ahy31 =>
                          intro w hSw
                          (try dsimp only at hSw)
                          go_simp
                          try with_reducible rfl
                        try simp only [Act.put, List.setIfInBounds_toArray, List.set_cons_zero, List.set_cons_succ]
                        refine wpAnyH_take (i := 32) (oi := { dst := some 221, op := Go.Op.pick (Go.Operand.tmp 216) (Go.Operand.tmp 220) (Go.Operand.const (Go.Value.bool false)), type := 4, pos := "law.go:104", after := #[{ on := 27, ground := Go.Ground.data }, { on := 31, ground := Go.Ground.data }, { on := 24, ground := Go.Ground.guard }], guard := some (24, false) }) (v := ?av32) rfl (by kernel_rfl) (by kernel_rfl) (by kernel_rfl) (fun _ _ _ h => h) (Or.inl ⟨by rfl, ?ahy32⟩) (by assumption) ?arest32
                        case ahy32 =>
                          intro w hSw
                          (try dsimp only at hSw)
                          go_simp
                          try with_reducible rfl
                        try simp only [Act.put, List.setIfInBounds_toArray, List.set_cons_zero, List.set_cons_succ]
                        refine wpAnyH_take (i := 33) (oi := { dst := some 222, op := Go.Op.pick (Go.Operand.tmp 213) (Go.Operand.const (Go.Value.bool true)) (Go.Operand.tmp 221), type := 4, pos := "law.go:104", after := #[{ on := 24, ground := Go.Ground.data }, { on := 32, ground := Go.Ground.data }], guard := none }) (v := ?av33) rfl (by kernel_rfl) (by kernel_rfl) (by kernel_rfl) (fun _ _ _ h => h) (Or.inl ⟨by rfl, ?ahy33⟩) (by assumption) ?arest33
                        case ahy33 =>
                          intro w hSw
                          (try dsimp only at hSw)
                          go_simp
                          try with_reducible rfl
                        try simp only [Act.put, List.setIfInBounds_toArray, List.set_cons_zero, List.set_cons_succ]
                        refine wpAnyH_done (by kernel_rfl) ?_ _
                        clear hHeld hHeld2 c0 c1 c2 f0 f1 f2 z0 z1 s0 s1
                        go_wp2_with fail
                        go_roundw
                        case rel => exact ⟨q + 1, by omega, by omega, by go_num, nxt hbw7 hb8⟩
                        case measure => simp [intOf]; omega
                    | false =>
                      clear e2 e1
                      as_aux_lemma =>
                        refine wp_region_held_drew (S := fun w' => (w'.cell? ⟨B7, 0, none⟩ = some (.int .i64 0) ∧ w'.cell? ⟨B7, 1, none⟩ = some (.int .i64 0) ∧ w'.cell? ⟨B7, 2, none⟩ = some (.slice none 0 0)) ∧ w'.cell? ⟨Bw, 1, none⟩ = some (.slice A m c)) (by kernel_rfl) ⟨⟨c0, c1, c2⟩, z1⟩ (fun hHeld => ?_)
                        refine wpAnyH_take (i := 0) (oi := { dst := some 189, op := Go.Op.move (Go.Operand.tmp 21), type := 4, pos := "law.go:104", after := #[], guard := none }) (v := ?bv0) rfl (by kernel_rfl) (by kernel_rfl) (by kernel_rfl) (fun _ _ _ h => h) (Or.inl ⟨by rfl, ?bhy0⟩) (by assumption) ?brest0
                        case bhy0 =>
                          intro w hSw
                          (try dsimp only at hSw)
                          go_simp
                          try with_reducible rfl
                        try simp only [Act.put, List.setIfInBounds_toArray, List.set_cons_zero, List.set_cons_succ]
                        refine wpAnyH_take (i := 1) (oi := { dst := some 190, op := Go.Op.move (Go.Operand.tmp 19), type := 3, pos := "law.go:104", after := #[], guard := none }) (v := ?bv1) rfl (by kernel_rfl) (by kernel_rfl) (by kernel_rfl) (fun _ _ _ h => h) (Or.inl ⟨by rfl, ?bhy1⟩) (by assumption) ?brest1
                        case bhy1 =>
                          intro w hSw
                          (try dsimp only at hSw)
                          go_simp
                          try with_reducible rfl
                        try simp only [Act.put, List.setIfInBounds_toArray, List.set_cons_zero, List.set_cons_succ]
                        refine wpAnyH_take (i := 2) (oi := { dst := some 191, op := Go.Op.binOp Go.BinOp.geq 3 (Go.Operand.tmp 190) (Go.Operand.const (Go.Value.int Go.IntKind.i64 0)) 3, type := 4, pos := "law.go:104", after := #[{ on := 1, ground := Go.Ground.data }], guard := none }) (v := ?bv2) rfl (by kernel_rfl) (by kernel_rfl) (by kernel_rfl) (fun _ _ _ h => h) (Or.inl ⟨by rfl, ?bhy2⟩) (by assumption) ?brest2
                        case bhy2 =>
                          intro w hSw
                          (try dsimp only at hSw)
                          go_simp
                          try with_reducible rfl
                        try simp only [Act.put, List.setIfInBounds_toArray, List.set_cons_zero, List.set_cons_succ]
                        refine wpAnyH_take (i := 3) (oi := { dst := some 192, op := Go.Op.move (Go.Operand.tmp 191), type := 4, pos := "law.go:104", after := #[{ on := 2, ground := Go.Ground.data }], guard := none }) (v := ?bv3) rfl (by kernel_rfl) (by kernel_rfl) (by kernel_rfl) (fun _ _ _ h => h) (Or.inl ⟨by rfl, ?bhy3⟩) (by assumption) ?brest3
                        case bhy3 =>
                          intro w hSw
                          (try dsimp only at hSw)
                          go_simp
                          try with_reducible rfl
                        try simp only [Act.put, List.setIfInBounds_toArray, List.set_cons_zero, List.set_cons_succ]
                        refine wpAnyH_take (i := 4) (oi := { dst := some 193, op := Go.Op.move (Go.Operand.tmp 19), type := 3, pos := "law.go:104", after := #[{ on := 3, ground := Go.Ground.guard }], guard := some (3, true) }) (v := undef) rfl (by kernel_rfl) (by kernel_rfl) (by kernel_rfl) (fun _ _ _ h => h) (Or.inr ⟨by rfl, rfl⟩) (by assumption) ?_
                        try simp only [Act.put, List.setIfInBounds_toArray, List.set_cons_zero, List.set_cons_succ]
                        refine wpAnyH_take (i := 5) (oi := { dst := some 194, op := Go.Op.fieldAddr 40 (Go.Operand.tmp 7) 1, type := 0, pos := "law.go:104", after := #[{ on := 3, ground := Go.Ground.guard }], guard := some (3, true) }) (v := undef) rfl (by kernel_rfl) (by kernel_rfl) (by kernel_rfl) (fun _ _ _ h => h) (Or.inr ⟨by rfl, rfl⟩) (by assumption) ?_
                        try simp only [Act.put, List.setIfInBounds_toArray, List.set_cons_zero, List.set_cons_succ]
                        refine wpAnyH_take (i := 6) (oi := { dst := some 195, op := Go.Op.load 38 (Go.Operand.tmp 194), type := 38, pos := "law.go:104", after := #[{ on := 5, ground := Go.Ground.data }, { on := 3, ground := Go.Ground.guard }], guard := some (3, true) }) (v := undef) rfl (by kernel_rfl) (by kernel_rfl) (by kernel_rfl) (fun _ _ _ h => h) (Or.inr ⟨by rfl, rfl⟩) (by assumption) ?_
                        try simp only [Act.put, List.setIfInBounds_toArray, List.set_cons_zero, List.set_cons_succ]
                        refine wpAnyH_take (i := 7) (oi := { dst := some 196, op := Go.Op.call { callee := Go.Callee.builtin Go.Builtin.len, args := #[Go.Operand.tmp 195], argTypes := #[38] }, type := 3, pos := "law.go:104", after := #[{ on := 6, ground := Go.Ground.data }, { on := 3, ground := Go.Ground.guard }], guard := some (3, true) }) (v := undef) rfl (by kernel_rfl) (by kernel_rfl) (by kernel_rfl) (fun _ _ _ h => h) (Or.inr ⟨by rfl, rfl⟩) (by assumption) ?_
                        try simp only [Act.put, List.setIfInBounds_toArray, List.set_cons_zero, List.set_cons_succ]
                        refine wpAnyH_take (i := 8) (oi := { dst := some 197, op := Go.Op.binOp Go.BinOp.lss 3 (Go.Operand.tmp 193) (Go.Operand.tmp 196) 3, type := 4, pos := "law.go:104", after := #[{ on := 4, ground := Go.Ground.data }, { on := 7, ground := Go.Ground.data }, { on := 3, ground := Go.Ground.guard }], guard := some (3, true) }) (v := undef) rfl (by kernel_rfl) (by kernel_rfl) (by kernel_rfl) (fun _ _ _ h => h) (Or.inr ⟨by rfl, rfl⟩) (by assumption) ?_
                        try simp only [Act.put, List.setIfInBounds_toArray, List.set_cons_zero, List.set_cons_succ]
                        refine wpAnyH_take (i := 9) (oi := { dst := some 198, op := Go.Op.pick (Go.Operand.tmp 192) (Go.Operand.tmp 197) (Go.Operand.const (Go.Value.bool false)), type := 4, pos := "law.go:104", after := #[{ on := 3, ground := Go.Ground.data }, { on := 8, ground := Go.Ground.data }], guard := none }) (v := ?bv9) rfl (by kernel_rfl) (by kernel_rfl) (by kernel_rfl) (fun _ _ _ h => h) (Or.inl ⟨by rfl, ?bhy9⟩) (by assumption) ?brest9
                        case bhy9 =>
                          intro w hSw
                          (try dsimp only at hSw)
                          go_simp
                          try with_reducible rfl
                        try simp only [Act.put, List.setIfInBounds_toArray, List.set_cons_zero, List.set_cons_succ]
                        refine wpAnyH_take (i := 10) (oi := { dst := some 199, op := Go.Op.binOp Go.BinOp.neq 4 (Go.Operand.tmp 189) (Go.Operand.tmp 198) 4, type := 4, pos := "law.go:104", after := #[{ on := 0, ground := Go.Ground.data }, { on := 9, ground := Go.Ground.data }], guard := none }) (v := ?bv10) rfl (by kernel_rfl) (by kernel_rfl) (by kernel_rfl) (fun _ _ _ h => h) (Or.inl ⟨by rfl, ?bhy10⟩) (by assumption) ?brest10
                        case bhy10 =>
                          intro w hSw
                          (try dsimp only at hSw)
                          go_simp
                          try with_reducible rfl
                        try simp only [Act.put, List.setIfInBounds_toArray, List.set_cons_zero, List.set_cons_succ]
                        refine wpAnyH_take (i := 11) (oi := { dst := some 200, op := Go.Op.move (Go.Operand.tmp 199), type := 4, pos := "law.go:104", after := #[{ on := 10, ground := Go.Ground.data }, { on := 3, ground := Go.Ground.chain }], guard := none }) (v := ?bv11) rfl (by kernel_rfl) (by kernel_rfl) (by kernel_rfl) (fun _ _ _ h => h) (Or.inl ⟨by rfl, ?bhy11⟩) (by assumption) ?brest11
                        case bhy11 =>
                          intro w hSw
                          (try dsimp only at hSw)
                          go_simp
                          try with_reducible rfl
                        try simp only [Act.put, List.setIfInBounds_toArray, List.set_cons_zero, List.set_cons_succ]
                        refine wpAnyH_take (i := 12) (oi := { dst := some 201, op := Go.Op.move (Go.Operand.tmp 21), type := 4, pos := "law.go:104", after := #[{ on := 11, ground := Go.Ground.guard }], guard := some (11, false) }) (v := ?bv12) rfl (by kernel_rfl) (by kernel_rfl) (by kernel_rfl) (fun _ _ _ h => h) (Or.inl ⟨by rfl, ?bhy12⟩) (by assumption) ?brest12
                        case bhy12 =>
                          intro w hSw
                          (try dsimp only at hSw)
                          go_simp
                          try with_reducible rfl
                        try simp only [Act.put, List.setIfInBounds_toArray, List.set_cons_zero, List.set_cons_succ]
                        refine wpAnyH_take (i := 13) (oi := { dst := some 202, op := Go.Op.move (Go.Operand.tmp 201), type := 4, pos := "law.go:104", after := #[{ on := 12, ground := Go.Ground.data }, { on := 11, ground := Go.Ground.chain }, { on := 11, ground := Go.Ground.guard }], guard := some (11, false) }) (v := ?bv13) rfl (by kernel_rfl) (by kernel_rfl) (by kernel_rfl) (fun _ _ _ h => h) (Or.inl ⟨by rfl, ?bhy13⟩) (by assumption) ?brest13
                        case bhy13 =>
                          intro w hSw
                          (try dsimp only at hSw)
                          go_simp
                          try with_reducible rfl
                        try simp only [Act.put, List.setIfInBounds_toArray, List.set_cons_zero, List.set_cons_succ]
                        refine wpAnyH_take (i := 14) (oi := { dst := some 203, op := Go.Op.load 29 (Go.Operand.tmp 20), type := 29, pos := "law.go:104", after := #[{ on := 13, ground := Go.Ground.guard }], guard := some (13, true) }) (v := undef) rfl (by kernel_rfl) (by kernel_rfl) (by kernel_rfl) (fun _ _ _ h => h) (Or.inr ⟨by rfl, rfl⟩) (by assumption) ?_
                        try simp only [Act.put, List.setIfInBounds_toArray, List.set_cons_zero, List.set_cons_succ]
                        refine wpAnyH_take (i := 15) (oi := { dst := some 204, op := Go.Op.fieldAddr 40 (Go.Operand.tmp 7) 1, type := 0, pos := "law.go:104", after := #[{ on := 13, ground := Go.Ground.guard }], guard := some (13, true) }) (v := undef) rfl (by kernel_rfl) (by kernel_rfl) (by kernel_rfl) (fun _ _ _ h => h) (Or.inr ⟨by rfl, rfl⟩) (by assumption) ?_
                        try simp only [Act.put, List.setIfInBounds_toArray, List.set_cons_zero, List.set_cons_succ]
                        refine wpAnyH_take (i := 16) (oi := { dst := some 205, op := Go.Op.load 38 (Go.Operand.tmp 204), type := 38, pos := "law.go:104", after := #[{ on := 15, ground := Go.Ground.data }, { on := 13, ground := Go.Ground.guard }], guard := some (13, true) }) (v := undef) rfl (by kernel_rfl) (by kernel_rfl) (by kernel_rfl) (fun _ _ _ h => h) (Or.inr ⟨by rfl, rfl⟩) (by assumption) ?_
                        try simp only [Act.put, List.setIfInBounds_toArray, List.set_cons_zero, List.set_cons_succ]
                        refine wpAnyH_take (i := 17) (oi := { dst := some 206, op := Go.Op.move (Go.Operand.tmp 19), type := 3, pos := "law.go:104", after := #[{ on := 13, ground := Go.Ground.guard }], guard := some (13, true) }) (v := undef) rfl (by kernel_rfl) (by kernel_rfl) (by kernel_rfl) (fun _ _ _ h => h) (Or.inr ⟨by rfl, rfl⟩) (by assumption) ?_
                        try simp only [Act.put, List.setIfInBounds_toArray, List.set_cons_zero, List.set_cons_succ]
                        refine wpAnyH_take (i := 18) (oi := { dst := some 207, op := Go.Op.indexAddr 38 (Go.Operand.tmp 205) (Go.Operand.tmp 206), type := 0, pos := "law.go:104", after := #[{ on := 16, ground := Go.Ground.data }, { on := 17, ground := Go.Ground.data }, { on := 13, ground := Go.Ground.guard }], guard := some (13, true) }) (v := undef) rfl (by kernel_rfl) (by kernel_rfl) (by kernel_rfl) (fun _ _ _ h => h) (Or.inr ⟨by rfl, rfl⟩) (by assumption) ?_
                        try simp only [Act.put, List.setIfInBounds_toArray, List.set_cons_zero, List.set_cons_succ]
                        refine wpAnyH_take (i := 19) (oi := { dst := some 208, op := Go.Op.load 29 (Go.Operand.tmp 207), type := 29, pos := "law.go:104", after := #[{ on := 18, ground := Go.Ground.data }, { on := 13, ground := Go.Ground.guard }], guard := some (13, true) }) (v := undef) rfl (by kernel_rfl) (by kernel_rfl) (by kernel_rfl) (fun _ _ _ h => h) (Or.inr ⟨by rfl, rfl⟩) (by assumption) ?_
                        try simp only [Act.put, List.setIfInBounds_toArray, List.set_cons_zero, List.set_cons_succ]
                        refine wpAnyH_take (i := 20) (oi := { dst := some 209, op := Go.Op.call { callee := Go.Callee.value (Go.Operand.func 24), args := #[Go.Operand.tmp 203, Go.Operand.tmp 208], argTypes := #[29, 29] }, type := 4, pos := "law.go:104", after := #[{ on := 14, ground := Go.Ground.data }, { on := 19, ground := Go.Ground.data }, { on := 13, ground := Go.Ground.chain }, { on := 13, ground := Go.Ground.guard }], guard := some (13, true) }) (v := undef) rfl (by kernel_rfl) (by kernel_rfl) (by kernel_rfl) (fun _ _ _ h => h) (Or.inr ⟨by rfl, rfl⟩) (by assumption) ?_
                        try simp only [Act.put, List.setIfInBounds_toArray, List.set_cons_zero, List.set_cons_succ]
                        refine wpAnyH_take (i := 21) (oi := { dst := some 210, op := Go.Op.unOp Go.UnOp.not 4 (Go.Operand.tmp 209), type := 4, pos := "law.go:104", after := #[{ on := 20, ground := Go.Ground.data }, { on := 13, ground := Go.Ground.guard }], guard := some (13, true) }) (v := undef) rfl (by kernel_rfl) (by kernel_rfl) (by kernel_rfl) (fun _ _ _ h => h) (Or.inr ⟨by rfl, rfl⟩) (by assumption) ?_
                        try simp only [Act.put, List.setIfInBounds_toArray, List.set_cons_zero, List.set_cons_succ]
                        refine wpAnyH_take (i := 22) (oi := { dst := some 211, op := Go.Op.pick (Go.Operand.tmp 202) (Go.Operand.tmp 210) (Go.Operand.const (Go.Value.bool false)), type := 4, pos := "law.go:104", after := #[{ on := 13, ground := Go.Ground.data }, { on := 21, ground := Go.Ground.data }, { on := 11, ground := Go.Ground.guard }], guard := some (11, false) }) (v := ?bv22) rfl (by kernel_rfl) (by kernel_rfl) (by kernel_rfl) (fun _ _ _ h => h) (Or.inl ⟨by rfl, ?bhy22⟩) (by assumption) ?brest22
                        case bhy22 =>
                          intro w hSw
                          (try dsimp only at hSw)
                          go_simp
                          try with_reducible rfl
                        try simp only [Act.put, List.setIfInBounds_toArray, List.set_cons_zero, List.set_cons_succ]
                        refine wpAnyH_take (i := 23) (oi := { dst := some 212, op := Go.Op.pick (Go.Operand.tmp 200) (Go.Operand.const (Go.Value.bool true)) (Go.Operand.tmp 211), type := 4, pos := "law.go:104", after := #[{ on := 11, ground := Go.Ground.data }, { on := 22, ground := Go.Ground.data }], guard := none }) (v := ?bv23) rfl (by kernel_rfl) (by kernel_rfl) (by kernel_rfl) (fun _ _ _ h => h) (Or.inl ⟨by rfl, ?bhy23⟩) (by assumption) ?brest23
                        case bhy23 =>
                          intro w hSw
                          (try dsimp only at hSw)
                          go_simp
                          try with_reducible rfl
                        try simp only [Act.put, List.setIfInBounds_toArray, List.set_cons_zero, List.set_cons_succ]
                        refine wpAnyH_take (i := 24) (oi := { dst := some 213, op := Go.Op.move (Go.Operand.tmp 212), type := 4, pos := "law.go:104", after := #[{ on := 23, ground := Go.Ground.data }, { on := 20, ground := Go.Ground.chain }], guard := none }) (v := ?bv24) rfl (by kernel_rfl) (by kernel_rfl) (by kernel_rfl) (fun _ _ _ h => h) (Or.inl ⟨by rfl, ?bhy24⟩) (by assumption) ?brest24
                        case bhy24 =>
                          intro w hSw
                          (try dsimp only at hSw)
                          go_simp
                          try with_reducible rfl
                        try simp only [Act.put, List.setIfInBounds_toArray, List.set_cons_zero, List.set_cons_succ]
                        refine wpAnyH_take (i := 25) (oi := { dst := some 214, op := Go.Op.move (Go.Operand.tmp 21), type := 4, pos := "law.go:104", after := #[{ on := 24, ground := Go.Ground.guard }], guard := some (24, false) }) (v := ?bv25) rfl (by kernel_rfl) (by kernel_rfl) (by kernel_rfl) (fun _ _ _ h => h) (Or.inl ⟨by rfl, ?bhy25⟩) (by assumption) ?brest25
                        case bhy25 =>
                          intro w hSw
                          (try dsimp only at hSw)
                          go_simp
                          try with_reducible rfl
                        try simp only [Act.put, List.setIfInBounds_toArray, List.set_cons_zero, List.set_cons_succ]
                        refine wpAnyH_take (i := 26) (oi := { dst := some 215, op := Go.Op.unOp Go.UnOp.not 4 (Go.Operand.tmp 214), type := 4, pos := "law.go:104", after := #[{ on := 25, ground := Go.Ground.data }, { on := 24, ground := Go.Ground.guard }], guard := some (24, false) }) (v := ?bv26) rfl (by kernel_rfl) (by kernel_rfl) (by kernel_rfl) (fun _ _ _ h => h) (Or.inl ⟨by rfl, ?bhy26⟩) (by assumption) ?brest26
                        case bhy26 =>
                          intro w hSw
                          (try dsimp only at hSw)
                          go_simp
                          try with_reducible rfl
                        try simp only [Act.put, List.setIfInBounds_toArray, List.set_cons_zero, List.set_cons_succ]
                        refine wpAnyH_take (i := 27) (oi := { dst := some 216, op := Go.Op.move (Go.Operand.tmp 215), type := 4, pos := "law.go:104", after := #[{ on := 26, ground := Go.Ground.data }, { on := 24, ground := Go.Ground.chain }, { on := 24, ground := Go.Ground.guard }], guard := some (24, false) }) (v := ?bv27) rfl (by kernel_rfl) (by kernel_rfl) (by kernel_rfl) (fun _ _ _ h => h) (Or.inl ⟨by rfl, ?bhy27⟩) (by assumption) ?brest27
                        case bhy27 =>
                          intro w hSw
                          (try dsimp only at hSw)
                          go_simp
                          try with_reducible rfl
                        try simp only [Act.put, List.setIfInBounds_toArray, List.set_cons_zero, List.set_cons_succ]
                        refine wpAnyH_take (i := 28) (oi := { dst := some 217, op := Go.Op.load 29 (Go.Operand.tmp 20), type := 29, pos := "law.go:104", after := #[{ on := 27, ground := Go.Ground.guard }], guard := some (27, true) }) (v := ?bv28) rfl (by kernel_rfl) (by kernel_rfl) (by kernel_rfl) (fun _ _ _ h => h) (Or.inl ⟨by rfl, ?bhy28⟩) (by assumption) ?brest28
                        case bhy28 =>
                          intro w hSw
                          (try dsimp only at hSw)
                          go_simp
                          try with_reducible rfl
                        try simp only [Act.put, List.setIfInBounds_toArray, List.set_cons_zero, List.set_cons_succ]
                        refine wpAnyH_take (i := 29) (oi := { dst := some 218, op := Go.Op.build 29 #[], type := 29, pos := "law.go:104", after := #[{ on := 27, ground := Go.Ground.guard }], guard := some (27, true) }) (v := ?bv29) rfl (by kernel_rfl) (by kernel_rfl) (by kernel_rfl) (fun _ _ _ h => h) (Or.inl ⟨by rfl, ?bhy29⟩) (by assumption) ?brest29
                        case bhy29 =>
                          intro w hSw
                          (try dsimp only at hSw)
                          go_simp
                          try with_reducible rfl
                        try simp only [Act.put, List.setIfInBounds_toArray, List.set_cons_zero, List.set_cons_succ]
                        refine wpAnyH_ready (rs := [30]) (by kernel_rfl) (by simp) ?_
                        refine AllReadyH.cons (o := { dst := some 219, op := Go.Op.call { callee := Go.Callee.value (Go.Operand.func 24), args := #[Go.Operand.tmp 217, Go.Operand.tmp 218], argTypes := #[29, 29] }, type := 4, pos := "law.go:104", after := #[{ on := 28, ground := Go.Ground.data }, { on := 29, ground := Go.Ground.data }, { on := 27, ground := Go.Ground.chain }, { on := 27, ground := Go.Ground.guard }], guard := some (27, true) }) rfl (fun K hK => ?_) AllReadyH.nil
                        go_simp
                        go_at_call 24
                        refine (samegr_any _ _ gz (GmIs.zero _) (GmIs.zero _)).mono ?_
                        rintro e w8 ⟨rfl, hb8'⟩
                        have hb8 := of_drew6 hb8'
                        obtain ⟨⟨f0, f1, f2⟩, -⟩ := box3 (heap_below hq7 hb8)
                        obtain ⟨⟨s0, s1⟩, -⟩ := box2 (heap_below HB7.out hb8)
                        first
                          | (refine hK.out _ _ ⟨⟨f0, f1, f2⟩, s1⟩ (fun hHeld2 => ?_))
                          | (go_wp2_with fail
                             refine hK.out _ _ ⟨⟨f0, f1, f2⟩, s1⟩ (fun hHeld2 => ?_))
                        clear hK K
                        try simp only [Act.put, List.setIfInBounds_toArray, List.set_cons_zero, List.set_cons_succ]
                        refine wpAnyH_take (i := 31) (oi := { dst := some 220, op := Go.Op.unOp Go.UnOp.not 4 (Go.Operand.tmp 219), type := 4, pos := "law.go:104", after := #[{ on := 30, ground := Go.Ground.data }, { on := 27, ground := Go.Ground.guard }], guard := some (27, true) }) (v := ?bv31) rfl (by kernel_rfl) (by kernel_rfl) (by kernel_rfl) (fun _ _ _ h => h) (Or.inl ⟨by rfl, ?bhy31⟩) (by assumption) ?brest31
                        case bhy31 =>
                          intro w hSw
                          (try dsimp only at hSw)
                          go_simp
                          try with_reducible rfl
                        try simp only [Act.put, List.setIfInBounds_toArray, List.set_cons_zero, List.set_cons_succ]
                        refine wpAnyH_take (i := 32) (oi := { dst := some 221, op := Go.Op.pick (Go.Operand.tmp 216) (Go.Operand.tmp 220) (Go.Operand.const (Go.Value.bool false)), type := 4, pos := "law.go:104", after := #[{ on := 27, ground := Go.Ground.data }, { on := 31, ground := Go.Ground.data }, { on := 24, ground := Go.Ground.guard }], guard := some (24, false) }) (v := ?bv32) rfl (by kernel_rfl) (by kernel_rfl) (by kernel_rfl) (fun _ _ _ h => h) (Or.inl ⟨by rfl, ?bhy32⟩) (by assumption) ?brest32
                        case bhy32 =>
                          intro w hSw
                          (try dsimp only at hSw)
                          go_simp
                          try with_reducible rfl
                        try simp only [Act.put, List.setIfInBounds_toArray, List.set_cons_zero, List.set_cons_succ]
                        refine wpAnyH_take (i := 33) (oi := { dst := some 222, op := Go.Op.pick (Go.Operand.tmp 213) (Go.Operand.const (Go.Value.bool true)) (Go.Operand.tmp 221), type := 4, pos := "law.go:104", after := #[{ on := 24, ground := Go.Ground.data }, { on := 32, ground := Go.Ground.data }], guard := none }) (v := ?bv33) rfl (by kernel_rfl) (by kernel_rfl) (by kernel_rfl) (fun _ _ _ h => h) (Or.inl ⟨by rfl, ?bhy33⟩) (by assumption) ?brest33
                        case bhy33 =>
                          intro w hSw
                          (try dsimp only at hSw)
                          go_simp
                          try with_reducible rfl
                        try simp only [Act.put, List.setIfInBounds_toArray, List.set_cons_zero, List.set_cons_succ]
                        refine wpAnyH_done (by kernel_rfl) ?_ _
                        clear hHeld hHeld2 c0 c1 c2 f0 f1 f2 z0 z1 s0 s1
                        go_wp2_with fail
                        go_roundw
                        case rel => exact ⟨q + 1, by omega, by omega, by go_num, nxt hbw7 hb8⟩
                        case measure => simp [intOf]; omega
                  · as_aux_lemma =>
                      obtain ⟨z, hz⟩ : ∃ z, Hid (L[k]? = some z) := ⟨_, Lib.hid (List.getElem?_eq_getElem hk)⟩
                      rw [nth_one L k z hz.out] at hL
                      rw [hm.out] at hk
                      have e0 : decide ((k : Int) ≥ 0) = true := decide_eq_true (by omega)
                      have e1 : decide ((k : Int) < (m : Int)) = true := decide_eq_true (by omega)
                      have e3 : decide (k < m) = true := decide_eq_true hk
                      clear h1 h2
                      go_wp2_with fail
                      refine hL.mono ?_
                      rintro e w6 ⟨hb6, b, cc, cur, fr, rfl, hbl, hbh, hbs, hfr⟩
                      clear hL hbl hbh hfr
                      have hb7 := (Below.refl w6.heap.size w6).alloc (Nat.le_refl _) (.cells #[.int .i64 z.fr, .int .i64 z.to, .slice (some ⟨b, 0, none⟩) z.d.length cc] 29)
                      have hq7 := heap_new w6 (.cells #[.int .i64 z.fr, .int .i64 z.to, .slice (some ⟨b, 0, none⟩) z.d.length cc] 29)
                      have hbs7 := hbs.below hb7
                      have hbw7 := nxt (nxt hbq hb6) hb7
                      obtain ⟨W7, hW7⟩ : ∃ W, W = w6.alloc (.cells #[.int .i64 z.fr, .int .i64 z.to, .slice (some ⟨b, 0, none⟩) z.d.length cc] 29) := ⟨_, rfl⟩
                      obtain ⟨B7, hB7⟩ : ∃ B, B = w6.heap.size := ⟨_, rfl⟩
                      go_upto_region 38 with fail
                      rw [← hW7] at hq7 hbs7 hbw7 ⊢
                      rw [← hB7] at hq7 ⊢
                      clear hW7 hB7 hb7 hb6 hbq hbs z0 z1
                      have HB7 := Lib.hid (heap_below HBY.out hbw7)
                      obtain ⟨⟨z0, z1⟩, -⟩ := box2 HB7.out
                      obtain ⟨⟨c0, c1, c2⟩, -⟩ := box3 hq7
                      have hGR := HY.out.gr.below hbw7
                      obtain ⟨g, u, rfl, t0, t1, t2, hbx⟩ := hGR.cell hz.out
                      have hbu := hbx.bs
                      have hgW : g < W7.heap.size := World.block_lt_of_cell? W7 _ t0
                      clear hGR hbx
                      refine wp_region_held_drew (S := fun w' => ((w'.cell? ⟨B7, 0, none⟩ = some (.int .i64 z.fr) ∧ w'.cell? ⟨B7, 1, none⟩ = some (.int .i64 z.to) ∧ w'.cell? ⟨B7, 2, none⟩ = some (.slice (some ⟨b, 0, none⟩) z.d.length cc)) ∧ (w'.cell? ⟨g, k * 3, none⟩ = some (.int .i64 z.fr) ∧ w'.cell? ⟨g, k * 3 + 1, none⟩ = some (.int .i64 z.to) ∧ w'.cell? ⟨g, k * 3 + 2, none⟩ = some u)) ∧ w'.cell? ⟨Bw, 1, none⟩ = some (.slice (some ⟨g, 0, none⟩) m c)) (by kernel_rfl) ⟨⟨⟨c0, c1, c2⟩, ⟨t0, t1, t2⟩⟩, z1⟩ (fun hHeld => ?_)
                      refine wpAnyH_take (i := 0) (oi := { dst := some 189, op := Go.Op.move (Go.Operand.tmp 21), type := 4, pos := "law.go:104", after := #[], guard := none }) (v := ?cv0) rfl (by kernel_rfl) (by kernel_rfl) (by kernel_rfl) (fun _ _ _ h => h) (Or.inl ⟨by rfl, ?chy0⟩) (by assumption) ?crest0
                      case chy0 =>
                        intro w hSw
                        (try dsimp only at hSw)
                        go_simp
                        try with_reducible rfl
                      try simp only [Act.put, List.setIfInBounds_toArray, List.set_cons_zero, List.set_cons_succ]
                      refine wpAnyH_take (i := 1) (oi := { dst := some 190, op := Go.Op.move (Go.Operand.tmp 19), type := 3, pos := "law.go:104", after := #[], guard := none }) (v := ?cv1) rfl (by kernel_rfl) (by kernel_rfl) (by kernel_rfl) (fun _ _ _ h => h) (Or.inl ⟨by rfl, ?chy1⟩) (by assumption) ?crest1
                      case chy1 =>
                        intro w hSw
                        (try dsimp only at hSw)
                        go_simp
                        try with_reducible rfl
                      try simp only [Act.put, List.setIfInBounds_toArray, List.set_cons_zero, List.set_cons_succ]
                      refine wpAnyH_take (i := 2) (oi := { dst := some 191, op := Go.Op.binOp Go.BinOp.geq 3 (Go.Operand.tmp 190) (Go.Operand.const (Go.Value.int Go.IntKind.i64 0)) 3, type := 4, pos := "law.go:104", after := #[{ on := 1, ground := Go.Ground.data }], guard := none }) (v := ?cv2) rfl (by kernel_rfl) (by kernel_rfl) (by kernel_rfl) (fun _ _ _ h => h) (Or.inl ⟨by rfl, ?chy2⟩) (by assumption) ?crest2
                      case chy2 =>
                        intro w hSw
                        (try dsimp only at hSw)
                        go_simp
                        try with_reducible rfl
                      try simp only [Act.put, List.setIfInBounds_toArray, List.set_cons_zero, List.set_cons_succ]
                      refine wpAnyH_take (i := 3) (oi := { dst := some 192, op := Go.Op.move (Go.Operand.tmp 191), type := 4, pos := "law.go:104", after := #[{ on := 2, ground := Go.Ground.data }], guard := none }) (v := ?cv3) rfl (by kernel_rfl) (by kernel_rfl) (by kernel_rfl) (fun _ _ _ h => h) (Or.inl ⟨by rfl, ?chy3⟩) (by assumption) ?crest3
                      case chy3 =>
                        intro w hSw
                        (try dsimp only at hSw)
                        go_simp
                        try with_reducible rfl
                      try simp only [Act.put, List.setIfInBounds_toArray, List.set_cons_zero, List.set_cons_succ]
                      refine wpAnyH_take (i := 4) (oi := { dst := some 193, op := Go.Op.move (Go.Operand.tmp 19), type := 3, pos := "law.go:104", after := #[{ on := 3, ground := Go.Ground.guard }], guard := some (3, true) }) (v := ?cv4) rfl (by kernel_rfl) (by kernel_rfl) (by kernel_rfl) (fun _ _ _ h => h) (Or.inl ⟨by rfl, ?chy4⟩) (by assumption) ?crest4
                      case chy4 =>
                        intro w hSw
                        (try dsimp only at hSw)
                        go_simp
                        try with_reducible rfl
                      try simp only [Act.put, List.setIfInBounds_toArray, List.set_cons_zero, List.set_cons_succ]
                      refine wpAnyH_take (i := 5) (oi := { dst := some 194, op := Go.Op.fieldAddr 40 (Go.Operand.tmp 7) 1, type := 0, pos := "law.go:104", after := #[{ on := 3, ground := Go.Ground.guard }], guard := some (3, true) }) (v := ?cv5) rfl (by kernel_rfl) (by kernel_rfl) (by kernel_rfl) (fun _ _ _ h => h) (Or.inl ⟨by rfl, ?chy5⟩) (by assumption) ?crest5
                      case chy5 =>
                        intro w hSw
                        (try dsimp only at hSw)
                        go_simp
                        try with_reducible rfl
                      try simp only [Act.put, List.setIfInBounds_toArray, List.set_cons_zero, List.set_cons_succ]
                      refine wpAnyH_take (i := 6) (oi := { dst := some 195, op := Go.Op.load 38 (Go.Operand.tmp 194), type := 38, pos := "law.go:104", after := #[{ on := 5, ground := Go.Ground.data }, { on := 3, ground := Go.Ground.guard }], guard := some (3, true) }) (v := ?cv6) rfl (by kernel_rfl) (by kernel_rfl) (by kernel_rfl) (fun _ _ _ h => h) (Or.inl ⟨by rfl, ?chy6⟩) (by assumption) ?crest6
                      case chy6 =>
                        intro w hSw
                        (try dsimp only at hSw)
                        go_simp
                        try with_reducible rfl
                      try simp only [Act.put, List.setIfInBounds_toArray, List.set_cons_zero, List.set_cons_succ]
                      refine wpAnyH_take (i := 7) (oi := { dst := some 196, op := Go.Op.call { callee := Go.Callee.builtin Go.Builtin.len, args := #[Go.Operand.tmp 195], argTypes := #[38] }, type := 3, pos := "law.go:104", after := #[{ on := 6, ground := Go.Ground.data }, { on := 3, ground := Go.Ground.guard }], guard := some (3, true) }) (v := ?cv7) rfl (by kernel_rfl) (by kernel_rfl) (by kernel_rfl) (fun _ _ _ h => h) (Or.inl ⟨by rfl, ?chy7⟩) (by assumption) ?crest7
                      case chy7 =>
                        intro w hSw
                        (try dsimp only at hSw)
                        go_simp
                        try with_reducible rfl
                      try simp only [Act.put, List.setIfInBounds_toArray, List.set_cons_zero, List.set_cons_succ]
                      refine wpAnyH_take (i := 8) (oi := { dst := some 197, op := Go.Op.binOp Go.BinOp.lss 3 (Go.Operand.tmp 193) (Go.Operand.tmp 196) 3, type := 4, pos := "law.go:104", after := #[{ on := 4, ground := Go.Ground.data }, { on := 7, ground := Go.Ground.data }, { on := 3, ground := Go.Ground.guard }], guard := some (3, true) }) (v := ?cv8) rfl (by kernel_rfl) (by kernel_rfl) (by kernel_rfl) (fun _ _ _ h => h) (Or.inl ⟨by rfl, ?chy8⟩) (by assumption) ?crest8
                      case chy8 =>
                        intro w hSw
                        (try dsimp only at hSw)
                        go_simp
                        try with_reducible rfl
                      try simp only [Act.put, List.setIfInBounds_toArray, List.set_cons_zero, List.set_cons_succ]
                      refine wpAnyH_take (i := 9) (oi := { dst := some 198, op := Go.Op.pick (Go.Operand.tmp 192) (Go.Operand.tmp 197) (Go.Operand.const (Go.Value.bool false)), type := 4, pos := "law.go:104", after := #[{ on := 3, ground := Go.Ground.data }, { on := 8, ground := Go.Ground.data }], guard := none }) (v := ?cv9) rfl (by kernel_rfl) (by kernel_rfl) (by kernel_rfl) (fun _ _ _ h => h) (Or.inl ⟨by rfl, ?chy9⟩) (by assumption) ?crest9
                      case chy9 =>
                        intro w hSw
                        (try dsimp only at hSw)
                        go_simp
                        try with_reducible rfl
                      try simp only [Act.put, List.setIfInBounds_toArray, List.set_cons_zero, List.set_cons_succ]
                      refine wpAnyH_take (i := 10) (oi := { dst := some 199, op := Go.Op.binOp Go.BinOp.neq 4 (Go.Operand.tmp 189) (Go.Operand.tmp 198) 4, type := 4, pos := "law.go:104", after := #[{ on := 0, ground := Go.Ground.data }, { on := 9, ground := Go.Ground.data }], guard := none }) (v := ?cv10) rfl (by kernel_rfl) (by kernel_rfl) (by kernel_rfl) (fun _ _ _ h => h) (Or.inl ⟨by rfl, ?chy10⟩) (by assumption) ?crest10
                      case chy10 =>
                        intro w hSw
                        (try dsimp only at hSw)
                        go_simp
                        try with_reducible rfl
                      try simp only [Act.put, List.setIfInBounds_toArray, List.set_cons_zero, List.set_cons_succ]
                      refine wpAnyH_take (i := 11) (oi := { dst := some 200, op := Go.Op.move (Go.Operand.tmp 199), type := 4, pos := "law.go:104", after := #[{ on := 10, ground := Go.Ground.data }, { on := 3, ground := Go.Ground.chain }], guard := none }) (v := ?cv11) rfl (by kernel_rfl) (by kernel_rfl) (by kernel_rfl) (fun _ _ _ h => h) (Or.inl ⟨by rfl, ?chy11⟩) (by assumption) ?crest11
                      case chy11 =>
                        intro w hSw
                        (try dsimp only at hSw)
                        go_simp
                        try with_reducible rfl
                      try simp only [Act.put, List.setIfInBounds_toArray, List.set_cons_zero, List.set_cons_succ]
                      refine wpAnyH_take (i := 12) (oi := { dst := some 201, op := Go.Op.move (Go.Operand.tmp 21), type := 4, pos := "law.go:104", after := #[{ on := 11, ground := Go.Ground.guard }], guard := some (11, false) }) (v := ?cv12) rfl (by kernel_rfl) (by kernel_rfl) (by kernel_rfl) (fun _ _ _ h => h) (Or.inl ⟨by rfl, ?chy12⟩) (by assumption) ?crest12
                      case chy12 =>
                        intro w hSw
                        (try dsimp only at hSw)
                        go_simp
                        try with_reducible rfl
                      try simp only [Act.put, List.setIfInBounds_toArray, List.set_cons_zero, List.set_cons_succ]
                      refine wpAnyH_take (i := 13) (oi := { dst := some 202, op := Go.Op.move (Go.Operand.tmp 201), type := 4, pos := "law.go:104", after := #[{ on := 12, ground := Go.Ground.data }, { on := 11, ground := Go.Ground.chain }, { on := 11, ground := Go.Ground.guard }], guard := some (11, false) }) (v := ?cv13) rfl (by kernel_rfl) (by kernel_rfl) (by kernel_rfl) (fun _ _ _ h => h) (Or.inl ⟨by rfl, ?chy13⟩) (by assumption) ?crest13
                      case chy13 =>
                        intro w hSw
                        (try dsimp only at hSw)
                        go_simp
                        try with_reducible rfl
                      try simp only [Act.put, List.setIfInBounds_toArray, List.set_cons_zero, List.set_cons_succ]
                      refine wpAnyH_take (i := 14) (oi := { dst := some 203, op := Go.Op.load 29 (Go.Operand.tmp 20), type := 29, pos := "law.go:104", after := #[{ on := 13, ground := Go.Ground.guard }], guard := some (13, true) }) (v := ?cv14) rfl (by kernel_rfl) (by kernel_rfl) (by kernel_rfl) (fun _ _ _ h => h) (Or.inl ⟨by rfl, ?chy14⟩) (by assumption) ?crest14
                      case chy14 =>
                        intro w hSw
                        (try dsimp only at hSw)
                        go_simp
                        try with_reducible rfl
                      try simp only [Act.put, List.setIfInBounds_toArray, List.set_cons_zero, List.set_cons_succ]
                      refine wpAnyH_take (i := 15) (oi := { dst := some 204, op := Go.Op.fieldAddr 40 (Go.Operand.tmp 7) 1, type := 0, pos := "law.go:104", after := #[{ on := 13, ground := Go.Ground.guard }], guard := some (13, true) }) (v := ?cv15) rfl (by kernel_rfl) (by kernel_rfl) (by kernel_rfl) (fun _ _ _ h => h) (Or.inl ⟨by rfl, ?chy15⟩) (by assumption) ?crest15
                      case chy15 =>
                        intro w hSw
                        (try dsimp only at hSw)
                        go_simp
                        try with_reducible rfl
                      try simp only [Act.put, List.setIfInBounds_toArray, List.set_cons_zero, List.set_cons_succ]
                      refine wpAnyH_take (i := 16) (oi := { dst := some 205, op := Go.Op.load 38 (Go.Operand.tmp 204), type := 38, pos := "law.go:104", after := #[{ on := 15, ground := Go.Ground.data }, { on := 13, ground := Go.Ground.guard }], guard := some (13, true) }) (v := ?cv16) rfl (by kernel_rfl) (by kernel_rfl) (by kernel_rfl) (fun _ _ _ h => h) (Or.inl ⟨by rfl, ?chy16⟩) (by assumption) ?crest16
                      case chy16 =>
                        intro w hSw
                        (try dsimp only at hSw)
                        go_simp
                        try with_reducible rfl
                      try simp only [Act.put, List.setIfInBounds_toArray, List.set_cons_zero, List.set_cons_succ]
                      refine wpAnyH_take (i := 17) (oi := { dst := some 206, op := Go.Op.move (Go.Operand.tmp 19), type := 3, pos := "law.go:104", after := #[{ on := 13, ground := Go.Ground.guard }], guard := some (13, true) }) (v := ?cv17) rfl (by kernel_rfl) (by kernel_rfl) (by kernel_rfl) (fun _ _ _ h => h) (Or.inl ⟨by rfl, ?chy17⟩) (by assumption) ?crest17
                      case chy17 =>
                        intro w hSw
                        (try dsimp only at hSw)
                        go_simp
                        try with_reducible rfl
                      try simp only [Act.put, List.setIfInBounds_toArray, List.set_cons_zero, List.set_cons_succ]
                      refine wpAnyH_take (i := 18) (oi := { dst := some 207, op := Go.Op.indexAddr 38 (Go.Operand.tmp 205) (Go.Operand.tmp 206), type := 0, pos := "law.go:104", after := #[{ on := 16, ground := Go.Ground.data }, { on := 17, ground := Go.Ground.data }, { on := 13, ground := Go.Ground.guard }], guard := some (13, true) }) (v := ?cv18) rfl (by kernel_rfl) (by kernel_rfl) (by kernel_rfl) (fun _ _ _ h => h) (Or.inl ⟨by rfl, ?chy18⟩) (by assumption) ?crest18
                      case chy18 =>
                        intro w hSw
                        (try dsimp only at hSw)
                        go_simp
                        try with_reducible rfl
                      try simp only [Act.put, List.setIfInBounds_toArray, List.set_cons_zero, List.set_cons_succ]
                      refine wpAnyH_take (i := 19) (oi := { dst := some 208, op := Go.Op.load 29 (Go.Operand.tmp 207), type := 29, pos := "law.go:104", after := #[{ on := 18, ground := Go.Ground.data }, { on := 13, ground := Go.Ground.guard }], guard := some (13, true) }) (v := ?cv19) rfl (by kernel_rfl) (by kernel_rfl) (by kernel_rfl) (fun _ _ _ h => h) (Or.inl ⟨by rfl, ?chy19⟩) (by assumption) ?crest19
                      case chy19 =>
                        intro w hSw
                        (try dsimp only at hSw)
                        go_simp
                        try with_reducible rfl
                      try simp only [Act.put, List.setIfInBounds_toArray, List.set_cons_zero, List.set_cons_succ]
                      refine wpAnyH_ready (rs := [20]) (by kernel_rfl) (by simp) ?_
                      refine AllReadyH.cons (o := { dst := some 209, op := Go.Op.call { callee := Go.Callee.value (Go.Operand.func 24), args := #[Go.Operand.tmp 203, Go.Operand.tmp 208], argTypes := #[29, 29] }, type := 4, pos := "law.go:104", after := #[{ on := 14, ground := Go.Ground.data }, { on := 19, ground := Go.Ground.data }, { on := 13, ground := Go.Ground.chain }, { on := 13, ground := Go.Ground.guard }], guard := some (13, true) }) rfl (fun K hK => ?_) AllReadyH.nil
                      go_simp
                      go_at_call 24
                      refine (samegr_any _ _ z ⟨_, rfl, hbs7.drew⟩ ⟨_, rfl, hbu.drew⟩).mono ?_
                      rintro e w8 ⟨rfl, hb8'⟩
                      have hb8 := of_drew6 hb8'
                      obtain ⟨⟨f0, f1, f2⟩, -⟩ := box3 (heap_below hq7 hb8)
                      obtain ⟨⟨s0, s1⟩, -⟩ := box2 (heap_below HB7.out hb8)
                      have r0 := (hb8.cell (p := ⟨g, k * 3, none⟩) hgW).trans t0
                      have r1 := (hb8.cell (p := ⟨g, k * 3 + 1, none⟩) hgW).trans t1
                      have r2 := (hb8.cell (p := ⟨g, k * 3 + 2, none⟩) hgW).trans t2
                      first
                        | (refine hK.out _ _ ⟨⟨⟨f0, f1, f2⟩, ⟨r0, r1, r2⟩⟩, s1⟩ (fun hHeld2 => ?_))
                        | (go_wp2_with fail
                           refine hK.out _ _ ⟨⟨⟨f0, f1, f2⟩, ⟨r0, r1, r2⟩⟩, s1⟩ (fun hHeld2 => ?_))
                      clear hK K
                      try simp only [Act.put, List.setIfInBounds_toArray, List.set_cons_zero, List.set_cons_succ]
                      refine wpAnyH_take (i := 21) (oi := { dst := some 210, op := Go.Op.unOp Go.UnOp.not 4 (Go.Operand.tmp 209), type := 4, pos := "law.go:104", after := #[{ on := 20, ground := Go.Ground.data }, { on := 13, ground := Go.Ground.guard }], guard := some (13, true) }) (v := ?cv21) rfl (by kernel_rfl) (by kernel_rfl) (by kernel_rfl) (fun _ _ _ h => h) (Or.inl ⟨by rfl, ?chy21⟩) (by assumption) ?crest21
                      case chy21 =>
                        intro w hSw
                        (try dsimp only at hSw)
                        go_simp
                        try with_reducible rfl
                      try simp only [Act.put, List.setIfInBounds_toArray, List.set_cons_zero, List.set_cons_succ]
                      refine wpAnyH_take (i := 22) (oi := { dst := some 211, op := Go.Op.pick (Go.Operand.tmp 202) (Go.Operand.tmp 210) (Go.Operand.const (Go.Value.bool false)), type := 4, pos := "law.go:104", after := #[{ on := 13, ground := Go.Ground.data }, { on := 21, ground := Go.Ground.data }, { on := 11, ground := Go.Ground.guard }], guard := some (11, false) }) (v := ?cv22) rfl (by kernel_rfl) (by kernel_rfl) (by kernel_rfl) (fun _ _ _ h => h) (Or.inl ⟨by rfl, ?chy22⟩) (by assumption) ?crest22
                      case chy22 =>
                        intro w hSw
                        (try dsimp only at hSw)
                        go_simp
                        try with_reducible rfl
                      try simp only [Act.put, List.setIfInBounds_toArray, List.set_cons_zero, List.set_cons_succ]
                      refine wpAnyH_take (i := 23) (oi := { dst := some 212, op := Go.Op.pick (Go.Operand.tmp 200) (Go.Operand.const (Go.Value.bool true)) (Go.Operand.tmp 211), type := 4, pos := "law.go:104", after := #[{ on := 11, ground := Go.Ground.data }, { on := 22, ground := Go.Ground.data }], guard := none }) (v := ?cv23) rfl (by kernel_rfl) (by kernel_rfl) (by kernel_rfl) (fun _ _ _ h => h) (Or.inl ⟨by rfl, ?chy23⟩) (by assumption) ?crest23
                      case chy23 =>
                        intro w hSw
                        (try dsimp only at hSw)
                        go_simp
                        try with_reducible rfl
                      try simp only [Act.put, List.setIfInBounds_toArray, List.set_cons_zero, List.set_cons_succ]
                      refine wpAnyH_take (i := 24) (oi := { dst := some 213, op := Go.Op.move (Go.Operand.tmp 212), type := 4, pos := "law.go:104", after := #[{ on := 23, ground := Go.Ground.data }, { on := 20, ground := Go.Ground.chain }], guard := none }) (v := ?cv24) rfl (by kernel_rfl) (by kernel_rfl) (by kernel_rfl) (fun _ _ _ h => h) (Or.inl ⟨by rfl, ?chy24⟩) (by assumption) ?crest24
                      case chy24 =>
                        intro w hSw
                        (try dsimp only at hSw)
                        go_simp
                        try with_reducible rfl
                      try simp only [Act.put, List.setIfInBounds_toArray, List.set_cons_zero, List.set_cons_succ]
                      refine wpAnyH_take (i := 25) (oi := { dst := some 214, op := Go.Op.move (Go.Operand.tmp 21), type := 4, pos := "law.go:104", after := #[{ on := 24, ground := Go.Ground.guard }], guard := some (24, false) }) (v := ?cv25) rfl (by kernel_rfl) (by kernel_rfl) (by kernel_rfl) (fun _ _ _ h => h) (Or.inl ⟨by rfl, ?chy25⟩) (by assumption) ?crest25
                      case chy25 =>
                        intro w hSw
                        (try dsimp only at hSw)
                        go_simp
                        try with_reducible rfl
                      try simp only [Act.put, List.setIfInBounds_toArray, List.set_cons_zero, List.set_cons_succ]
                      refine wpAnyH_take (i := 26) (oi := { dst := some 215, op := Go.Op.unOp Go.UnOp.not 4 (Go.Operand.tmp 214), type := 4, pos := "law.go:104", after := #[{ on := 25, ground := Go.Ground.data }, { on := 24, ground := Go.Ground.guard }], guard := some (24, false) }) (v := ?cv26) rfl (by kernel_rfl) (by kernel_rfl) (by kernel_rfl) (fun _ _ _ h => h) (Or.inl ⟨by rfl, ?chy26⟩) (by assumption) ?crest26
                      case chy26 =>
                        intro w hSw
                        (try dsimp only at hSw)
                        go_simp
                        try with_reducible rfl
                      try simp only [Act.put, List.setIfInBounds_toArray, List.set_cons_zero, List.set_cons_succ]
                      refine wpAnyH_take (i := 27) (oi := { dst := some 216, op := Go.Op.move (Go.Operand.tmp 215), type := 4, pos := "law.go:104", after := #[{ on := 26, ground := Go.Ground.data }, { on := 24, ground := Go.Ground.chain }, { on := 24, ground := Go.Ground.guard }], guard := some (24, false) }) (v := ?cv27) rfl (by kernel_rfl) (by kernel_rfl) (by kernel_rfl) (fun _ _ _ h => h) (Or.inl ⟨by rfl, ?chy27⟩) (by assumption) ?crest27
                      case chy27 =>
                        intro w hSw
                        (try dsimp only at hSw)
                        go_simp
                        try with_reducible rfl
                      try simp only [Act.put, List.setIfInBounds_toArray, List.set_cons_zero, List.set_cons_succ]
                      refine wpAnyH_take (i := 28) (oi := { dst := some 217, op := Go.Op.load 29 (Go.Operand.tmp 20), type := 29, pos := "law.go:104", after := #[{ on := 27, ground := Go.Ground.guard }], guard := some (27, true) }) (v := undef) rfl (by kernel_rfl) (by kernel_rfl) (by kernel_rfl) (fun _ _ _ h => h) (Or.inr ⟨by rfl, rfl⟩) (by assumption) ?_
                      try simp only [Act.put, List.setIfInBounds_toArray, List.set_cons_zero, List.set_cons_succ]
                      refine wpAnyH_take (i := 29) (oi := { dst := some 218, op := Go.Op.build 29 #[], type := 29, pos := "law.go:104", after := #[{ on := 27, ground := Go.Ground.guard }], guard := some (27, true) }) (v := undef) rfl (by kernel_rfl) (by kernel_rfl) (by kernel_rfl) (fun _ _ _ h => h) (Or.inr ⟨by rfl, rfl⟩) (by assumption) ?_
                      try simp only [Act.put, List.setIfInBounds_toArray, List.set_cons_zero, List.set_cons_succ]
                      refine wpAnyH_take (i := 30) (oi := { dst := some 219, op := Go.Op.call { callee := Go.Callee.value (Go.Operand.func 24), args := #[Go.Operand.tmp 217, Go.Operand.tmp 218], argTypes := #[29, 29] }, type := 4, pos := "law.go:104", after := #[{ on := 28, ground := Go.Ground.data }, { on := 29, ground := Go.Ground.data }, { on := 27, ground := Go.Ground.chain }, { on := 27, ground := Go.Ground.guard }], guard := some (27, true) }) (v := undef) rfl (by kernel_rfl) (by kernel_rfl) (by kernel_rfl) (fun _ _ _ h => h) (Or.inr ⟨by rfl, rfl⟩) (by assumption) ?_
                      try simp only [Act.put, List.setIfInBounds_toArray, List.set_cons_zero, List.set_cons_succ]
                      refine wpAnyH_take (i := 31) (oi := { dst := some 220, op := Go.Op.unOp Go.UnOp.not 4 (Go.Operand.tmp 219), type := 4, pos := "law.go:104", after := #[{ on := 30, ground := Go.Ground.data }, { on := 27, ground := Go.Ground.guard }], guard := some (27, true) }) (v := undef) rfl (by kernel_rfl) (by kernel_rfl) (by kernel_rfl) (fun _ _ _ h => h) (Or.inr ⟨by rfl, rfl⟩) (by assumption) ?_
                      try simp only [Act.put, List.setIfInBounds_toArray, List.set_cons_zero, List.set_cons_succ]
                      refine wpAnyH_take (i := 32) (oi := { dst := some 221, op := Go.Op.pick (Go.Operand.tmp 216) (Go.Operand.tmp 220) (Go.Operand.const (Go.Value.bool false)), type := 4, pos := "law.go:104", after := #[{ on := 27, ground := Go.Ground.data }, { on := 31, ground := Go.Ground.data }, { on := 24, ground := Go.Ground.guard }], guard := some (24, false) }) (v := ?cv32) rfl (by kernel_rfl) (by kernel_rfl) (by kernel_rfl) (fun _ _ _ h => h) (Or.inl ⟨by rfl, ?chy32⟩) (by assumption) ?crest32
                      case chy32 =>
                        intro w hSw
                        (try dsimp only at hSw)
                        go_simp
                        try with_reducible rfl
                      try simp only [Act.put, List.setIfInBounds_toArray, List.set_cons_zero, List.set_cons_succ]
                      refine wpAnyH_take (i := 33) (oi := { dst := some 222, op := Go.Op.pick (Go.Operand.tmp 213) (Go.Operand.const (Go.Value.bool true)) (Go.Operand.tmp 221), type := 4, pos := "law.go:104", after := #[{ on := 24, ground := Go.Ground.data }, { on := 32, ground := Go.Ground.data }], guard := none }) (v := ?cv33) rfl (by kernel_rfl) (by kernel_rfl) (by kernel_rfl) (fun _ _ _ h => h) (Or.inl ⟨by rfl, ?chy33⟩) (by assumption) ?crest33
                      case chy33 =>
                        intro w hSw
                        (try dsimp only at hSw)
                        go_simp
                        try with_reducible rfl
                      try simp only [Act.put, List.setIfInBounds_toArray, List.set_cons_zero, List.set_cons_succ]
                      refine wpAnyH_done (by kernel_rfl) ?_ _
                      clear hHeld hHeld2 c0 c1 c2 t0 t1 t2 f0 f1 f2 r0 r1 r2 z0 z1 s0 s1
                      go_wp2_with fail
                      go_roundw
                      case rel => exact ⟨(k : Int) + 1, by omega, by omega, by go_num, nxt hbw7 hb8⟩
                      case measure => simp [intOf]; omega
                · have d1 : decide (q ≤ (m : Int)) = false := decide_eq_false hle
                  have H2q := HY.out.below hbq
                  clear HY HBY HBq hbq
                  go_wp2_with fail
                  go_roundw
                  case rel => exact ⟨j + 1, _, _, L, by omega, by omega, by go_num, H2q⟩
                  case measure => simp [intOf]; omega
        · have d1 : decide ((x.d.length : Int) > 200) = true := decide_eq_true (by omega)
          have d2 : decide (200 < x.d.length) = true := decide_eq_true (by omega)
          clear c0 c1 c2 c3
          go_wp2_with fail
          go_roundw
          case rel => exact ⟨j + 1, r, v, L, by omega, by omega, by go_num, H28.out⟩
          case measure => simp [intOf]; omega
      | false =>
        clear HG HL hc hcm hbb
        go_wp2_with fail
        refine (awake06_any _).mono ?_
        rintro e w12 ⟨rfl, hb12⟩
        go_wp2_with fail
        go_ret
        exact ⟨rfl, nxt h2.bl hb12⟩

set_option maxRecDepth 100000 in
theorem lifted (os : Os) (started : os.Started) (H : Type) (enc : TypeId × Value → H) :
    ReturnsInHanded {} Try.checked os 4 .any (Rows.netPlaysSpec.pre6 enc Try.prog Try.f4 Rows.netPlaysRow.domain false) (Rows.netPlaysSpec.post enc Try.prog Try.f4 false true false false) := by
  refine returnsInHanded_of_change (C := Try.checked) knob_own started (by kernel_rfl) Try.func4
    (ChangeSpec.witness6 (enc := enc) (C := Try.checked) false ⟨#[], #[.int .i64 0, .slice none 0 0], []⟩ 8 (by kernel_rfl) (by kernel_rfl) (by kernel_rfl) (by kernel_rfl)) ?_
  intro W base args ds gs before hval0 hW hcnd _
  have hval : ∀ (j : Nat) t v, Try.f4.params[j]? = some t → args[j]? = some v → Value.okWide Try.prog W .any base t v := hval0
  have hW' := hW
  obtain ⟨p, q, hA0, hV, rfl, hfz, hnd⟩ := hW
  have hA : DataW.TrodAll enc Try.prog W 0 (fun _ => true) true Try.f4.params.toList args.toList ds p := hA0
  rw [Try.params4] at hA hval
  obtain ⟨v0, vs0, d0, ds0, p0, q0, hargs, rfl, rfl, h0, r0⟩ := trodAll_cons hA
  obtain ⟨v1, vs1, d1, ds1, p1, q1, rfl, rfl, rfl, h1, r1⟩ := trodAll_cons r0
  obtain ⟨rfl, rfl, rfl⟩ := trodAll_nil r1
  obtain rfl : args = #[v0, v1] := by cases args; simp_all
  obtain ⟨rfl, rfl⟩ := trodVars_none hV
  have lt0 : ∀ x ∈ p0, x.block < W.heap.size := by obtain ⟨m, hm⟩ := h0; exact DataW.trod_lt m _ _ _ hm
  have k0 := h0
  obtain ⟨a0, rfl, _, _, w0⟩ := open_int Try.underlying3 (hval 0 3 v0 rfl rfl) h0
  obtain ⟨a1, n1, c1, rfl⟩ := okWide_slice Try.underlying37 (hval 1 37 v1 rfl rfl)
  have k1 := h1
  have lt1 : ∀ x ∈ p1, x.block < W.heap.size := by obtain ⟨m, hm⟩ := k1; exact DataW.trod_lt m _ _ _ hm
  have w1 := ops6_open h1
  clear hA0 hval0
  refine (walk W a0 a1 n1 c1 w0 w1).mono fun e W' ⟨he, bel⟩ => ?_
  subst he
  exact ⟨_, rfl, _, _, _, [], _, [], hW', trodAll_mk1 (shut_bool Try.underlying4 _), (trodAll_cons_mk (Below.trod laid_out (by kernel_rfl) (of_decide_eq_true (by kernel_rfl)) k0 bel lt0) (trodAll_cons_mk (Below.trod laid_out (by kernel_rfl) (of_decide_eq_true (by kernel_rfl)) k1 bel lt1) (trodAll_mk0))), rfl, bel.frame _, fun h => by cases h⟩

theorem over : Rows.netPlaysRow.holds Try.pinned (OpenSpec.ofChange Rows.netPlaysSpec) :=
  OpenClaim.holds_of_wide 4 Try.f4 rfl rfl rfl rfl rfl rfl rfl ⟨rfl, rfl, rfl, rfl, rfl⟩ rfl rfl rfl rfl rfl (by kernel_rfl) Try.func4 (by kernel_rfl)
    (of_decide_eq_true (by kernel_rfl)) (by unfold Func.isWrapper; first | (rw [if_pos (by decide +kernel)]; kernel_rfl) | (rw [if_neg (by decide +kernel)]; exact ⟨rfl, rfl⟩))
    (fun os started H enc _ => lifted os started H enc)

theorem proved : Rows.NetPlaysSaid := over
end Go.Proofs.Ytcaddokedkndmaa.netPlays
