/- droverref06's net: New, without, Send, Take, Copy, Forget: the walks. -/
import Derived.Test.YtcaddokedkndmaaNk
import Derived.Deep.RegionLaw
import Derived.Deep.RegionHeld3
namespace Go.Proofs.Ytcaddokedkndmaa
open Go.RowKit
set_option linter.unusedVariables false

section
variable {w w' : World} {base : Nat} {l : List Gr} {v : Value}
theorem box2 {w : World} {g : Nat} {y0 y1 : Value} {T : TypeId} (h : w.heap[g]? = some (.cells #[y0, y1] T (0, 0))) :
    (w.cell? ⟨g, 0, none⟩ = some y0 ∧ w.cell? ⟨g, 1, none⟩ = some y1) ∧ (w.frozen? ⟨g, 0, none⟩ = false ∧ w.frozen? ⟨g, 1, none⟩ = false) :=
  ⟨⟨cell_block h 0, cell_block h 1⟩, free_block h 0, free_block h 1⟩
theorem GR.other {g i : Nat} {C : Array Value} {T : TypeId} {fr : Nat × Nat} (h : GR w base v l) (hp : w.heap[g]? = some (.cells C T fr)) (h1 : T ≠ 5) (h2 : T ≠ 29) (hb : base ≤ g) (u : Value) : GR (w.setCell ⟨g, i, none⟩ u) base v l :=
  h.keep (by simp [World.setCell]) (fun b k1 _ => Below.heap_setCell _ _ _ _ (show b ≠ g by omega))
    (fun b cur fr' k => Below.heap_setCell _ _ _ _ (fun e => by subst e; rw [hp] at k; simp at k; exact h1 k.2.1))
    (fun b cur fr' _ k => Below.heap_setCell _ _ _ _ (fun e => by subst e; rw [hp] at k; simp at k; exact h2 k.2.1))
/-- A net of the document's as a value. -/
def OwnN (w0 : World) (v0 v : Value) : Prop := v.ownBlock = v0.ownBlock ∨ ∀ g, v.ownBlock = some g → w0.heap.size ≤ g
def RfN (w0 : World) (v0 : Value) (w : World) (base : Nat) (N : Int) (e : Value) (l : List Gr) : Prop := ∃ v, e = .agg #[.int .i64 N, v] ∧ GR w base v l ∧ OwnN w0 v0 v
def RnewP (n : Int) (w : World) (e : Ending) (w' : World) : Prop := Below w.heap.size w w' ∧ ((¬ (1 ≤ n ∧ n ≤ 16) ∧ e = .returned (.tuple #[.agg #[.int .i64 0, .slice none 0 0], .int .i64 2])) ∨ ((1 ≤ n ∧ n ≤ 16) ∧ e = .returned (.tuple #[.agg #[.int .i64 n, .slice none 0 0], .int .i64 0])))
theorem rnew_any (n : Int) (w : World) : Calls Try.prog 18 #[.int .i64 n] w fun e w' => RnewP n w e w' := by
  have hW : ∀ o, Below w.heap.size w (w.alloc o) := fun o => (Below.refl w.heap.size w).alloc (Nat.le_refl _) o
  by_cases h1 : n < 1
  · have d1 : decide (n < 1) = true := decide_eq_true h1
    obtain ⟨⟨y0, y1⟩, -⟩ := box2 (heap_new w (.cells #[.int .i64 0, .slice none 0 0] 40))
    go_enter Try.func18, Try.ntmps18
    go_wp2_with fail
    refine bodyPost_ret (v := .tuple #[.agg #[.int .i64 0, .slice none 0 0], .int .i64 2]) (by simp [results, Try.results18, go_sem, y0, y1]) rfl ?_
    exact ⟨hW _, Or.inl ⟨by omega, rfl⟩⟩
  · have d1 : decide (n < 1) = false := decide_eq_false h1
    by_cases h2 : n > 16
    · have d2 : decide (n > 16) = true := decide_eq_true h2
      obtain ⟨⟨y0, y1⟩, -⟩ := box2 (heap_new w (.cells #[.int .i64 0, .slice none 0 0] 40))
      go_enter Try.func18, Try.ntmps18
      go_wp2_with fail
      refine bodyPost_ret (v := .tuple #[.agg #[.int .i64 0, .slice none 0 0], .int .i64 2]) (by simp [results, Try.results18, go_sem, y0, y1]) rfl ?_
      exact ⟨hW _, Or.inl ⟨by omega, rfl⟩⟩
    · have d2 : decide (n > 16) = false := decide_eq_false h2
      obtain ⟨⟨y0, y1⟩, -⟩ := box2 (heap_new w (.cells #[.int .i64 n, .slice none 0 0] 40))
      go_enter Try.func18, Try.ntmps18
      go_wp2_with fail
      refine bodyPost_ret (v := .tuple #[.agg #[.int .i64 n, .slice none 0 0], .int .i64 0]) (by simp [results, Try.results18, go_sem, y0, y1]) rfl ?_
      exact ⟨hW _, Or.inr ⟨by omega, rfl⟩⟩
theorem era_skip (l : List Gr) (k : Nat) (x : Gr) (hx : l[k]? = some x) : (l.take (k + 1)).eraseIdx k = (l.take k).eraseIdx k := by
  have hk := (List.getElem?_eq_some_iff.1 hx).1
  have hlen : (l.take k).length = k := by rw [List.length_take]; omega
  rw [gr_snoc l k x hx, List.eraseIdx_append_of_length_le (by omega), hlen, Nat.sub_self, List.eraseIdx_of_length_le (l := l.take k) (by omega)]
  simp
theorem era_snoc (l : List Gr) (k j : Nat) (x : Gr) (hx : l[j]? = some x) (hne : j ≠ k) : (l.take (j + 1)).eraseIdx k = (l.take j).eraseIdx k ++ [x] := by
  have hj := (List.getElem?_eq_some_iff.1 hx).1
  have hlen : (l.take j).length = j := by rw [List.length_take]; omega
  rw [gr_snoc l j x hx]
  by_cases h : k < j
  · rw [List.eraseIdx_append_of_lt_length (by omega)]
  · rw [List.eraseIdx_of_length_le (l := l.take j ++ [x]) (by rw [List.length_append, hlen]; simp; omega), List.eraseIdx_of_length_le (l := l.take j) (by omega)]
set_option maxRecDepth 100000 in
set_option maxHeartbeats 1600000 in
theorem rwithout_any (N : Int) (k n : Nat) (hv : GR w base v l) (hb : base ≤ w.heap.size) (hn : l.length = n) (hl : n ≤ 4096) (hk : k < n) :
    Calls Try.prog 37 #[.agg #[.int .i64 N, v], .int .i64 (k : Int)] w fun e w' => ∃ u, e = .returned u ∧ RfN w v w' base N u (l.eraseIdx k) ∧ Below w.heap.size w w' := by
  have hW := two w (.cells #[.int .i64 N, v] 40) (.cells #[.int .i64 0, .slice none 0 0] 40)
  have hq := heap_old (heap_new w (.cells #[.int .i64 N, v] 40)) (.cells #[.int .i64 0, .slice none 0 0] 40)
  have hr := heap_new' (w.alloc (.cells #[.int .i64 N, v] 40)) (.cells #[.int .i64 0, .slice none 0 0] 40) (w.heap.size + 1) (by simp)
  obtain ⟨A, c, rfl, hc, hcm⟩ := hv.slice
  unfold maxLen at hcm
  rw [hn] at hc
  have HV := Lib.hid (hv.below hW)
  rw [show (Value.slice A l.length c) = .slice A n c by rw [hn]] at HV hW hq hr ⊢
  have HNn := Lib.hid hn
  clear hv hn
  go_enter Try.func37, Try.ntmps37
  go_wp2_with fail
  obtain ⟨W0, hW0⟩ : ∃ W0, W0 = (w.alloc (.cells #[.int .i64 N, .slice A n c] 40)).alloc (.cells #[.int .i64 0, .slice none 0 0] 40) := ⟨_, rfl⟩
  rw [← hW0] at HV hW hq hr ⊢
  clear hW0
  have HQ := Lib.hid hq
  have HR := Lib.hid hr
  have hsz := hW.size
  clear hq hr
  go_loopw [5, 6] (fun vr i wr => ∃ j : Nat, j ≤ n ∧ i = .int .i64 (j : Int) ∧ Below W0.heap.size W0 wr ∧ Hid (GR wr base vr ((l.take j).eraseIdx k)) ∧ Hid (New W0 vr)) (fun _ i _ => n - (intOf i).toNat)
  case atStart => exact ⟨0, by omega, rfl, Below.refl _ _, Lib.hid (by simpa using GR.nil _ _), Lib.hid (New.nil _)⟩
  case round =>
    obtain ⟨j, hj, rfl, hbr, HRr, HW⟩ := hrel
    obtain ⟨⟨z0, z1⟩, -⟩ := box2 (heap_below HQ.out hbr)
    by_cases hlt : j < n
    · have hjl : j < l.length := by have := HNn.out; omega
      obtain ⟨x, hx⟩ : ∃ x, Hid (l[j]? = some x) := ⟨l[j], Lib.hid (List.getElem?_eq_getElem hjl)⟩
      have hGa := HV.out.below hbr
      obtain ⟨g, u, rfl, t0, t1, t2, hbx⟩ := hGa.cell hx.out
      have hu1 : u.oneCell' = true := by obtain ⟨⟨A', c', rfl, -⟩, -⟩ := hbx; rfl
      have hgr := (hGa.blk (g := g) rfl).2.1
      have HBX := Lib.hid hbx
      clear hjl hGa hbx
      by_cases hjk : j = k
      · have d1 : ((j : Int) != (k : Int)) = false := by rw [hjk]; simp
        have hrs : (l.take (j + 1)).eraseIdx k = (l.take j).eraseIdx k := by subst hjk; exact era_skip l j x hx.out
        clear hjk
        go_wp2_with fail
        go_roundw
        case rel => exact ⟨j + 1, by omega, by go_num, hbr, by rw [hrs]; exact HRr, HW⟩
        case measure => simp [intOf]; omega
      · have d1 : ((j : Int) != (k : Int)) = true := bne_iff_ne.2 (by omega)
        have hrs := era_snoc l k j x hx.out hjk
        clear hjk
        obtain ⟨Ar, cr, rfl, hcr, hcmr⟩ := HRr.out.slice
        have hrl : ((l.take j).eraseIdx k).length ≤ j := Nat.le_trans (List.length_eraseIdx_le ..) (by rw [List.length_take]; omega)
        obtain ⟨m, hm⟩ : ∃ m, Hid (((l.take j).eraseIdx k).length = m) := ⟨_, Lib.hid rfl⟩
        rw [show (Value.slice Ar ((l.take j).eraseIdx k).length cr) = .slice Ar m cr by rw [hm.out]] at HRr HW ⊢
        rw [hm.out] at hcr hrl
        unfold maxLen at hcmr
        have hbA := (Below.refl wr.heap.size wr).alloc (Nat.le_refl _) (.cells #[.int .i64 x.fr, .int .i64 x.to, u] 29)
        have hbB := nxt hbr hbA
        have hRA := Lib.hid (HRr.out.below hbA)
        have hat := gm_at wr (.int .i64 x.fr) (.int .i64 x.to) u
        have HCS := Lib.hid (Gcs.one (x := x) (HBX.out.below hbA))
        have H1 := Lib.hid (gm_ones (y0 := .int .i64 x.fr) (y1 := .int .i64 x.to) rfl rfl hu1)
        have hszr := hbr.size
        clear hbr hbA hu1
        go_wp2_with (at_builtin
                     refine wpList_gr rfl (.tmp 17) (.tmp 23) rfl rfl hRA.out rfl hat rfl HCS.out rfl H1.out (by have := hm.out; omega) (by simp; omega) ?_
                     intro v10 w10 hG10 hg10 hr10 hn10)
        rw [← hrs] at hG10
        have hb10 : Below W0.heap.size W0 w10 := below_row hbB hg10 (by simp; omega) (fun g hg => HW.out g hg)
        have hW10 := HW.out.grown (by simp; omega) hn10
        clear hg10 hr10 hn10 hat hbB z0 z1
        obtain ⟨⟨z0, z1⟩, -⟩ := box2 (heap_below HQ.out hb10)
        go_wp2_with fail
        go_roundw
        case rel => exact ⟨j + 1, by omega, by go_num, hb10, Lib.hid hG10, Lib.hid hW10⟩
        case measure => simp [intOf]; omega
    · obtain rfl : j = n := by omega
      rw [List.take_of_length_le (by have := HNn.out; omega)] at HRr
      obtain ⟨Ar, cr, rfl, -, -⟩ := HRr.out.slice
      obtain ⟨m, hm⟩ : ∃ m, Hid ((l.eraseIdx k).length = m) := ⟨_, Lib.hid rfl⟩
      rw [show (Value.slice Ar (l.eraseIdx k).length cr) = .slice Ar m cr by rw [hm.out]] at HRr HW ⊢
      have hq2 := heap_below HQ.out hbr
      have hr2 := heap_below HR.out hbr
      obtain ⟨-, f0, f1⟩ := box2 hq2
      obtain ⟨⟨r0, r1⟩, p0, p1⟩ := box2 hr2
      have hne : w.heap.size + 1 ≠ w.heap.size := by omega
      have hq3 := heap_set hq2 1 (.slice Ar m cr)
      have hr3 := heap_set_ne hr2 hne 1 (.slice Ar m cr)
      obtain ⟨⟨a0, a1⟩, -⟩ := box2 hq3
      obtain ⟨-, e0, e1⟩ := box2 hr3
      have hr4 := heap_set hr3 0 (.int .i64 N)
      have hr5 := heap_set hr4 1 (.slice Ar m cr)
      obtain ⟨⟨b0, b1⟩, -⟩ := box2 hr5
      have hbw := nxt hW hbr
      have HG5 := Lib.hid (((HRr.out.other (i := 1) hq2 (by decide) (by decide) hb (.slice Ar m cr)).other (i := 0) hr3 (by decide) (by decide) (by omega) (.int .i64 N)).other (i := 1) hr4 (by decide) (by decide) (by omega) (.slice Ar m cr))
      have HB5 := Lib.hid (((hbw.setCell (p := ⟨w.heap.size, 1, none⟩) (Nat.le_refl _) (.slice Ar m cr)).setCell (p := ⟨w.heap.size + 1, 0, none⟩) (by simp) (.int .i64 N)).setCell (p := ⟨w.heap.size + 1, 1, none⟩) (by simp) (.slice Ar m cr))
      clear hq2 hr2 hq3 hr3 hr4 hr5 hbr hbw HRr
      go_wp2_with fail
      refine bodyPost_ret (v := .agg #[.int .i64 N, (.slice Ar m cr)]) (by simp [results, Try.results37, go_sem, b0, b1]) rfl ?_
      exact ⟨_, rfl, ⟨_, rfl, HG5.out, Or.inr (fun g hg => by have := HW.out g hg; have := hW.size; omega)⟩, HB5.out⟩
set_option maxRecDepth 100000 in
set_option maxHeartbeats 1600000 in
theorem rsend_ok (N : Nat) (fr tt : Int) (d : Value) (x : List Nat) (hv : GR w base v l) (hb : base ≤ w.heap.size) (hd : Bx w base d x) (hE : sendE N l fr tt x = 0) :
    Calls Try.prog 19 #[.agg #[.int .i64 (N : Int), v], .int .i64 fr, .int .i64 tt, d] w fun e w' => ∃ u, e = .returned (.tuple #[u, .int .i64 0]) ∧ RfN w v w' base N u (l ++ [⟨fr, tt, x⟩]) ∧ Below w.heap.size w w' := by
  unfold sendE at hE
  have b1 : hasB N fr = true := by cases hb : hasB N fr <;> simp_all
  have b2 : hasB N tt = true := by cases hb : hasB N tt <;> simp_all
  rw [b1, if_neg (by simp), b2, if_neg (by simp)] at hE
  have b3 : ¬ 1048640 < x.length := fun h => by rw [if_pos h] at hE; simp at hE
  rw [if_neg b3] at hE
  have b4 : ¬ 4096 ≤ l.length := fun h => by rw [if_pos h] at hE; simp at hE
  unfold hasB at b1 b2
  rw [Bool.and_eq_true] at b1 b2
  have d1 : decide (fr < 0) = false := decide_eq_false (by have := of_decide_eq_true b1.1; omega)
  have d2 : decide (fr ≥ (N : Int)) = false := decide_eq_false (by have := of_decide_eq_true b1.2; omega)
  have d3 : decide (tt < 0) = false := decide_eq_false (by have := of_decide_eq_true b2.1; omega)
  have d4 : decide (tt ≥ (N : Int)) = false := decide_eq_false (by have := of_decide_eq_true b2.2; omega)
  have d2' : decide ((N : Int) ≤ fr) = false := d2
  have d4' : decide ((N : Int) ≤ tt) = false := d4
  have d5 : decide ((x.length : Int) > 1048640) = false := decide_eq_false (by omega)
  have d6 : decide (1048640 < x.length) = false := decide_eq_false b3
  have hx3 : x.length ≤ 1048640 := by omega
  clear b1 b2 hE b3
  have hW := two w (.cells #[.int .i64 (N : Int), v] 40) (.cells #[.int .i64 0, .slice none 0 0] 40)
  have hq := heap_old (heap_new w (.cells #[.int .i64 (N : Int), v] 40)) (.cells #[.int .i64 0, .slice none 0 0] 40)
  have hr := heap_new' (w.alloc (.cells #[.int .i64 (N : Int), v] 40)) (.cells #[.int .i64 0, .slice none 0 0] 40) (w.heap.size + 1) (by simp)
  obtain ⟨A, c, rfl, hc, hcm⟩ := hv.slice
  unfold maxLen at hcm
  obtain ⟨n, hn⟩ : ∃ n, Hid (l.length = n) := ⟨_, Lib.hid rfl⟩
  have HV := Lib.hid (hv.below hW)
  rw [show (Value.slice A l.length c) = .slice A n c by rw [hn.out]] at HV hW hq hr ⊢
  rw [hn.out] at b4 hc
  have HX := Lib.hid (hd.below hW)
  have h8 := Lib.hid hd.2
  obtain ⟨⟨Ad, cd, rfl, hcd, -⟩, -⟩ := id hd
  have d7 : decide ((n : Int) ≥ 4096) = false := decide_eq_false (by omega)
  have d8 : decide (4096 ≤ n) = false := decide_eq_false b4
  have hn4 : n < 4096 := by omega
  obtain ⟨⟨z0, z1⟩, -⟩ := box2 hq
  clear hv hd b4
  go_enter Try.func19, Try.ntmps19
  go_upto_region 9 with fail
  obtain ⟨W0, hW0⟩ : ∃ W0, W0 = (w.alloc (.cells #[.int .i64 (N : Int), .slice A n c] 40)).alloc (.cells #[.int .i64 0, .slice none 0 0] 40) := ⟨_, rfl⟩
  rw [← hW0] at HV hW hq hr HX z0 z1 ⊢
  clear hW0 d1 d2 d3 d4 d2' d4' d5 d6 d7 d8
  have HQ := Lib.hid hq
  have HR := Lib.hid hr
  have hsz := hW.size
  clear hq hr
  obtain ⟨ys, hat, hcs, hyl, hon⟩ := HV.out.first n (by rw [hn.out]; exact Nat.le_refl _)
  rw [List.take_of_length_le (by rw [hn.out]; exact Nat.le_refl _)] at hcs
  have HA := Lib.hid hat
  have HC := Lib.hid hcs
  have HY := Lib.hid hyl
  have HO := Lib.hid hon
  clear hat hcs hyl hon
  go_upto_region 10 with (at_builtin
                          refine wpList_gr (base := base) rfl (.tmp 40) (.tmp 42) rfl rfl (GR.nil _ _) rfl HA.out hn.out HC.out HY.out HO.out (by simp; omega) (by omega) ?_
                          intro v10 w10 hG10 hg10 hr10 hn10)
  rw [List.nil_append] at hG10
  have hb10 : Below W0.heap.size W0 w10 := below_row (Below.refl _ _) hg10 (Nat.le_refl _) (fun g h => by cases h)
  have hN10 : New W0 v10 := (New.nil W0).grown (Nat.le_refl _) hn10
  have HG10 := Lib.hid hG10
  obtain ⟨A1, c1, rfl, hc1, -⟩ := hG10.slice
  rw [show (Value.slice A1 l.length c1) = .slice A1 n c1 by rw [hn.out]] at HG10 hN10 ⊢
  have hX10 := (HX.out.below hb10)
  have hatX : At w10 w10.heap.size Ad (bv x) := by
    obtain ⟨_, _, h, _⟩ := hX10.bs.parts
    exact h
  clear hg10 hr10 hn10 z0 z1 HA HC HY HO hG10
  have hN10o : ∀ g, (Value.slice A1 n c1).ownBlock = some g → W0.heap.size ≤ g := hN10
  go_wp2_with (at_builtin
               first
               | (refine wpList_app (base := w10.heap.size) (l := []) rfl (.tmp 47) (.tmp 48) rfl rfl (World.ownsRow_nil _ _ _ _) rfl hatX rfl (by simp; omega) (Nat.le_refl _) ?_
                  intro v11 w11 hown11 hb11 hg11 _
                  have hXu : Bx w11 base v11 x := Bx.of_own hown11 h8.out
                  obtain ⟨A11, c11, rfl⟩ : ∃ A' c', v11 = .slice A' x.length c' := by obtain ⟨⟨A', c', h, -⟩, -⟩ := hXu; exact ⟨A', c', h⟩
                  have hoA := (Below.refl w11.heap.size w11).alloc (Nat.le_refl _) (.cells #[.int .i64 fr, .int .i64 tt, .slice A11 x.length c11] 29)
                  have HGA := Lib.hid ((HG10.out.below hb11).below hoA)
                  have hbA := nxt (nxt hb10 hb11) hoA
                  have hat := gm_at w11 (.int .i64 fr) (.int .i64 tt) (.slice A11 x.length c11)
                  have HCS := Lib.hid (Gcs.one (x := ⟨fr, tt, x⟩) (hXu.below hoA))
                  have H1 := Lib.hid (gm_ones (y0 := .int .i64 fr) (y1 := .int .i64 tt) (y2 := .slice A11 x.length c11) rfl rfl rfl)
                  have hsA : base ≤ (w11.alloc (.cells #[.int .i64 fr, .int .i64 tt, .slice A11 x.length c11] 29)).heap.size := by have := hbA.size; omega)
               | (refine wpList_gr rfl (.tmp 44) (.tmp 51) rfl rfl HGA.out rfl hat rfl HCS.out rfl H1.out (by rw [hn.out]; omega) hsA ?_
                  intro v12 w12 hG12 hg12 hr12 hn12
                  have hb12 : Below W0.heap.size W0 w12 := below_row hbA hg12 hbA.size hN10o
                  have HG12 := Lib.hid hG12
                  have hOwn : ∀ g, v12.ownBlock = some g → W0.heap.size ≤ g := by
                    intro g hg
                    rcases hn12 with h | h
                    · exact hN10o g (h ▸ hg)
                    · rw [h] at hg
                      have := Option.some.inj hg
                      have := hbA.size
                      omega
                  have HOwn := Lib.hid hOwn
                  clear hOwn
                  obtain ⟨A12, c12, rfl, -, -⟩ := hG12.slice
                  obtain ⟨m, hm⟩ : ∃ m, Hid ((l ++ [(⟨fr, tt, x⟩ : Gr)]).length = m) := ⟨_, Lib.hid rfl⟩
                  rw [show (Value.slice A12 (l ++ [(⟨fr, tt, x⟩ : Gr)]).length c12) = .slice A12 m c12 by rw [hm.out]] at HG12 HOwn ⊢
                  have hq2 := heap_below HQ.out hb12
                  have hr2 := heap_below HR.out hb12
                  obtain ⟨⟨z0, z1⟩, f0, f1⟩ := box2 hq2
                  obtain ⟨⟨r0, r1⟩, p0, p1⟩ := box2 hr2
                  have hne : w.heap.size + 1 ≠ w.heap.size := by omega
                  have hq3 := heap_set hq2 1 (.slice A12 m c12)
                  have hr3 := heap_set_ne hr2 hne 1 (.slice A12 m c12)
                  obtain ⟨⟨a0, a1⟩, -⟩ := box2 hq3
                  obtain ⟨-, e0, e1⟩ := box2 hr3
                  have hr4 := heap_set hr3 0 (.int .i64 (N : Int))
                  have hr5 := heap_set hr4 1 (.slice A12 m c12)
                  obtain ⟨⟨s0, s1⟩, -⟩ := box2 hr5
                  have hbw := nxt hW hb12
                  have HG5 := Lib.hid (((HG12.out.other (i := 1) hq2 (by decide) (by decide) hb (.slice A12 m c12)).other (i := 0) hr3 (by decide) (by decide) (by omega) (.int .i64 (N : Int))).other (i := 1) hr4 (by decide) (by decide) (by omega) (.slice A12 m c12))
                  have HB5 := Lib.hid (((hbw.setCell (p := ⟨w.heap.size, 1, none⟩) (Nat.le_refl _) (.slice A12 m c12)).setCell (p := ⟨w.heap.size + 1, 0, none⟩) (by simp) (.int .i64 (N : Int))).setCell (p := ⟨w.heap.size + 1, 1, none⟩) (by simp) (.slice A12 m c12))
                  clear hq2 hr2 hq3 hr3 hr4 hr5 hbw hG12 hg12 hr12 hn12 hat hbA hsA))
  refine bodyPost_ret (v := .tuple #[.agg #[.int .i64 (N : Int), .slice A12 m c12], .int .i64 0]) (by simp [results, Try.results19, go_sem, s0, s1]) rfl ?_
  exact ⟨_, rfl, ⟨_, rfl, HG5.out, Or.inr (fun g hg => by have := HOwn.out g hg; have := hW.size; omega)⟩, HB5.out⟩
set_option maxHeartbeats 1600000 in
theorem rsend_any (N : Nat) (fr tt : Int) (d : Value) (x : List Nat) (hv : GR w base v l) (hb : base ≤ w.heap.size) (hd : Bx w base d x) :
    Calls Try.prog 19 #[.agg #[.int .i64 (N : Int), v], .int .i64 fr, .int .i64 tt, d] w fun e w' => ∃ u, e = .returned (.tuple #[u, .int .i64 (sendE N l fr tt x : Int)]) ∧ RfN w v w' base N u (sendL N l fr tt x) ∧ Below w.heap.size w w' := by
  by_cases hE : sendE N l fr tt x = 0
  · unfold sendL
    rw [if_pos hE, hE]
    exact rsend_ok N fr tt d x hv hb hd hE
  have hSL : sendL N l fr tt x = l := by unfold sendL; rw [if_neg hE]
  rw [hSL]
  have hW := two w (.cells #[.int .i64 (N : Int), v] 40) (.cells #[.int .i64 (N : Int), v] 40)
  have hq := heap_old (heap_new w (.cells #[.int .i64 (N : Int), v] 40)) (.cells #[.int .i64 0, .slice none 0 0] 40)
  have hr := heap_new' (w.alloc (.cells #[.int .i64 (N : Int), v] 40)) (.cells #[.int .i64 (N : Int), v] 40) (w.heap.size + 1) (by simp)
  obtain ⟨A, c, rfl, hc, -⟩ := hv.slice
  obtain ⟨n, hn⟩ : ∃ n, Hid (l.length = n) := ⟨_, Lib.hid rfl⟩
  have HV := Lib.hid (hv.below hW)
  rw [show (Value.slice A l.length c) = .slice A n c by rw [hn.out]] at HV hW hq hr ⊢
  obtain ⟨⟨Ad, cd, rfl, -, -⟩, -⟩ := id hd
  obtain ⟨⟨z0, z1⟩, -⟩ := box2 hq
  obtain ⟨⟨y0, y1⟩, -⟩ := box2 hr
  have fin : ∀ k : Nat, sendE N l fr tt x = k → RfN w (.slice A n c) ((w.alloc (.cells #[.int .i64 (N : Int), .slice A n c] 40)).alloc (.cells #[.int .i64 (N : Int), .slice A n c] 40)) base N (.agg #[.int .i64 (N : Int), .slice A n c]) l ∧ Below w.heap.size w ((w.alloc (.cells #[.int .i64 (N : Int), .slice A n c] 40)).alloc (.cells #[.int .i64 (N : Int), .slice A n c] 40)) :=
    fun _ _ => ⟨⟨_, rfl, HV.out, Or.inl rfl⟩, hW⟩
  have FIN := Lib.hid (fin _ rfl)
  have hE2 : ¬ (0 ≤ fr ∧ fr < (N : Int)) ∨ ((0 ≤ fr ∧ fr < (N : Int)) ∧ ¬ (0 ≤ tt ∧ tt < (N : Int))) → sendE N l fr tt x = 2 := by
    rintro (h | ⟨h, h2⟩)
    · have b1 : hasB N fr = false := by
        unfold hasB
        by_cases h0 : 0 ≤ fr
        · rw [decide_eq_false (fun h1 => h ⟨h0, h1⟩), Bool.and_false]
        · rw [decide_eq_false h0, Bool.false_and]
      unfold sendE
      rw [if_pos b1]
    · have b1 : hasB N fr = true := by simp [hasB, h]
      have b2 : hasB N tt = false := by
        unfold hasB
        by_cases h0 : 0 ≤ tt
        · rw [decide_eq_false (fun h1 => h2 ⟨h0, h1⟩), Bool.and_false]
        · rw [decide_eq_false h0, Bool.false_and]
      unfold sendE
      rw [b1, if_neg (by simp), if_pos b2]
  have hok : 0 ≤ fr ∧ fr < (N : Int) → 0 ≤ tt ∧ tt < (N : Int) → sendE N l fr tt x = (if 1048640 < x.length then 3 else if 4096 ≤ n then 5 else 0) := by
    intro h h2
    unfold sendE
    rw [show hasB N fr = true by simp [hasB, h], show hasB N tt = true by simp [hasB, h2], if_neg (by simp), if_neg (by simp), hn.out]
  clear hSL hv hd fin hr hq hW
  by_cases q1 : fr < 0
  · have d1 : decide (fr < 0) = true := decide_eq_true q1
    rw [hE2 (Or.inl (by omega))] at hE ⊢
    clear q1 hE2 hok hE
    go_enter Try.func19, Try.ntmps19
    go_wp2_with fail
    refine bodyPost_ret (v := .tuple #[.agg #[.int .i64 (N : Int), .slice A n c], .int .i64 2]) (by simp [results, Try.results19, go_sem, y0, y1]) rfl ?_
    exact ⟨_, rfl, FIN.out⟩
  have d1 : decide (fr < 0) = false := decide_eq_false q1
  by_cases q2 : fr ≥ (N : Int)
  · have d2 : decide (fr ≥ (N : Int)) = true := decide_eq_true q2
    have d2' : decide ((N : Int) ≤ fr) = true := d2
    rw [hE2 (Or.inl (by omega))] at hE ⊢
    clear q1 q2 hE2 hok hE
    go_enter Try.func19, Try.ntmps19
    go_wp2_with fail
    refine bodyPost_ret (v := .tuple #[.agg #[.int .i64 (N : Int), .slice A n c], .int .i64 2]) (by simp [results, Try.results19, go_sem, y0, y1]) rfl ?_
    exact ⟨_, rfl, FIN.out⟩
  have d2 : decide (fr ≥ (N : Int)) = false := decide_eq_false q2
  have d2' : decide ((N : Int) ≤ fr) = false := d2
  by_cases q3 : tt < 0
  · have d3 : decide (tt < 0) = true := decide_eq_true q3
    rw [hE2 (Or.inr (by omega))] at hE ⊢
    clear q1 q2 q3 hE2 hok hE
    go_enter Try.func19, Try.ntmps19
    go_wp2_with fail
    refine bodyPost_ret (v := .tuple #[.agg #[.int .i64 (N : Int), .slice A n c], .int .i64 2]) (by simp [results, Try.results19, go_sem, y0, y1]) rfl ?_
    exact ⟨_, rfl, FIN.out⟩
  have d3 : decide (tt < 0) = false := decide_eq_false q3
  by_cases q4 : tt ≥ (N : Int)
  · have d4 : decide (tt ≥ (N : Int)) = true := decide_eq_true q4
    have d4' : decide ((N : Int) ≤ tt) = true := d4
    rw [hE2 (Or.inr (by omega))] at hE ⊢
    clear q1 q2 q3 q4 hE2 hok hE
    go_enter Try.func19, Try.ntmps19
    go_wp2_with fail
    refine bodyPost_ret (v := .tuple #[.agg #[.int .i64 (N : Int), .slice A n c], .int .i64 2]) (by simp [results, Try.results19, go_sem, y0, y1]) rfl ?_
    exact ⟨_, rfl, FIN.out⟩
  have d4 : decide (tt ≥ (N : Int)) = false := decide_eq_false q4
  have d4' : decide ((N : Int) ≤ tt) = false := d4
  have hk := hok (by omega) (by omega)
  rw [hk] at hE ⊢
  clear q1 q2 q3 q4 hE2 hok hk
  by_cases q5 : 1048640 < x.length
  · have d5 : decide ((x.length : Int) > 1048640) = true := decide_eq_true (by omega)
    have d6 : decide (1048640 < x.length) = true := decide_eq_true q5
    rw [if_pos q5]
    clear q5 hE
    go_enter Try.func19, Try.ntmps19
    go_wp2_with fail
    refine bodyPost_ret (v := .tuple #[.agg #[.int .i64 (N : Int), .slice A n c], .int .i64 3]) (by simp [results, Try.results19, go_sem, y0, y1]) rfl ?_
    exact ⟨_, rfl, FIN.out⟩
  have d5 : decide ((x.length : Int) > 1048640) = false := decide_eq_false (by omega)
  have d6 : decide (1048640 < x.length) = false := decide_eq_false q5
  rw [if_neg q5] at hE ⊢
  by_cases q6 : 4096 ≤ n
  · have d7 : decide ((n : Int) ≥ 4096) = true := decide_eq_true (by omega)
    have d8 : decide (4096 ≤ n) = true := decide_eq_true q6
    rw [if_pos q6]
    clear q5 q6 hE
    go_enter Try.func19, Try.ntmps19
    go_wp2_with fail
    refine bodyPost_ret (v := .tuple #[.agg #[.int .i64 (N : Int), .slice A n c], .int .i64 5]) (by simp [results, Try.results19, go_sem, y0, y1]) rfl ?_
    exact ⟨_, rfl, FIN.out⟩
  rw [if_neg q6] at hE
  exact absurd rfl hE
theorem wsub4 (j k : Nat) (h : k ≤ j) (h2 : j ≤ 4096) : wrap64 ((j : Int) - (k : Int)) = ((j - k : Nat) : Int) := by
  rw [IntWalk.wrap64_in _ ⟨by omega, by omega⟩]
  omega
set_option maxRecDepth 100000 in
set_option maxHeartbeats 1600000 in
theorem rforget_any (N node : Int) (n : Nat) (hv : GR w base v l) (hb : base ≤ w.heap.size) (hn : l.length = n) (hl : n ≤ 4096) :
    Calls Try.prog 23 #[.agg #[.int .i64 N, v], .int .i64 node] w fun e w' => ∃ u, e = .returned (.tuple #[u, .int .i64 ((n - (rest l node).length : Nat) : Int)]) ∧ RfN w v w' base N u (rest l node) ∧ Below w.heap.size w w' := by
  have hW := two w (.cells #[.int .i64 N, v] 40) (.cells #[.int .i64 0, .slice none 0 0] 40)
  have hq := heap_old (heap_new w (.cells #[.int .i64 N, v] 40)) (.cells #[.int .i64 0, .slice none 0 0] 40)
  have hr := heap_new' (w.alloc (.cells #[.int .i64 N, v] 40)) (.cells #[.int .i64 0, .slice none 0 0] 40) (w.heap.size + 1) (by simp)
  obtain ⟨A, c, rfl, hc, hcm⟩ := hv.slice
  unfold maxLen at hcm
  rw [hn] at hc
  have HV := Lib.hid (hv.below hW)
  rw [show (Value.slice A l.length c) = .slice A n c by rw [hn]] at HV hW hq hr ⊢
  have HNn := Lib.hid hn
  clear hv hn
  go_enter Try.func23, Try.ntmps23
  go_wp2_with fail
  obtain ⟨W0, hW0⟩ : ∃ W0, W0 = (w.alloc (.cells #[.int .i64 N, .slice A n c] 40)).alloc (.cells #[.int .i64 0, .slice none 0 0] 40) := ⟨_, rfl⟩
  rw [← hW0] at HV hW hq hr ⊢
  clear hW0
  have HQ := Lib.hid hq
  have HR := Lib.hid hr
  have hsz := hW.size
  clear hq hr
  go_loopw [6, 7] (fun vr i wr => ∃ j : Nat, j ≤ n ∧ i = .int .i64 (j : Int) ∧ Below W0.heap.size W0 wr ∧ Hid (GR wr base vr (rest (l.take j) node)) ∧ Hid (New W0 vr)) (fun _ i _ => n - (intOf i).toNat)
  case atStart => exact ⟨0, by omega, rfl, Below.refl _ _, Lib.hid (by simpa [rest] using GR.nil _ _), Lib.hid (New.nil _)⟩
  case round =>
    obtain ⟨j, hj, rfl, hbr, HRr, HW⟩ := hrel
    obtain ⟨⟨z0, z1⟩, -⟩ := box2 (heap_below HQ.out hbr)
    by_cases hlt : j < n
    · have hjl : j < l.length := by have := HNn.out; omega
      obtain ⟨x, hx⟩ : ∃ x, Hid (l[j]? = some x) := ⟨l[j], Lib.hid (List.getElem?_eq_getElem hjl)⟩
      have hGa := HV.out.below hbr
      obtain ⟨g, u, rfl, t0, t1, t2, hbx⟩ := hGa.cell hx.out
      have hu1 : u.oneCell' = true := by obtain ⟨⟨A', c', rfl, -⟩, -⟩ := hbx; rfl
      have hgr := (hGa.blk (g := g) rfl).2.1
      have HBX := Lib.hid hbx
      clear hjl hGa hbx
      have hrs := rest_snoc l node j x hx.out
      by_cases hto : x.to = node
      · rw [if_pos hto, List.append_nil] at hrs
        have d1 : (x.to != node) = false := by simp [hto]
        clear hto
        go_wp2_with fail
        go_roundw
        case rel => exact ⟨j + 1, by omega, by go_num, hbr, by rw [hrs]; exact HRr, HW⟩
        case measure => simp [intOf]; omega
      · rw [if_neg hto] at hrs
        have d1 : (x.to != node) = true := by simp [hto]
        clear hto
        obtain ⟨Ar, cr, rfl, hcr, hcmr⟩ := HRr.out.slice
        have hrl : (rest (l.take j) node).length ≤ j := Nat.le_trans (rest_len ..) (by rw [List.length_take]; omega)
        obtain ⟨m, hm⟩ : ∃ m, Hid ((rest (l.take j) node).length = m) := ⟨_, Lib.hid rfl⟩
        rw [show (Value.slice Ar (rest (l.take j) node).length cr) = .slice Ar m cr by rw [hm.out]] at HRr HW ⊢
        rw [hm.out] at hcr hrl
        unfold maxLen at hcmr
        have hbA := (Below.refl wr.heap.size wr).alloc (Nat.le_refl _) (.cells #[.int .i64 x.fr, .int .i64 x.to, u] 29)
        have hbB := nxt hbr hbA
        have hRA := Lib.hid (HRr.out.below hbA)
        have hat := gm_at wr (.int .i64 x.fr) (.int .i64 x.to) u
        have HCS := Lib.hid (Gcs.one (x := x) (HBX.out.below hbA))
        have H1 := Lib.hid (gm_ones (y0 := .int .i64 x.fr) (y1 := .int .i64 x.to) rfl rfl hu1)
        have hszr := hbr.size
        clear hbr hbA hu1
        go_wp2_with (at_builtin
                     refine wpList_gr rfl (.tmp 24) (.tmp 30) rfl rfl hRA.out rfl hat rfl HCS.out rfl H1.out (by have := hm.out; omega) (by simp; omega) ?_
                     intro v10 w10 hG10 hg10 hr10 hn10)
        rw [← hrs] at hG10
        have hb10 : Below W0.heap.size W0 w10 := below_row hbB hg10 (by simp; omega) (fun g hg => HW.out g hg)
        have hW10 := HW.out.grown (by simp; omega) hn10
        clear hg10 hr10 hn10 hat hbB z0 z1
        obtain ⟨⟨z0, z1⟩, -⟩ := box2 (heap_below HQ.out hb10)
        go_wp2_with fail
        go_roundw
        case rel => exact ⟨j + 1, by omega, by go_num, hb10, Lib.hid hG10, Lib.hid hW10⟩
        case measure => simp [intOf]; omega
    · obtain rfl : j = n := by omega
      rw [List.take_of_length_le (by have := HNn.out; omega)] at HRr
      obtain ⟨Ar, cr, rfl, -, -⟩ := HRr.out.slice
      obtain ⟨m, hm⟩ : ∃ m, Hid ((rest l node).length = m) := ⟨_, Lib.hid rfl⟩
      rw [show (Value.slice Ar (rest l node).length cr) = .slice Ar m cr by rw [hm.out]] at HRr HW ⊢
      have hmn : m ≤ j := by rw [← hm.out, ← HNn.out]; exact rest_len l node
      have hw1 := wsub4 j m hmn hl
      have hq2 := heap_below HQ.out hbr
      have hr2 := heap_below HR.out hbr
      obtain ⟨-, f0, f1⟩ := box2 hq2
      obtain ⟨⟨r0, r1⟩, p0, p1⟩ := box2 hr2
      have hne : w.heap.size + 1 ≠ w.heap.size := by omega
      have hq3 := heap_set hq2 1 (.slice Ar m cr)
      have hr3 := heap_set_ne hr2 hne 1 (.slice Ar m cr)
      obtain ⟨⟨a0, a1⟩, -⟩ := box2 hq3
      obtain ⟨-, e0, e1⟩ := box2 hr3
      have hr4 := heap_set hr3 0 (.int .i64 N)
      have hr5 := heap_set hr4 1 (.slice Ar m cr)
      obtain ⟨⟨b0, b1⟩, -⟩ := box2 hr5
      have hbw := nxt hW hbr
      have HG5 := Lib.hid (((HRr.out.other (i := 1) hq2 (by decide) (by decide) hb (.slice Ar m cr)).other (i := 0) hr3 (by decide) (by decide) (by omega) (.int .i64 N)).other (i := 1) hr4 (by decide) (by decide) (by omega) (.slice Ar m cr))
      have HB5 := Lib.hid (((hbw.setCell (p := ⟨w.heap.size, 1, none⟩) (Nat.le_refl _) (.slice Ar m cr)).setCell (p := ⟨w.heap.size + 1, 0, none⟩) (by simp) (.int .i64 N)).setCell (p := ⟨w.heap.size + 1, 1, none⟩) (by simp) (.slice Ar m cr))
      clear hq2 hr2 hq3 hr3 hr4 hr5 hbr hbw HRr
      go_wp2_with fail
      refine bodyPost_ret (v := .tuple #[.agg #[.int .i64 N, (.slice Ar m cr)], .int .i64 ((j : Int) - (m : Int))]) (by simp [results, Try.results23, go_sem, b0, b1]) rfl ?_
      exact ⟨.agg #[.int .i64 N, .slice Ar m cr], by rw [hm.out, show ((j - m : Nat) : Int) = (j : Int) - (m : Int) by omega], ⟨_, rfl, HG5.out, Or.inr (fun g hg => by have := HW.out g hg; have := hW.size; omega)⟩, HB5.out⟩
theorem has_not (n : Nat) (i : Int) (h : hasB n i = false) : i < 0 ∨ (0 ≤ i ∧ (n : Int) ≤ i) := by
  unfold hasB at h
  by_cases h0 : 0 ≤ i
  · rw [decide_eq_true h0, Bool.true_and] at h
    have := of_decide_eq_false h
    omega
  · omega
theorem copy_send (N : Nat) (l : List Gr) (k : Nat) (x : Gr) (hx : l[k]? = some x) (h1 : hasB N x.fr = true) (h2 : hasB N x.to = true) (h3 : x.d.length ≤ 1048640) : sendE N l x.fr x.to x.d = copyE l (k : Int) ∧ sendL N l x.fr x.to x.d = copyL l (k : Int) := by
  have hk := (List.getElem?_eq_some_iff.1 hx).1
  have hn : nthG l (k : Int) = some x := by unfold nthG; rw [if_pos (by omega)]; simpa using hx
  have hb : hasB l.length (k : Int) = true := by simp [hasB, hk]
  by_cases h4 : 4096 ≤ l.length
  · have e1 : sendE N l x.fr x.to x.d = 5 := by
      unfold sendE
      rw [h1, h2, if_neg (by simp), if_neg (by simp), if_neg (by omega), if_pos h4]
    have e2 : copyE l (k : Int) = 5 := by
      unfold copyE
      rw [hb, if_neg (by simp), if_pos h4]
    refine ⟨by rw [e1, e2], ?_⟩
    unfold sendL copyL
    rw [e1, if_neg (by decide), if_pos h4]
  · have e1 : sendE N l x.fr x.to x.d = 0 := by
      unfold sendE
      rw [h1, h2, if_neg (by simp), if_neg (by simp), if_neg (by omega), if_neg h4]
    have e2 : copyE l (k : Int) = 0 := by
      unfold copyE
      rw [hb, if_neg (by simp), if_neg h4]
    refine ⟨by rw [e1, e2], ?_⟩
    unfold sendL copyL
    rw [e1, if_pos rfl, if_neg h4, hn]
set_option maxRecDepth 100000 in
set_option maxHeartbeats 1600000 in
theorem rcopy_any (N : Nat) (i : Int) (hv : GR w base v l) (hb : base ≤ w.heap.size) (hl : l.length ≤ 4096) (hel : ∀ x ∈ l, hasB N x.fr = true ∧ hasB N x.to = true ∧ x.d.length ≤ 1048640) :
    Calls Try.prog 22 #[.agg #[.int .i64 (N : Int), v], .int .i64 i] w fun e w' => ∃ u, e = .returned (.tuple #[u, .int .i64 (copyE l i : Int)]) ∧ RfN w v w' base N u (copyL l i) ∧ Below w.heap.size w w' := by
  have hq := heap_old (heap_new w (.cells #[.int .i64 (N : Int), v] 40)) (.cells #[.int .i64 0, .slice none 0 0] 40)
  obtain ⟨A, c, rfl, hc, hcm⟩ := hv.slice
  unfold maxLen at hcm
  obtain ⟨n, hn⟩ : ∃ n, Hid (l.length = n) := ⟨_, Lib.hid rfl⟩
  rw [hn.out] at hc hl
  have HV := Lib.hid hv
  rw [show (Value.slice A l.length c) = .slice A n c by rw [hn.out]] at HV hq ⊢
  obtain ⟨⟨z0, z1⟩, -⟩ := box2 hq
  clear hv
  rcases nth_has l i with ⟨h1, h2⟩ | ⟨k, hk, rfl, h1, h2⟩
  · have hW := two w (.cells #[.int .i64 (N : Int), .slice A n c] 40) (.cells #[.int .i64 (N : Int), .slice A n c] 40)
    have hr := heap_new' (w.alloc (.cells #[.int .i64 (N : Int), .slice A n c] 40)) (.cells #[.int .i64 (N : Int), .slice A n c] 40) (w.heap.size + 1) (by simp)
    obtain ⟨⟨y0, y1⟩, -⟩ := box2 hr
    have FIN : Hid (RfN w (.slice A n c) ((w.alloc (.cells #[.int .i64 (N : Int), .slice A n c] 40)).alloc (.cells #[.int .i64 (N : Int), .slice A n c] 40)) base N (.agg #[.int .i64 (N : Int), .slice A n c]) l ∧ Below w.heap.size w ((w.alloc (.cells #[.int .i64 (N : Int), .slice A n c] 40)).alloc (.cells #[.int .i64 (N : Int), .slice A n c] 40))) :=
      Lib.hid ⟨⟨_, rfl, HV.out.below hW, Or.inl rfl⟩, hW⟩
    have e1 : copyE l i = 2 := by unfold copyE; rw [if_pos h1]
    have e2 : copyL l i = l := by unfold copyL; rw [h2]; split <;> rfl
    rw [e1, e2]
    rw [hn.out] at h1
    have h3 := has_not n i h1
    clear h1 h2 e1 e2 hr hq hW HV hel
    by_cases q1 : i < 0
    · have d1 : decide (i < 0) = true := decide_eq_true q1
      clear q1 h3
      go_enter Try.func22, Try.ntmps22
      go_wp2_with fail
      refine bodyPost_ret (v := .tuple #[.agg #[.int .i64 (N : Int), .slice A n c], .int .i64 2]) (by simp [results, Try.results22, go_sem, y0, y1]) rfl ?_
      exact ⟨_, rfl, FIN.out⟩
    · have d1 : decide (i < 0) = false := decide_eq_false q1
      have d2 : decide (i ≥ (n : Int)) = true := decide_eq_true (by omega)
      have d2' : decide ((n : Int) ≤ i) = true := d2
      clear q1 h3
      go_enter Try.func22, Try.ntmps22
      go_wp2_with fail
      refine bodyPost_ret (v := .tuple #[.agg #[.int .i64 (N : Int), .slice A n c], .int .i64 2]) (by simp [results, Try.results22, go_sem, y0, y1]) rfl ?_
      exact ⟨_, rfl, FIN.out⟩
  · obtain ⟨x, hx⟩ : ∃ x, Hid (l[k]? = some x) := ⟨_, Lib.hid (List.getElem?_eq_getElem hk)⟩
    obtain ⟨m1, m2, m3⟩ := hel x (List.mem_of_getElem? hx.out)
    have HCS := Lib.hid (copy_send N l k x hx.out m1 m2 m3)
    rw [hn.out] at hk
    have hW := two w (.cells #[.int .i64 (N : Int), .slice A n c] 40) (.cells #[.int .i64 0, .slice none 0 0] 40)
    have hr := heap_new' (w.alloc (.cells #[.int .i64 (N : Int), .slice A n c] 40)) (.cells #[.int .i64 0, .slice none 0 0] 40) (w.heap.size + 1) (by simp)
    have HV2 := Lib.hid (HV.out.below hW)
    have d1 : decide ((k : Int) < 0) = false := decide_eq_false (by omega)
    have d2 : decide ((k : Int) ≥ (n : Int)) = false := decide_eq_false (by omega)
    have d2' : decide ((n : Int) ≤ (k : Int)) = false := d2
    have d2'' : decide (n ≤ k) = false := decide_eq_false (by omega)
    clear h1 h2 hel m1 m2 m3
    go_enter Try.func22, Try.ntmps22
    go_upto_region 3 with fail
    obtain ⟨W0, hW0⟩ : ∃ W0, W0 = (w.alloc (.cells #[.int .i64 (N : Int), .slice A n c] 40)).alloc (.cells #[.int .i64 0, .slice none 0 0] 40) := ⟨_, rfl⟩
    rw [← hW0] at HV2 hW hq hr z0 z1 ⊢
    obtain ⟨g, u, rfl, t0, t1, t2, hbx⟩ := HV2.out.cell hx.out
    clear hW0 d1 d2 d2' d2''
    have HR := Lib.hid hr
    have HB := Lib.hid hbx
    have hsz := hW.size
    have hszd : base ≤ W0.drew.heap.size := by show base ≤ W0.heap.size; omega
    have hgR : g ≠ w.heap.size + 1 := by
      intro e
      obtain ⟨-, -, cur, hcur⟩ := HV2.out.blk (g := g) rfl
      rw [e, hr] at hcur
      simp at hcur
    have hgR' : w.heap.size + 1 ≠ g := fun e => hgR e.symm
    have HQ := Lib.hid hq
    have hgW : g < W0.heap.size := World.block_lt_of_cell? W0 _ t0
    clear hq hr hbx
    go_region_held3 (fun w' => (w'.cell? ⟨w.heap.size, 0, none⟩ = some (.int .i64 (N : Int)) ∧ w'.cell? ⟨w.heap.size, 1, none⟩ = some (.slice (some ⟨g, 0, none⟩) n c)) ∧
        (w'.cell? ⟨g, k * 3, none⟩ = some (.int .i64 x.fr) ∧ w'.cell? ⟨g, k * 3 + 1, none⟩ = some (.int .i64 x.to) ∧ w'.cell? ⟨g, k * 3 + 2, none⟩ = some u)) (go_keep)
      (first
        | (go_at_call 19
           refine (rsend_any N x.fr x.to u x.d (show GR W0.drew base (.slice (some ⟨g, 0, none⟩) n c) l from HV2.out) hszd (show Bx W0.drew base u x.d from HB.out)).mono ?_
           rw [HCS.out.1, HCS.out.2]
           rintro e w5 ⟨ur, rfl, ⟨v5, rfl, hG5, hO5⟩, hb5'⟩
           have hb5 := of_drew6 hb5'
           have HG5 := Lib.hid hG5
           obtain ⟨A5, c5, rfl, -, -⟩ := hG5.slice
           obtain ⟨m, hm⟩ : ∃ m, Hid ((copyL l (k : Int)).length = m) := ⟨_, Lib.hid rfl⟩
           rw [show (Value.slice A5 (copyL l (k : Int)).length c5) = .slice A5 m c5 by rw [hm.out]] at HG5 hO5 ⊢
           obtain ⟨⟨f0, f1⟩, -⟩ := box2 (heap_below HQ.out hb5)
           have r2 := (hb5.cell (p := ⟨g, k * 3, none⟩) hgW).trans t0
           have r3 := (hb5.cell (p := ⟨g, k * 3 + 1, none⟩) hgW).trans t1
           have r4 := (hb5.cell (p := ⟨g, k * 3 + 2, none⟩) hgW).trans t2
           have hr5 := heap_below HR.out hb5
           obtain ⟨⟨r0, r1⟩, p0, p1⟩ := box2 hr5
           have hr6 := heap_set hr5 0 (.int .i64 (N : Int))
           have hr7 := heap_set hr6 1 (.slice A5 m c5)
           obtain ⟨⟨s0, s1⟩, -⟩ := box2 hr7
           have HG7 := Lib.hid ((HG5.out.other (i := 0) hr5 (by decide) (by decide) (by omega) (.int .i64 (N : Int))).other (i := 1) hr6 (by decide) (by decide) (by omega) (.slice A5 m c5))
           have HB7 := Lib.hid (((nxt hW hb5).setCell (p := ⟨w.heap.size + 1, 0, none⟩) (by simp) (.int .i64 (N : Int))).setCell (p := ⟨w.heap.size + 1, 1, none⟩) (by simp) (.slice A5 m c5))
           have HO7 := Lib.hid hO5
           clear hr5 hr6 hr7 hO5 hb5 hb5' hG5)
        | (fail))
    all_goals
      go_wp2_with fail
      refine bodyPost_ret (v := .tuple #[.agg #[.int .i64 (N : Int), .slice A5 m c5], .int .i64 (copyE l (k : Int) : Int)]) (by simp [results, Try.results22, go_sem, s0, s1]) rfl ?_
      refine ⟨_, rfl, ⟨_, rfl, HG7.out, ?_⟩, HB7.out⟩
      rcases HO7.out with h | h
      · exact Or.inl h
      · exact Or.inr (fun g hg => Nat.le_trans hW.size (h g hg))
theorem GR.other2 {g i : Nat} {C : Array Value} {T : TypeId} {fr : Nat × Nat} (h : GR w base v l) (hp : w.heap[g]? = some (.cells C T fr)) (h1 : T ≠ 5) (h2 : v.ownBlock ≠ some g) (hb : base ≤ g) (u : Value) : GR (w.setCell ⟨g, i, none⟩ u) base v l :=
  h.keep (by simp [World.setCell]) (fun b k1 _ => Below.heap_setCell _ _ _ _ (show b ≠ g by omega))
    (fun b cur fr' k => Below.heap_setCell _ _ _ _ (fun e => by subst e; rw [hp] at k; simp at k; exact h1 k.2.1))
    (fun b cur fr' hv k => Below.heap_setCell _ _ _ _ (fun e => by subst e; exact h2 hv))
theorem Bx.other {g i : Nat} {C : Array Value} {T : TypeId} {fr : Nat × Nat} {x : List Nat} (h : Bx w base v x) (hp : w.heap[g]? = some (.cells C T fr)) (h1 : T ≠ 5) (hb : base ≤ g) (u : Value) : Bx (w.setCell ⟨g, i, none⟩ u) base v x :=
  h.keep (by simp [World.setCell]) (fun b k1 _ => Below.heap_setCell _ _ _ _ (show b ≠ g by omega))
    (fun b cur fr' k => Below.heap_setCell _ _ _ _ (fun e => by subst e; rw [hp] at k; simp at k; exact h1 k.2.1))
theorem Bx.nil (w : World) (base : Nat) : Bx w base (.slice none 0 0) [] := ⟨⟨none, 0, rfl, Nat.le_refl _, fun h => absurd rfl h⟩, by simp⟩
def takeG (l : List Gr) (i : Int) : Gr := (nthG l i).getD gz
def RTk (w : World) (v : Value) (base : Nat) (N : Int) (l : List Gr) (i : Int) (e : Ending) (w' : World) : Prop := ∃ ur u, e = .returned (.tuple #[ur, .agg #[.int .i64 (takeG l i).fr, .int .i64 (takeG l i).to, u], .bool (hasB l.length i)]) ∧ RfN w v w' base N ur (dropL l i) ∧ Bx w' base u (takeG l i).d ∧ Below w.heap.size w w'
set_option maxRecDepth 100000 in
set_option maxHeartbeats 1600000 in
theorem rtake_any (N : Int) (i : Int) (hv : GR w base v l) (hb : base ≤ w.heap.size) (hl : l.length ≤ 4096) :
    Calls Try.prog 21 #[.agg #[.int .i64 N, v], .int .i64 i] w fun e w' => RTk w v base N l i e w' := by
  have hq := heap_old (heap_old (heap_new w (.cells #[.int .i64 N, v] 40)) (.cells #[.int .i64 0, .slice none 0 0] 40)) (.cells #[.int .i64 0, .int .i64 0, .slice none 0 0] 29)
  obtain ⟨A, c, rfl, hc, hcm⟩ := hv.slice
  unfold maxLen at hcm
  obtain ⟨n, hn⟩ : ∃ n, Hid (l.length = n) := ⟨_, Lib.hid rfl⟩
  rw [hn.out] at hc hl
  have HV := Lib.hid hv
  rw [show (Value.slice A l.length c) = .slice A n c by rw [hn.out]] at HV hq ⊢
  obtain ⟨⟨z0, z1⟩, -⟩ := box2 hq
  clear hv
  rcases nth_has l i with ⟨h1, h2⟩ | ⟨k, hk, rfl, h1, h2⟩
  · have hW := (two w (.cells #[.int .i64 N, .slice A n c] 40) (.cells #[.int .i64 N, .slice A n c] 40)).alloc (by simp; omega) (.cells #[.int .i64 0, .int .i64 0, .slice none 0 0] 29)
    have hr := heap_old (heap_new' (w.alloc (.cells #[.int .i64 N, .slice A n c] 40)) (.cells #[.int .i64 N, .slice A n c] 40) (w.heap.size + 1) (by simp)) (.cells #[.int .i64 0, .int .i64 0, .slice none 0 0] 29)
    have hs := heap_new' ((w.alloc (.cells #[.int .i64 N, .slice A n c] 40)).alloc (.cells #[.int .i64 N, .slice A n c] 40)) (.cells #[.int .i64 0, .int .i64 0, .slice none 0 0] 29) (w.heap.size + 1 + 1) (by simp)
    obtain ⟨⟨y0, y1⟩, -⟩ := box2 hr
    obtain ⟨⟨s0, s1, s2⟩, -⟩ := box3 hs
    have HV2 := Lib.hid (HV.out.below hW)
    have HW := Lib.hid hW
    have e1 : dropL l i = l := by
      unfold dropL
      split
      · rename_i h0
        rw [List.eraseIdx_of_length_le]
        unfold nthG at h2
        rw [if_pos h0] at h2
        exact List.getElem?_eq_none_iff.1 h2
      · rfl
    have e2 : takeG l i = gz := by unfold takeG; rw [h2]; rfl
    have E1 := Lib.hid e1
    have E2 := Lib.hid e2
    have E3 := Lib.hid h1
    rw [hn.out] at h1
    have h3 := has_not n i h1
    clear h1 h2 e1 e2 hr hq hW HV hs
    by_cases q1 : i < 0
    · have d1 : decide (i < 0) = true := decide_eq_true q1
      clear q1 h3
      go_enter Try.func21, Try.ntmps21
      go_wp2_with fail
      refine bodyPost_ret (v := .tuple #[.agg #[.int .i64 N, .slice A n c], .agg #[.int .i64 0, .int .i64 0, .slice none 0 0], .bool false]) (by simp [results, Try.results21, go_sem, y0, y1, s0, s1, s2]) rfl ?_
      refine ⟨.agg #[.int .i64 N, .slice A n c], .slice none 0 0, by rw [E2.out, E3.out]; rfl, ?_, by rw [E2.out]; exact Bx.nil _ _, HW.out⟩
      rw [E1.out]
      exact ⟨_, rfl, HV2.out, Or.inl rfl⟩
    · have d1 : decide (i < 0) = false := decide_eq_false q1
      have d2 : decide (i ≥ (n : Int)) = true := decide_eq_true (by omega)
      have d2' : decide ((n : Int) ≤ i) = true := d2
      clear q1 h3
      go_enter Try.func21, Try.ntmps21
      go_wp2_with fail
      refine bodyPost_ret (v := .tuple #[.agg #[.int .i64 N, .slice A n c], .agg #[.int .i64 0, .int .i64 0, .slice none 0 0], .bool false]) (by simp [results, Try.results21, go_sem, y0, y1, s0, s1, s2]) rfl ?_
      refine ⟨.agg #[.int .i64 N, .slice A n c], .slice none 0 0, by rw [E2.out, E3.out]; rfl, ?_, by rw [E2.out]; exact Bx.nil _ _, HW.out⟩
      rw [E1.out]
      exact ⟨_, rfl, HV2.out, Or.inl rfl⟩
  · obtain ⟨x, hx⟩ : ∃ x, Hid (l[k]? = some x) := ⟨_, Lib.hid (List.getElem?_eq_getElem hk)⟩
    have E2 : Hid (takeG l (k : Int) = x) := Lib.hid (by unfold takeG nthG; rw [if_pos (by omega)]; simp [hx.out])
    have E1 : Hid (dropL l (k : Int) = l.eraseIdx k) := Lib.hid (by unfold dropL; rw [if_pos (by omega)]; simp)
    have E3 := Lib.hid h1
    rw [hn.out] at hk
    have hW := (two w (.cells #[.int .i64 N, .slice A n c] 40) (.cells #[.int .i64 0, .slice none 0 0] 40)).alloc (by simp; omega) (.cells #[.int .i64 0, .int .i64 0, .slice none 0 0] 29)
    have hr := heap_old (heap_new' (w.alloc (.cells #[.int .i64 N, .slice A n c] 40)) (.cells #[.int .i64 0, .slice none 0 0] 40) (w.heap.size + 1) (by simp)) (.cells #[.int .i64 0, .int .i64 0, .slice none 0 0] 29)
    have hs := heap_new' ((w.alloc (.cells #[.int .i64 N, .slice A n c] 40)).alloc (.cells #[.int .i64 0, .slice none 0 0] 40)) (.cells #[.int .i64 0, .int .i64 0, .slice none 0 0] 29) (w.heap.size + 1 + 1) (by simp)
    have HV2 := Lib.hid (HV.out.below hW)
    have d1 : decide ((k : Int) < 0) = false := decide_eq_false (by omega)
    have d2 : decide ((k : Int) ≥ (n : Int)) = false := decide_eq_false (by omega)
    have d2' : decide ((n : Int) ≤ (k : Int)) = false := d2
    have d2'' : decide (n ≤ k) = false := decide_eq_false (by omega)
    obtain ⟨g, u0, hA, -⟩ := HV.out.cell hx.out
    subst hA
    have hgl := (HV.out.blk (g := g) rfl).2.1
    clear h1 h2 u0
    go_enter Try.func21, Try.ntmps21
    go_upto_region 3 with fail
    obtain ⟨W0, hW0⟩ : ∃ W0, W0 = ((w.alloc (.cells #[.int .i64 N, .slice (some ⟨g, 0, none⟩) n c] 40)).alloc (.cells #[.int .i64 0, .slice none 0 0] 40)).alloc (.cells #[.int .i64 0, .int .i64 0, .slice none 0 0] 29) := ⟨_, rfl⟩
    rw [← hW0] at HV2 hW hq hr hs z0 z1 ⊢
    have hsW : w.heap.size + 1 + 1 < W0.heap.size := lt_heap hs
    obtain ⟨g2, u, hge, t0, t1, t2, hbx⟩ := HV2.out.cell hx.out
    obtain rfl : g = g2 := by injection hge with hge; injection hge
    obtain ⟨Au, cu, rfl⟩ : ∃ A' c', u = .slice A' x.d.length c' := by obtain ⟨⟨A', c', h, -⟩, -⟩ := hbx; exact ⟨A', c', h⟩
    clear hW0 d1 d2 d2' d2'' hge
    have HR := Lib.hid hr
    have HS := Lib.hid hs
    have HB := Lib.hid hbx
    have hsz := hW.size
    have hszd : base ≤ W0.drew.heap.size := by show base ≤ W0.heap.size; omega
    have hgR : g ≠ w.heap.size + 1 := by omega
    have hgR' : w.heap.size + 1 ≠ g := by omega
    have hgS : g ≠ w.heap.size + 1 + 1 := by omega
    have hgS' : w.heap.size + 1 + 1 ≠ g := by omega
    have hbS : w.heap.size + 1 + 1 ≠ w.heap.size := by omega
    have hbS' : w.heap.size ≠ w.heap.size + 1 + 1 := by omega
    have HQ := Lib.hid hq
    have hgW : g < W0.heap.size := by omega
    clear hq hr hbx hs
    go_region_held3 (fun w' => (w'.cell? ⟨w.heap.size, 0, none⟩ = some (.int .i64 N) ∧ w'.cell? ⟨w.heap.size, 1, none⟩ = some (.slice (some ⟨g, 0, none⟩) n c)) ∧
        (w'.cell? ⟨g, k * 3, none⟩ = some (.int .i64 x.fr) ∧ w'.cell? ⟨g, k * 3 + 1, none⟩ = some (.int .i64 x.to) ∧ w'.cell? ⟨g, k * 3 + 2, none⟩ = some (.slice Au x.d.length cu))) (go_keep)
      (first
        | (go_at_call 37
           refine (rwithout_any N k n (show GR W0.drew base (.slice (some ⟨g, 0, none⟩) n c) l from HV2.out) hszd hn.out hl hk).mono ?_
           rintro e w5 ⟨ur, rfl, ⟨v5, rfl, hG5, hO5⟩, hb5'⟩
           have hb5 := of_drew6 hb5'
           have HG5 := Lib.hid hG5
           obtain ⟨A5, c5, rfl, -, -⟩ := hG5.slice
           obtain ⟨m, hm⟩ : ∃ m, Hid ((l.eraseIdx k).length = m) := ⟨_, Lib.hid rfl⟩
           rw [show (Value.slice A5 (l.eraseIdx k).length c5) = .slice A5 m c5 by rw [hm.out]] at HG5 hO5 ⊢
           obtain ⟨⟨f0, f1⟩, -⟩ := box2 (heap_below HQ.out hb5)
           have r2 := (hb5.cell (p := ⟨g, k * 3, none⟩) hgW).trans t0
           have r3 := (hb5.cell (p := ⟨g, k * 3 + 1, none⟩) hgW).trans t1
           have r4 := (hb5.cell (p := ⟨g, k * 3 + 2, none⟩) hgW).trans t2
           have hr5 := heap_below HR.out hb5
           have hs5 := heap_below HS.out hb5
           obtain ⟨⟨r0, r1⟩, p0, p1⟩ := box2 hr5
           obtain ⟨⟨o0, o1, o2⟩, p2, p3, p4⟩ := box3 hs5
           have hO6 : (Value.slice A5 m c5).ownBlock ≠ some (w.heap.size + 1 + 1) := by
             intro h
             rcases hO5 with h5 | h5
             · rw [h5] at h
               exact hgS (Option.some.inj h)
             · have := h5 _ h
               have h6 : W0.drew.heap.size = W0.heap.size := rfl
               omega
           have hr6 := heap_set hr5 0 (.int .i64 N)
           have hr7 := heap_set hr6 1 (.slice A5 m c5)
           have hne : w.heap.size + 1 + 1 ≠ w.heap.size + 1 := by omega
           have hne' : w.heap.size + 1 ≠ w.heap.size + 1 + 1 := by omega
           have hs7 := heap_set_ne (heap_set_ne hs5 hne 0 (.int .i64 N)) hne 1 (.slice A5 m c5)
           have hs8 := heap_set hs7 0 (.int .i64 x.fr)
           have hs9 := heap_set hs8 1 (.int .i64 x.to)
           have hsA := heap_set hs9 2 (.slice Au x.d.length cu)
           have hrA := heap_set_ne (heap_set_ne (heap_set_ne hr7 hne' 0 (.int .i64 x.fr)) hne' 1 (.int .i64 x.to)) hne' 2 (.slice Au x.d.length cu)
           obtain ⟨⟨s0, s1⟩, -⟩ := box2 hrA
           obtain ⟨⟨s2, s3, s4⟩, -⟩ := box3 hsA
           have HG7 := Lib.hid (((((HG5.out.other (i := 0) hr5 (by decide) (by decide) (by omega) (.int .i64 N)).other (i := 1) hr6 (by decide) (by decide) (by omega) (.slice A5 m c5)).other2 (i := 0) hs7 (by decide) hO6 (by omega) (.int .i64 x.fr)).other2 (i := 1) hs8 (by decide) hO6 (by omega) (.int .i64 x.to)).other2 (i := 2) hs9 (by decide) hO6 (by omega) (.slice Au x.d.length cu))
           have HX7 := Lib.hid ((((((HB.out.below hb5).other (i := 0) hr5 (by decide) (by omega) (.int .i64 N)).other (i := 1) hr6 (by decide) (by omega) (.slice A5 m c5)).other (i := 0) hs7 (by decide) (by omega) (.int .i64 x.fr)).other (i := 1) hs8 (by decide) (by omega) (.int .i64 x.to)).other (i := 2) hs9 (by decide) (by omega) (.slice Au x.d.length cu))
           have HB7 := Lib.hid ((((((nxt hW hb5).setCell (p := ⟨w.heap.size + 1, 0, none⟩) (by simp) (.int .i64 N)).setCell (p := ⟨w.heap.size + 1, 1, none⟩) (by simp) (.slice A5 m c5)).setCell (p := ⟨w.heap.size + 1 + 1, 0, none⟩) (by simp; omega) (.int .i64 x.fr)).setCell (p := ⟨w.heap.size + 1 + 1, 1, none⟩) (by simp; omega) (.int .i64 x.to)).setCell (p := ⟨w.heap.size + 1 + 1, 2, none⟩) (by simp; omega) (.slice Au x.d.length cu))
           have HO7 := Lib.hid hO5
           clear hr5 hr6 hr7 hO5 hb5 hb5' hG5 hs5 hs7 hs8 hs9 hsA hrA hO6)
        | (fail))
    all_goals
      go_wp2_with fail
      refine bodyPost_ret (v := .tuple #[.agg #[.int .i64 N, .slice A5 m c5], .agg #[.int .i64 x.fr, .int .i64 x.to, .slice Au x.d.length cu], .bool true]) (by simp [results, Try.results21, go_sem, s0, s1, s2, s3, s4]) rfl ?_
      refine ⟨.agg #[.int .i64 N, .slice A5 m c5], .slice Au x.d.length cu, by rw [E2.out, E3.out], ?_, by rw [E2.out]; exact HX7.out, HB7.out⟩
      rw [E1.out]
      refine ⟨_, rfl, HG7.out, ?_⟩
      rcases HO7.out with h | h
      · exact Or.inl h
      · exact Or.inr (fun g hg => Nat.le_trans hW.size (h g hg))
end
end Go.Proofs.Ytcaddokedkndmaa
