/- drover/frame.Get: the walk. -/
import Derived.Test.YtjcefnlidophoaaMs
import Derived.Test.YtjcefnlidophoaaUnpack2
import Derived.Deep.DeepCutAuto
namespace Go.Proofs.Ytjcefnlidophoaa
open Go.RowKit

abbrev mbox (k : Nat) (u0 u1 u2 : Value) : Obj := .cells #[.int .u8 (k : Int), u0, u1, u2] 26 (0, 0)
theorem lst_err0 {α : Type} {b : List Nat} {most : Nat} {f : Nat → Except Nat (α × Nat)} (hf : ∀ a er, f a = .error er → er ≠ 0) {a er : Nat} (h : lst b most f a = .error er) : er ≠ 0 := by
  unfold lst at h
  split at h
  · rename_i h0
    injection h with h
    exact h ▸ h0
  · split at h
    · injection h with h
      omega
    · exact many_err0 hf _ _ _ h
theorem stepM {w wi w' : World} {G f lo : Nat} {vb u0 u1 u2 u3 u : Value} {o : Obj} (x1 : wi.heap[w.heap.size]? = some (.cells #[vb] 27 (0, 0))) (x2 : wi.heap[w.heap.size + 1]? = some o) (x3 : wi.heap[G]? = some (.cells #[u0, u1, u2, u3] 26 (0, 0)))
    (hb : Below w.heap.size w wi) (hG : w.heap.size + 1 < G) (hlo : G < lo) (hb' : Below wi.heap.size wi w') :
    ∃ Z, Z = w'.setCell ⟨G, f, none⟩ u ∧ Z.heap[w.heap.size]? = some (.cells #[vb] 27 (0, 0)) ∧ Z.heap[w.heap.size + 1]? = some o ∧ Z.heap[G]? = some (.cells (#[u0, u1, u2, u3].setIfInBounds f u) 26 (0, 0)) ∧ Below w.heap.size w Z ∧ Hi lo w' Z :=
  ⟨_, rfl, heap_set_ne (heap_below x1 hb') (by omega) f _, heap_set_ne (heap_below x2 hb') (by omega) f _, heap_set (heap_below x3 hb') f _, (nxt hb hb').setCell (by show w.heap.size ≤ G; omega) _, Hi.set lo w' hlo f _⟩
theorem Bs.setOther {w : World} {bb ob n c : Nat} {l : List Nat} (h : Bs w (.slice (some ⟨bb, ob, none⟩) n c) l) {g : Nat} (hg : bb ≠ g) (i : Nat) (u : Value) : Bs (w.setCell ⟨g, i, none⟩ u) (.slice (some ⟨bb, ob, none⟩) n c) l := by
  obtain ⟨h1, h2, h3, h4⟩ := h.parts
  refine Bs.of_at (fun hn => ?_) h1 h2 h4
  obtain ⟨b, o, e, hb, hc⟩ := h3 hn
  obtain ⟨rfl, rfl⟩ : bb = b ∧ ob = o := by simpa using e
  exact ⟨bb, ob, rfl, by simpa [World.setCell] using hb, fun j x hx => (World.cell?_of_block (Below.heap_setCell _ _ _ _ (show bb ≠ g from hg))).trans (hc j x hx)⟩
set_option maxRecDepth 100000 in
set_option maxHeartbeats 4000000 in
theorem getm_any (v : Value) (l : List Nat) (w : World) (h : Bs w v l) (hn : l.length ≤ 1099511627776) :
    Calls Try.prog 19 #[v] w (OutMsg (mget l) w) := by
  obtain ⟨⟨A, c, rfl, hc, _⟩, _⟩ := id h
  obtain ⟨W, hW⟩ : ∃ W : World, W = (w.alloc (.cells #[.slice A l.length c] 27)).alloc (.cells #[.int .u8 0, .slice none 0 0, .slice none 0 0, .slice none 0 0] 26) := ⟨_, rfl⟩
  have q1 : W.heap[w.heap.size]? = some (.cells #[.slice A l.length c] 27 (0, 0)) := by rw [hW]; exact heap_old (heap_new _ _) _
  have q2 : W.heap[w.heap.size + 1]? = some (.cells #[.int .u8 0, .slice none 0 0, .slice none 0 0, .slice none 0 0] 26 (0, 0)) := by rw [hW]; exact heap_new' _ _ _ (by simp)
  have hb0 : Below w.heap.size w W := by rw [hW]; exact two _ _ _
  go_enter Try.func19, Try.ntmps19
  go_wp2_with fail
  rw [← hW]
  clear hW
  refine (unseal_f _ l 1048576 _ (h.below hb0) hn).mono ?_
  rintro e w1 ⟨v1, rfl, ho1, hv1, hb1⟩
  have hP : mget l = if (if 1048576 < l.length then (([], 3) : List Nat × Nat) else us l).2 ≠ 0 then .error (if 1048576 < l.length then (([], 3) : List Nat × Nat) else us l).2 else mdec (if 1048576 < l.length then (([], 3) : List Nat × Nat) else us l).1 := by
    unfold mget
    by_cases hbig : 1048576 < l.length
    · rw [if_pos hbig, if_pos hbig, if_pos (by simp)]
    · rw [if_neg hbig, if_neg hbig]
  have hbl0 : (if 1048576 < l.length then (([], 3) : List Nat × Nat) else us l).1.length ≤ l.length := by
    split
    · simp
    · exact us_len l
  generalize (if 1048576 < l.length then (([], 3) : List Nat × Nat) else us l) = r at *
  obtain ⟨b, er⟩ := r
  dsimp only at *
  have hbw := nxt hb0 hb1
  have p1 := heap_below q1 hb1
  have p2 := heap_below q2 hb1
  have c0 : w1.cell? ⟨w.heap.size, 0, none⟩ = some _ := cell_block p1 0
  have f0 := free_block p1 0
  have s1 := lt_heap p2
  obtain ⟨⟨A1, c1, rfl, hc1, _⟩, _⟩ := id hv1
  obtain ⟨X, hX⟩ : ∃ X : World, X = w1.setCell ⟨w.heap.size, 0, none⟩ (.slice A1 b.length c1) := ⟨_, rfl⟩
  have x1 : X.heap[w.heap.size]? = some (.cells #[.slice A1 b.length c1] 27 (0, 0)) := by rw [hX]; exact heap_set p1 0 _
  have x2 : X.heap[w.heap.size + 1]? = some (.cells #[.int .u8 0, .slice none 0 0, .slice none 0 0, .slice none 0 0] 26 (0, 0)) := by rw [hX]; exact heap_set_ne p2 (show w.heap.size + 1 ≠ w.heap.size by omega) 0 _
  have hbX : Below w.heap.size w X := by rw [hX]; exact hbw.setCell (Nat.le_refl _) (p := ⟨w.heap.size, 0, none⟩) _
  have hsW : w.heap.size + 1 < W.heap.size := lt_heap q2
  have hoX : Own X W.heap.size (.slice A1 b.length c1) b := by
    rw [hX]
    exact ho1.set1 (by omega) 0 _
  have h8 := hv1.2
  have hvX := Bs.of_own hoX h8
  have hbl : b.length ≤ 1099511627776 := Nat.le_trans hbl0 hn
  have HP := Lib.hid hP
  clear hP p1 p2 hb1 hbw ho1 hv1 hbl0
  go_upto_if 13 with (fail)
  rw [← hX]
  clear hX c0 f0 q1 q2 hb0
  obtain ⟨⟨d0, d1, d2, d3⟩, ⟨g0, g1, g2, g3⟩⟩ := box4f x2
  have c0 : X.cell? ⟨w.heap.size, 0, none⟩ = some _ := cell_block x1 0
  by_cases he : er = 0
  · subst he
    rw [show ((0 : Nat) : Int) = 0 from rfl]
    have HQ : Hid (mget l = mdec b) := HP.out.trans (if_neg (by simp))
    clear HP
    by_cases hemp : b = []
    · subst hemp
      have HE : Hid (mget l = .error 11) := HQ.out.trans (by unfold mdec; rw [if_pos rfl])
      clear HQ
      rw [show (([] : List Nat).length : Nat) = 0 from rfl] at *
      go_wp2_with fail
      exact retM 11 x2 hbX (Nat.le_succ _) rfl rfl rfl (fun Z hZ _ => ⟨hZ, by rw [HE.out]; rfl⟩)
    · have hlb : 1 ≤ b.length := List.length_pos_iff.2 hemp
      have k0 : ((b.length : Int) == 0) = false := beq_eq_false_iff_ne.2 (by omega)
      have hcellb := hvX.parts.2.2.1.byte hemp
      obtain ⟨bb, ob, rfl, hbb, hcb⟩ := hcellb
      obtain ⟨k, hk⟩ : ∃ k, k = b.getD 0 0 := ⟨_, rfl⟩
      have cb0 : X.cell? ⟨bb, ob, none⟩ = some (.int .u8 (k : Int)) := by rw [hk]; exact hcb 0 (by omega)
      have hk8 : k < 256 := by
        rw [hk]
        have := h8 b[0] (List.getElem_mem (by omega))
        rw [show b.getD 0 0 = b[0] by simp [List.getD, List.getElem?_eq_getElem (show 0 < b.length from hlb)]]
        exact this
      have HQ' : Hid (mget l = match lst b 64 (fN b) 1 with
          | .error e => .error e
          | .ok (ns, a1) => match lst b 64 (fV b) a1 with
            | .error e => .error e
            | .ok (vs, a2) => match lst b 16 (fB b) a2 with
              | .error e => .error e
              | .ok (bs, a3) => if a3 < b.length then .error 10 else .ok ⟨k, ns, vs, bs⟩) := by
        show _ = _
        rw [HQ.out]
        unfold mdec
        rw [if_neg hemp, hk]
        rfl
      obtain ⟨Y, hY⟩ : ∃ Y : World, Y = X.alloc (.cells #[.int .u8 (k : Int), .slice none 0 0, .slice none 0 0, .slice none 0 0] 26) := ⟨_, rfl⟩
      have hXY : Below X.heap.size X Y := by rw [hY]; exact (Below.refl _ _).alloc (Nat.le_refl _) _
      obtain ⟨G, hG⟩ : ∃ G, G = X.heap.size := ⟨_, rfl⟩
      have y1 := heap_below x1 hXY
      have y2 := heap_below x2 hXY
      have y3 : Y.heap[G]? = some (.cells #[.int .u8 (k : Int), .slice none 0 0, .slice none 0 0, .slice none 0 0] 26 (0, 0)) := by rw [hY, hG]; exact heap_new _ _
      have hbY := nxt hbX hXY
      have hvY := hvX.below hXY
      have hGw : w.heap.size + 1 < G := by have := lt_heap x2; omega
      have hbG : bb ≠ G := by omega
      have hGY : G < Y.heap.size := lt_heap y3
      clear HQ hk hcb
      go_upto_region 7 with fail
      rw [← hY, ← hG]
      clear hY hG x1 x2 hXY hbX hvX hoX d0 d1 d2 d3 g0 g1 g2 g3 c0 cb0
      obtain ⟨⟨m0, m1, m2, m3⟩, ⟨n0, n1, n2, n3⟩⟩ := box4f y3
      have c0 : Y.cell? ⟨w.heap.size, 0, none⟩ = some _ := cell_block y1 0
      cases hL : lst b 64 (fN b) 1 with
      | error e1 =>
        have hne := lst_err0 (fun a er h => fN_err b a er h) hL
        have HE : Hid (mget l = .error e1) := by show _ = _; rw [HQ'.out, hL]
        have HL := Lib.hid hL
        have k1 : ((e1 : Int) != 0) = true := bne_iff_ne.2 (by omega)
        clear HQ' hL hne
        go_wp2_with fail
        refine (numlist_any w.heap.size _ b 1 Y y1 hvY hbl hlb).mono ?_
        rw [HL.out]
        rintro e w2 ⟨hb2, rfl⟩
        obtain ⟨Z, hZ, z1, z2, z3, hbZ, -⟩ := stepM (f := 1) (u := .slice none 0 0) y1 y2 y3 hbY hGw hGY hb2
        obtain ⟨⟨m0, m1, m2, m3⟩, ⟨n0, n1, n2, n3⟩⟩ := box4f (heap_below y3 hb2)
        go_upto_if 34 with (fail)
        rw [← hZ]
        clear hZ m0 m1 m2 m3 n0 n1 n2 n3 c0
        obtain ⟨⟨d0, d1, d2, d3⟩, ⟨g0, g1, g2, g3⟩⟩ := box4f z2
        go_wp2_with fail
        exact retM e1 z2 hbZ (Nat.le_succ _) rfl rfl rfl (fun Z hZ _ => ⟨hZ, by rw [HE.out]; rfl⟩)
      | ok r1 =>
        obtain ⟨ns, a1⟩ := r1
        obtain ⟨ln1, ln2, -, ln4, -⟩ := lst_back b h8 64 (fN b) gN _ (fN_back b h8) 1 ns a1 hlb hL
        have HQ2 : Hid (mget l = match lst b 64 (fV b) a1 with
            | .error e => .error e
            | .ok (vs, a2) => match lst b 16 (fB b) a2 with
              | .error e => .error e
              | .ok (bs, a3) => if a3 < b.length then .error 10 else .ok ⟨k, ns, vs, bs⟩) := by show _ = _; rw [HQ'.out, hL]
        have HL := Lib.hid hL
        clear HQ' hL
        go_wp2_with fail
        refine (numlist_any w.heap.size _ b 1 Y y1 hvY hbl hlb).mono ?_
        rw [HL.out]
        rintro e w2 ⟨hb2, un, rfl, hown⟩
        obtain ⟨An, cn, rfl⟩ : ∃ A c, un = .slice A ns.length c := by
          rcases hown.2 with ⟨h1, h2⟩ | ⟨g, cap, cur, he, _⟩
          · exact ⟨none, 0, by rw [h1, h2]⟩
          · exact ⟨_, cap, he⟩
        have hncap : ns.length ≤ cn := by
          rcases hown.2 with ⟨h1, h2⟩ | ⟨g, cap, cur, he, _, _, hc', _⟩
          · omega
          · injection he with _ _ h3
            omega
        obtain ⟨Z, hZ, z1, z2, z3, hbZ, hHi⟩ := stepM (f := 1) (u := .slice An ns.length cn) y1 y2 y3 hbY hGw hGY hb2
        have hvZ : Bs Z (.slice (some ⟨bb, ob, none⟩) b.length c1) b := by
          rw [hZ]
          exact (hvY.below hb2).setOther hbG 1 _
        have hatN := (AtS.of_own hown).keep (S' := fun q => Y.heap.size ≤ q ∧ q < Z.heap.size) (fun q hq => hHi.cell hq) (fun q hq => hHi.in hq)
        obtain ⟨⟨m0, m1, m2, m3⟩, ⟨n0, n1, n2, n3⟩⟩ := box4f (heap_below y3 hb2)
        have hYZ : Y.heap.size ≤ Z.heap.size := Nat.le_trans hb2.size hHi.size
        go_upto_region 11 with fail
        rw [← hZ]
        clear hZ m0 m1 m2 m3 n0 n1 n2 n3 c0 hown hHi hb2 y1 y2 y3 hbY hvY
        have z3 : Z.heap[G]? = some (.cells #[.int .u8 (k : Int), .slice An ns.length cn, .slice none 0 0, .slice none 0 0] 26 (0, 0)) := z3
        have c0 : Z.cell? ⟨w.heap.size, 0, none⟩ = some _ := cell_block z1 0
        cases hL2 : lst b 64 (fV b) a1 with
        | error e2 =>
          have hne := lst_err0 (fun a er h => fV_err b a er h) hL2
          have HE : Hid (mget l = .error e2) := by show _ = _; rw [HQ2.out, hL2]
          have HL2 := Lib.hid hL2
          have k1 : ((e2 : Int) != 0) = true := bne_iff_ne.2 (by omega)
          clear HQ2 hL2 hne
          go_wp2_with fail
          refine (vallist_any w.heap.size _ b a1 Z z1 hvZ hbl ln4).mono ?_
          rw [HL2.out]
          rintro e w3 ⟨hb3, rfl⟩
          obtain ⟨V, hV, v1, v2, v3, hbV, -⟩ := stepM (f := 2) (u := .slice none 0 0) z1 z2 z3 hbZ hGw (Nat.lt_of_lt_of_le hGY hYZ) hb3
          obtain ⟨⟨m0, m1, m2, m3⟩, ⟨n0, n1, n2, n3⟩⟩ := box4f (heap_below z3 hb3)
          go_upto_if 47 with (fail)
          rw [← hV]
          clear hV m0 m1 m2 m3 n0 n1 n2 n3 c0
          obtain ⟨⟨d0, d1, d2, d3⟩, ⟨g0, g1, g2, g3⟩⟩ := box4f v2
          go_wp2_with fail
          exact retM e2 v2 hbV (Nat.le_succ _) rfl rfl rfl (fun Z hZ _ => ⟨hZ, by rw [HE.out]; rfl⟩)
        | ok r2 =>
          obtain ⟨vs, a2⟩ := r2
          obtain ⟨lv1, lv2, -, lv4, -⟩ := lst_back b h8 64 (fV b) (enc 16) _ (fV_back b h8) a1 vs a2 ln4 hL2
          have HQ3 : Hid (mget l = match lst b 16 (fB b) a2 with
              | .error e => .error e
              | .ok (bs, a3) => if a3 < b.length then .error 10 else .ok ⟨k, ns, vs, bs⟩) := by show _ = _; rw [HQ2.out, hL2]
          have HL2 := Lib.hid hL2
          clear HQ2 hL2
          go_wp2_with fail
          refine (vallist_any w.heap.size _ b a1 Z z1 hvZ hbl ln4).mono ?_
          rw [HL2.out]
          rintro e w3 ⟨hb3, Av, cv, rfl, hvcap, -, hreps⟩
          obtain ⟨V, hV, v1, v2, v3, hbV, hHi⟩ := stepM (f := 2) (u := .slice Av vs.length cv) z1 z2 z3 hbZ hGw (Nat.lt_of_lt_of_le hGY hYZ) hb3
          have hvV : Bs V (.slice (some ⟨bb, ob, none⟩) b.length c1) b := by
            rw [hV]
            exact (hvZ.below hb3).setOther hbG 2 _
          have hZV : Hi Y.heap.size Z V := (Hi.below hb3).trans ⟨hHi.size, by
            rw [hV]
            exact fun q h1 _ => Below.heap_setCell _ _ _ _ (show q ≠ G by omega)⟩
          have hw3V : Hi Y.heap.size w3 V := ⟨hHi.size, by
            rw [hV]
            exact fun q h1 _ => Below.heap_setCell _ _ _ _ (show q ≠ G by omega)⟩
          have hatN2 := hatN.keep (S' := fun q => Y.heap.size ≤ q ∧ q < V.heap.size) (fun q hq => hZV.cell hq) (fun q hq => hZV.in hq)
          have hrepV := hreps.keepS (S' := fun q => Y.heap.size ≤ q ∧ q < V.heap.size) (fun q hq => hw3V.cell ⟨Nat.le_trans hYZ hq.1, hq.2⟩) (fun q hq => hw3V.in ⟨Nat.le_trans hYZ hq.1, hq.2⟩)
          have hYV : Y.heap.size ≤ V.heap.size := Nat.le_trans hYZ hZV.size
          obtain ⟨⟨m0, m1, m2, m3⟩, ⟨n0, n1, n2, n3⟩⟩ := box4f (heap_below z3 hb3)
          go_upto_region 14 with fail
          rw [← hV]
          clear hV m0 m1 m2 m3 n0 n1 n2 n3 c0 hHi hb3 z1 z2 z3 hbZ hvZ hatN hreps hZV hw3V
          have v3 : V.heap[G]? = some (.cells #[.int .u8 (k : Int), .slice An ns.length cn, .slice Av vs.length cv, .slice none 0 0] 26 (0, 0)) := v3
          have c0 : V.cell? ⟨w.heap.size, 0, none⟩ = some _ := cell_block v1 0
          cases hL3 : lst b 16 (fB b) a2 with
          | error e3 =>
            have hne := lst_err0 (fun a er h => fB_err b a er h) hL3
            have HE : Hid (mget l = .error e3) := by show _ = _; rw [HQ3.out, hL3]
            have HL3 := Lib.hid hL3
            have k1 : ((e3 : Int) != 0) = true := bne_iff_ne.2 (by omega)
            clear HQ3 hL3 hne
            go_wp2_with fail
            refine (bloblist_any w.heap.size _ b a2 V v1 hvV hbl lv4).mono ?_
            rw [HL3.out]
            rintro e w4 ⟨hb4, rfl⟩
            obtain ⟨U, hU, p1, p2, p3, hbU, -⟩ := stepM (f := 3) (u := .slice none 0 0) v1 v2 v3 hbV hGw (Nat.lt_of_lt_of_le hGY hYV) hb4
            obtain ⟨⟨m0, m1, m2, m3⟩, ⟨n0, n1, n2, n3⟩⟩ := box4f (heap_below v3 hb4)
            go_upto_if 60 with (fail)
            rw [← hU]
            clear hU m0 m1 m2 m3 n0 n1 n2 n3 c0
            obtain ⟨⟨d0, d1, d2, d3⟩, ⟨g0, g1, g2, g3⟩⟩ := box4f p2
            go_wp2_with fail
            exact retM e3 p2 hbU (Nat.le_succ _) rfl rfl rfl (fun Z hZ _ => ⟨hZ, by rw [HE.out]; rfl⟩)
          | ok r3 =>
            obtain ⟨bs, a3⟩ := r3
            obtain ⟨lb1, lb2, -, lb4, -⟩ := lst_back b h8 16 (fB b) gB _ (fB_back b h8) a2 bs a3 lv4 hL3
            have HQ4 : Hid (mget l = if a3 < b.length then .error 10 else .ok ⟨k, ns, vs, bs⟩) := by show _ = _; rw [HQ3.out, hL3]
            have HL3 := Lib.hid hL3
            clear HQ3 hL3
            go_wp2_with fail
            refine (bloblist_any w.heap.size _ b a2 V v1 hvV hbl lv4).mono ?_
            rw [HL3.out]
            rintro e w4 ⟨hb4, ub, vbs, rfl, hown, hblk⟩
            obtain ⟨Ab, cb, rfl⟩ : ∃ A c, ub = .slice A bs.length c := by
              rcases hown.2 with ⟨h1, h2⟩ | ⟨g, cap, cur, he, _⟩
              · exact ⟨none, 0, by rw [h1, h2]⟩
              · exact ⟨_, cap, he⟩
            have hbcap : bs.length ≤ cb := by
              rcases hown.2 with ⟨h1, h2⟩ | ⟨g, cap, cur, he, _, _, hc', _⟩
              · omega
              · injection he with _ _ h3
                omega
            obtain ⟨U, hU, p1, p2, p3, hbU, hHi⟩ := stepM (f := 3) (u := .slice Ab bs.length cb) v1 v2 v3 hbV hGw (Nat.lt_of_lt_of_le hGY hYV) hb4
            have hw4U : Hi Y.heap.size w4 U := ⟨hHi.size, by
              rw [hU]
              exact fun q h1 _ => Below.heap_setCell _ _ _ _ (show q ≠ G by omega)⟩
            have hVU : Hi Y.heap.size V U := (Hi.below hb4).trans hw4U
            have hatN3 := hatN2.keep (S' := fun q => Y.heap.size ≤ q ∧ q < U.heap.size) (fun q hq => hVU.cell hq) (fun q hq => hVU.in hq)
            have hrepU := hrepV.keepS (S' := fun q => Y.heap.size ≤ q ∧ q < U.heap.size) (fun q hq => hVU.cell hq) (fun q hq => hVU.in hq)
            have hblkU := (BlkS.of_own hown hblk).keep (S' := fun q => Y.heap.size ≤ q ∧ q < U.heap.size) (fun q hq => hw4U.cell ⟨Nat.le_trans hYV hq.1, hq.2⟩) (fun q hq => hw4U.in ⟨Nat.le_trans hYV hq.1, hq.2⟩)
            obtain ⟨⟨m0, m1, m2, m3⟩, ⟨n0, n1, n2, n3⟩⟩ := box4f (heap_below v3 hb4)
            go_upto_if 60 with (fail)
            rw [← hU]
            clear hU m0 m1 m2 m3 n0 n1 n2 n3 c0 hHi hb4 v1 v2 v3 hbV hvV hatN2 hrepV hw4U hVU hown hblk
            have p3 : U.heap[G]? = some (.cells #[.int .u8 (k : Int), .slice An ns.length cn, .slice Av vs.length cv, .slice Ab bs.length cb] 26 (0, 0)) := p3
            have c0 : U.cell? ⟨w.heap.size, 0, none⟩ = some (.slice (some ⟨bb, ob, none⟩) b.length c1) := cell_block p1 0
            obtain ⟨⟨d0, d1, d2, d3⟩, ⟨g0, g1, g2, g3⟩⟩ := box4f p2
            obtain ⟨⟨m0, m1, m2, m3⟩, -⟩ := box4f p3
            by_cases hx : a3 < b.length
            · have HE : Hid (mget l = .error 10) := HQ4.out.trans (if_pos hx)
              have k3 : decide ((a3 : Int) < (b.length : Int)) = true := decide_eq_true (by omega)
              have k3' : decide (a3 < b.length) = true := decide_eq_true hx
              clear HQ4
              go_wp2_with fail
              exact retM 10 p2 hbU (Nat.le_succ _) rfl rfl rfl (fun Z hZ _ => ⟨hZ, by rw [HE.out]; rfl⟩)
            · have HE : Hid (mget l = .ok ⟨k, ns, vs, bs⟩) := HQ4.out.trans (if_neg hx)
              have k3 : decide ((a3 : Int) < (b.length : Int)) = false := decide_eq_false (by omega)
              have k3' : decide (a3 < b.length) = false := decide_eq_false hx
              have hok : MOk ⟨k, ns, vs, bs⟩ := ⟨hk8, ln2, fun v hv => (lv2 v hv).2, fun x hx => (lb2 x hx).2⟩
              have hwY : w.heap.size ≤ Y.heap.size := by omega
              have fin : ∀ Z : World, Below w.heap.size w Z → Z = ((((U.setCell ⟨w.heap.size + 1, 0, none⟩ (.int .u8 (k : Int))).setCell ⟨w.heap.size + 1, 1, none⟩ (.slice An ns.length cn)).setCell ⟨w.heap.size + 1, 2, none⟩ (.slice Av vs.length cv)).setCell ⟨w.heap.size + 1, 3, none⟩ (.slice Ab bs.length cb)) →
                  OutMsg (mget l) w (.returned (.tuple #[.agg #[.int .u8 (k : Int), .slice An ns.length cn, .slice Av vs.length cv, .slice Ab bs.length cb], .int .i64 ((0 : Nat) : Int)])) Z := by
                intro Z hZ hZe
                have hUZ : Hi Y.heap.size U Z := by
                  rw [hZe]
                  exact (((Hi.set _ _ (by omega) 0 _).trans (Hi.set _ _ (by omega) 1 _)).trans (Hi.set _ _ (by omega) 2 _)).trans (Hi.set _ _ (by omega) 3 _)
                refine ⟨hZ, ?_⟩
                rw [HE.out]
                refine ⟨_, rfl, hok, An, cn, Av, cv, Ab, cb, rfl, hncap, hvcap, hbcap, ?_, ?_, ?_⟩
                · exact hatN3.keep (fun q hq => hUZ.cell hq) (fun q hq => ⟨Nat.le_trans hwY hq.1, (hUZ.in hq).2⟩)
                · exact hrepU.keepS (fun q hq => hUZ.cell hq) (fun q hq => ⟨Nat.le_trans hwY hq.1, (hUZ.in hq).2⟩)
                · exact hblkU.keep (fun q hq => hUZ.cell hq) (fun q hq => ⟨Nat.le_trans hwY hq.1, (hUZ.in hq).2⟩)
              have FIN := Lib.hid fin
              clear HQ4 fin
              go_wp2_with fail
              exact retM 0 p2 hbU (Nat.le_succ _) rfl rfl rfl (fun Z hZ e => FIN.out Z hZ e)
  · have k1 : ((er : Int) != 0) = true := bne_iff_ne.2 (by omega)
    have HE : Hid (mget l = .error er) := HP.out.trans (if_pos he)
    clear HP
    go_wp2_with fail
    exact retM er x2 hbX (Nat.le_succ _) rfl rfl rfl (fun Z hZ _ => ⟨hZ, by rw [HE.out]; rfl⟩)
end Go.Proofs.Ytjcefnlidophoaa
