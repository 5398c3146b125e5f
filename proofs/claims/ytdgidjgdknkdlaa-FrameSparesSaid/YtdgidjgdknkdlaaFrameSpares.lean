/- droverlaw03.FrameSpares returns true whatever its arguments: what is handed in, and what is told, shares no memory. For every input, without conditions. -/
import Derived.Test.YtdgidjgdknkdlaaRow
import Derived.Test.YtdgidjgdknkdlaaAwake03
import Derived.Test.YtdgidjgdknkdlaaMopen
import Derived.Test.YtdgidjgdknkdlaaPopen
import Derived.Test.YtdgidjgdknkdlaaSmallm
namespace Go.Proofs.Ytdgidjgdknkdlaa.frameSpares
open Go.ChangeShapes Go.WideShapes Go.ChangeAt Go.RowKit
set_option linter.unusedVariables false

theorem zero_set {l : List Nat} (j : Nat) : (l.set j 0).length = l.length := by simp
theorem kp_below {g : Nat} {a w w' : World} (h : Kp g a w) (hb : Below w.heap.size w w') : Kp g a w' := h.trans (Kp.of_below hb)
theorem pint_true {f l s a : Int} {d : List Nat} (h : pint f l s a d = true) : 0 ≤ f ∧ 0 ≤ l ∧ 0 ≤ s ∧ 0 ≤ a ∧ pright ⟨f.toNat, l.toNat, s.toNat, a.toNat, d⟩ = true := by
  unfold pint at h
  simp only [Bool.and_eq_true, decide_eq_true_eq, Bool.or_eq_true, List.isEmpty_iff] at h
  obtain ⟨⟨⟨⟨⟨h1, h2⟩, h3⟩, h4⟩, h5⟩, h6⟩ := h
  refine ⟨h1.1, h2.1, h3.1, h4.1, pright_iff.2 ⟨by dsimp only; omega, by dsimp only; omega, by dsimp only; omega, by dsimp only; omega, h5, fun h => ?_⟩⟩
  rcases h6 with h6 | h6
  · exact absurd (by dsimp only at h; omega) h6
  · exact h6
theorem penc_len {p : Pk} (h : pright p = true) : (penc p).length ≤ 1048626 := by
  obtain ⟨h1, h2, h3, h4, h5, -⟩ := pright_iff.1 h
  have n1 := (varint_length p.f).2
  have n2 := (varint_length p.l).2
  have n3 := (varint_length p.s).2
  have n4 := (varint_length p.a).2
  have n5 := (varint_length p.d.length).2
  simp [penc, gB]
  omega
theorem samep_self (f l s a : Nat) (d : List Nat) (A A' : Option Addr) (c c' : Nat) (w : World) (hd : Bs w (.slice A d.length c) d) (hd' : Bs w (.slice A' d.length c') d) :
    Calls Try.prog 19 #[.agg #[.int .i64 (f : Int), .int .i64 (l : Int), .int .i64 (s : Int), .int .i64 (a : Int), .slice A d.length c], .agg #[.int .i64 (f : Int), .int .i64 (l : Int), .int .i64 (s : Int), .int .i64 (a : Int), .slice A' d.length c']] w fun e w' => e = .returned (.bool true) ∧ Below w.heap.size w w' := by
  refine (samep_any f l s a f l s a d d A A' c c' w hd hd').mono ?_
  rintro e w' ⟨rfl, h⟩
  exact ⟨congrArg Ending.returned (congrArg Value.bool (decide_eq_true ⟨rfl, rfl, rfl, rfl, rfl⟩)), h⟩

set_option maxRecDepth 100000 in
set_option maxHeartbeats 3200000 in
theorem walk (w : World) (v0 : Value) (v1 : Value) (w0 : ∃ m, MRep w (fun b => b < w.heap.size) v0 m) (w1 : PkIs w v1) :
    Calls Try.prog 9 #[v0, v1] w fun e w' => e = .returned (.bool true) ∧ Below w.heap.size w w' := by
  obtain ⟨m, hm⟩ := w0
  obtain ⟨f, l, s, a, A, c, dl, rfl, hd, hf, hl, hs, ha⟩ := w1
  have h0 := Lib.hid hm
  obtain ⟨hok, An, cn, Av, cv, Ab, cb, rfl, -, -, -, -, -, -⟩ := hm
  have hbW := two w (.cells #[.int .u8 (m.k : Int), .slice An m.nums.length cn, .slice Av m.vals.length cv, .slice Ab m.blobs.length cb] 30) (.cells #[.int .i64 f, .int .i64 l, .int .i64 s, .int .i64 a, .slice A dl.length c] 41)
  have q1 := heap_old (heap_new w (.cells #[.int .u8 (m.k : Int), .slice An m.nums.length cn, .slice Av m.vals.length cv, .slice Ab m.blobs.length cb] 30)) (.cells #[.int .i64 f, .int .i64 l, .int .i64 s, .int .i64 a, .slice A dl.length c] 41)
  have q2 := heap_new' (w.alloc (.cells #[.int .u8 (m.k : Int), .slice An m.nums.length cn, .slice Av m.vals.length cv, .slice Ab m.blobs.length cb] 30)) (.cells #[.int .i64 f, .int .i64 l, .int .i64 s, .int .i64 a, .slice A dl.length c] 41) (w.heap.size + 1) (by simp)
  obtain ⟨c0, c1, c2, c3⟩ := box4 q1
  have hsm := Lib.hid (smallm_any m _ _ (h0.out.under hbW hbW.size))
  go_enter Try.func9, Try.ntmps9
  go_wp2_with fail
  refine hsm.out.mono ?_
  rintro e x1 ⟨rfl, hb1⟩
  have hbx1 := nxt hbW hb1
  have q1' := heap_below q1 hb1
  have q2' := heap_below q2 hb1
  clear q1 q2 c0 c1 c2 c3 hsm hbW hb1
  obtain ⟨c0, c1, c2, c3⟩ := box4 q1'
  obtain ⟨d0, d1, d2, d3, d4⟩ := box5f q2'
  cases hsmall : smallM m with
  | false =>
    clear hsmall
    go_wp2_with fail
    refine (awake03_any _).mono ?_
    rintro e x9 ⟨rfl, hb9⟩
    go_wp2_with fail
    go_ret
    exact ⟨rfl, nxt hbx1 hb9⟩
  | true =>
  by_cases hbig : 1000 < dl.length
  · have k1 : decide ((1000 : Int) < (dl.length : Int)) = true := by rw [decide_eq_true_iff]; omega
    have k2 : decide (1000 < dl.length) = true := by rw [decide_eq_true_iff]; omega
    clear hsmall hbig
    go_wp2_with fail
    refine (awake03_any _).mono ?_
    rintro e x9 ⟨rfl, hb9⟩
    go_wp2_with fail
    go_ret
    exact ⟨rfl, nxt hbx1 hb9⟩
  have k1 : decide ((1000 : Int) < (dl.length : Int)) = false := by rw [decide_eq_false_iff_not]; omega
  have k2 : decide (1000 < dl.length) = false := by rw [decide_eq_false_iff_not]; omega
  have hput := Lib.hid (putm_any m _ x1 (h0.out.under hbx1 hbx1.size))
  clear hsmall
  go_wp2_with fail
  refine hput.out.mono ?_
  rintro e x2 ⟨hb2, hno, hyes⟩
  have hbx2 := nxt hbx1 hb2
  have r1 := heap_below q1' hb2
  have r2 := heap_below q2' hb2
  clear c0 c1 c2 c3 d0 d1 d2 d3 d4 q1' q2' hput hb2 hbx1 k1 k2
  have hput : ∃ (u : Value) (er : Nat), e = .returned (.tuple #[u, .int .i64 (er : Int)]) ∧ ((er = 0 ∧ mright m = true ∧ Bs x2 u (menc m ++ be4 (crcN (menc m)))) ∨ er = 14) := by
    cases hr : mright m with
    | false => exact ⟨_, 14, hno hr, .inr rfl⟩
    | true =>
      obtain ⟨u, e1, -, hu⟩ := hyes hr
      exact ⟨u, 0, e1, .inl ⟨rfl, rfl, hu⟩⟩
  obtain ⟨u, er, rfl, hP⟩ := hput
  clear hno hyes
  go_upto_if 35 with (fail)
  go_cut [] (fun wx => Below x2.heap.size x2 wx)
  case first =>
    rcases hP with ⟨rfl, hr, hu⟩ | rfl
    · have hget := Lib.hid (mget_put hr hok)
      obtain ⟨hn1, hn2, hrv, hn3, -, hlen⟩ := mright_iff.1 hr
      have hrt := Lib.hid (fun x hx => right_rt (hrv x hx))
      clear hr hrv
      generalize hsl : menc m ++ be4 (crcN (menc m)) = sl at *
      have hsll : sl.length ≤ 1048580 ∧ 4 ≤ sl.length := by rw [← hsl, List.length_append, be4_length]; omega
      clear hsl hlen
      rw [show ((0 : Nat) : Int) = 0 from rfl]
      go_wp2_with fail
      refine (copy_bs u sl x2 hu (by omega)).mono ?_
      rintro e x3 ⟨v3, rfl, ho3, hv3, hb3⟩
      obtain ⟨g, c3, rfl, hg, hc3⟩ := ho3.head (by intro h; rw [h] at hsll; simp at hsll)
      have hg3 : g < x3.heap.size := (World.ownsRow.lt ho3 g rfl).2
      go_wp2_with fail
      refine (getm_any _ sl x3 hv3 (by omega)).mono ?_
      rw [hget.out]
      rintro e x4 ⟨hb4, vx, rfl, hmx⟩
      have hmx0 := Lib.hid hmx
      obtain ⟨-, Bn, dn, Bv, dv, Bb, db, rfl, -, -, -, -, -, -⟩ := hmx
      have hbB := (Below.refl x4.heap.size x4).alloc (Nat.le_refl _) (.cells #[.int .u8 (m.k : Int), .slice Bn m.nums.length dn, .slice Bv m.vals.length dv, .slice Bb m.blobs.length db] 30)
      have p8 := heap_new x4 (.cells #[.int .u8 (m.k : Int), .slice Bn m.nums.length dn, .slice Bv m.vals.length dv, .slice Bb m.blobs.length db] 30)
      have ho4 := (ho3.below hb4 (Nat.le_refl _)).below hbB (Nat.le_refl _)
      have hb34 := nxt hb4 hbB
      have hb24 := nxt hb3 hb34
      clear hv3 ho3 hb3
      go_wp2_with fail
      generalize hX4 : x4.alloc (.cells #[.int .u8 (m.k : Int), .slice Bn m.nums.length dn, .slice Bv m.vals.length dv, .slice Bb m.blobs.length db] 30) = X4 at *
      go_loopw [45] (fun i wr => ∃ (j : Nat) (l' : List Nat), j ≤ sl.length ∧ i = .int .i64 (j : Int) ∧ l'.length = sl.length ∧ Own wr x2.heap.size (.slice (some ⟨g, 0, none⟩) sl.length c3) l' ∧ Kp g X4 wr) (fun i _ => sl.length - (intOf i).toNat)
      case atStart => exact ⟨0, sl, Nat.zero_le _, rfl, rfl, ho4, Kp.refl _ _⟩
      case round =>
        clear ho4
        obtain ⟨j, l', hj, rfl, hl', ho, hk⟩ := hrel
        by_cases hlt : j < sl.length
        · rw [← hl'] at ho
          have hfro := Own.frozenAt ho j rfl
          have hcx := Own.cellAt ho j (by omega)
          have hst := (Own.stored ho j 0).1
          rw [hl'] at hst
          have hk2 : Kp g X4 (wr.setCell ⟨g, j, none⟩ (.int .u8 0)) := hk.set rfl _
          have x5 : (j : Int) < sl.length := by omega
          have x7 : (0 : Int) ≤ j := by omega
          clear ho hk
          go_wp2_with fail
          go_roundw
          case rel => exact ⟨j + 1, l'.set j 0, by omega, by go_num, by rw [zero_set, hl'], hst, hk2⟩
          case measure => simp [intOf]; omega
        · have hbr : Below x2.heap.size X4 wr := hk.below hg hb24.size
          have hb2r := hb24.trans hbr
          have hur := hu.below hb2r
          have p8r := hk.heap p8 (show x4.heap.size ≠ g by have := hb4.size; omega)
          go_wp2_with fail
          refine (getm_any _ sl wr hur (by omega)).mono ?_
          rw [hget.out]
          rintro e x5 ⟨hb5, vy, rfl, hmy⟩
          have hmy0 := Lib.hid hmy
          obtain ⟨-, Cn, en, Cv, ev, Cb, eb, rfl, -, -, -, -, -, -⟩ := hmy
          have hbC := (Below.refl x5.heap.size x5).alloc (Nat.le_refl _) (.cells #[.int .u8 (m.k : Int), .slice Cn m.nums.length en, .slice Cv m.vals.length ev, .slice Cb m.blobs.length eb] 30)
          have p11 := heap_new x5 (.cells #[.int .u8 (m.k : Int), .slice Cn m.nums.length en, .slice Cv m.vals.length ev, .slice Cb m.blobs.length eb] 30)
          have hbr5 := nxt hb5 hbC
          have p8s := heap_below p8r hbr5
          have hb25 : Below x2.heap.size x2 (x5.alloc (.cells #[.int .u8 (m.k : Int), .slice Cn m.nums.length en, .slice Cv m.vals.length ev, .slice Cb m.blobs.length eb] 30)) := hb2r.trans (hbr5.mono hb2r.size)
          have r1s := heap_below r1 hb25
          have hmm := h0.out.under (hbx2.trans (hb25.mono hbx2.size)) (hbx2.trans (hb25.mono hbx2.size)).size
          have hxx : MRep (x5.alloc (.cells #[.int .u8 (m.k : Int), .slice Cn m.nums.length en, .slice Cv m.vals.length ev, .slice Cb m.blobs.length eb] 30)) (fun b => b < (x5.alloc (.cells #[.int .u8 (m.k : Int), .slice Cn m.nums.length en, .slice Cv m.vals.length ev, .slice Cb m.blobs.length eb] 30)).heap.size) (.agg #[.int .u8 (m.k : Int), .slice Bn m.nums.length dn, .slice Bv m.vals.length dv, .slice Bb m.blobs.length db]) m := by
            refine hmx0.out.keep (fun p hp => ?_) (fun b hb => ?_)
            · have hp4 : p.block < X4.heap.size := by rw [← hX4]; simp; omega
              rw [hbr5.cell (show p.block < wr.heap.size from Nat.lt_of_lt_of_le hp4 hk.size), cell_heap (hk.block p.block hp4 (fun e => by have := Option.some.inj e; omega))]
              exact hbB.cell hp.2
            · have h1 := hk.size
              have h2 := hbr5.size
              rw [← hX4] at h1
              simp at h1 h2 ⊢
              omega
          have hyy : MRep (x5.alloc (.cells #[.int .u8 (m.k : Int), .slice Cn m.nums.length en, .slice Cv m.vals.length ev, .slice Cb m.blobs.length eb] 30)) (fun b => b < (x5.alloc (.cells #[.int .u8 (m.k : Int), .slice Cn m.nums.length en, .slice Cv m.vals.length ev, .slice Cb m.blobs.length eb] 30)).heap.size) (.agg #[.int .u8 (m.k : Int), .slice Cn m.nums.length en, .slice Cv m.vals.length ev, .slice Cb m.blobs.length eb]) m := hmy0.out.keep (fun p hp => hbC.cell hp.2) (fun b hb => Nat.lt_of_lt_of_le hb.2 hbC.size)
          obtain ⟨c0, c1, c2, c3'⟩ := box4 r1s
          obtain ⟨e0, e1, e2, e3⟩ := box4 p8s
          have hs1 := Lib.hid (samem_any m _ _ _ hrt.out (by omega) (by omega) (by omega) hxx hmm)
          clear hb5 hbr p8r ho hk hbr5 hur
          go_wp2_with fail
          refine hs1.out.mono ?_
          rintro e x6 ⟨rfl, hb6⟩
          have p11s := heap_below p11 hb6
          have r1t := heap_below r1s hb6
          have hb26 := nxt hb25 hb6
          have hmm6 := hmm.under hb6 hb6.size
          have hyy6 := hyy.under hb6 hb6.size
          clear c0 c1 c2 c3' e0 e1 e2 e3 hs1 hxx hmm hyy hb25 r1s p11
          obtain ⟨c0, c1, c2, c3'⟩ := box4 r1t
          obtain ⟨e0, e1, e2, e3⟩ := box4 p11s
          have hs2 := Lib.hid (samem_any m _ _ _ hrt.out (by omega) (by omega) (by omega) hyy6 hmm6)
          go_wp2_with fail
          refine hs2.out.mono ?_
          rintro e x7 ⟨rfl, hb7⟩
          have hb27 := nxt hb26 hb7
          go_wp2_with fail
          go_meet
          exact hb27
    · go_wp2_with fail
      go_meet
      exact Below.refl _ _
  case rest =>
    have r2' := heap_below r2 hcut
    have hbw := nxt hbx2 hcut
    obtain ⟨d0, d1, d2, d3, d4⟩ := box5f r2'
    have hdw := hd.below hbw
    have hpk := Lib.hid (pack_any f l s a dl A c _ hdw hf hl hs ha)
    clear hcut r1 r2 hbx2 hd
    go_wp2_with fail
    refine hpk.out.mono ?_
    rintro e y1 ⟨hb1, hno, hyes⟩
    have hbw1 := nxt hbw hb1
    have r3 := heap_below r2' hb1
    have hd1 := hdw.below hb1
    clear hpk d0 d1 d2 d3 d4 r2' hb1 hdw hbw
    cases hp : pint f l s a dl with
    | false =>
      obtain rfl := hno hp
      clear hno hyes hp
      go_wp2_with fail
      refine (awake03_any _).mono ?_
      rintro e x9 ⟨rfl, hb9⟩
      go_wp2_with fail
      go_ret
      exact ⟨rfl, nxt hbw1 hb9⟩
    | true =>
      obtain ⟨u2, rfl, -, hu2⟩ := hyes hp
      obtain ⟨i1, i2, i3, i4, hpr⟩ := pint_true hp
      obtain ⟨fn, rfl⟩ : ∃ n : Nat, f = (n : Int) := ⟨f.toNat, by omega⟩
      obtain ⟨ln, rfl⟩ : ∃ n : Nat, l = (n : Int) := ⟨l.toNat, by omega⟩
      obtain ⟨sn, rfl⟩ : ∃ n : Nat, s = (n : Int) := ⟨s.toNat, by omega⟩
      obtain ⟨an, rfl⟩ : ∃ n : Nat, a = (n : Int) := ⟨a.toNat, by omega⟩
      simp only [Int.toNat_natCast] at hpr hu2
      have hget := Lib.hid (pget_put hpr)
      have hplen := penc_len hpr
      clear hno hyes hp hpr
      generalize hsl : penc ⟨fn, ln, sn, an, dl⟩ ++ be4 (crcN (penc ⟨fn, ln, sn, an, dl⟩)) = sl at *
      have hsll : sl.length ≤ 1048640 ∧ 4 ≤ sl.length := by rw [← hsl, List.length_append, be4_length]; omega
      clear hsl hplen
      go_wp2_with fail
      refine (copy_bs u2 sl y1 hu2 (by omega)).mono ?_
      rintro e y3 ⟨v3, rfl, ho3, hv3, hb3⟩
      obtain ⟨g, c3, rfl, hg, hc3⟩ := ho3.head (by intro h; rw [h] at hsll; simp at hsll)
      have hg3 : g < y3.heap.size := (World.ownsRow.lt ho3 g rfl).2
      go_wp2_with fail
      refine (unpack_any _ sl y3 hv3 (by omega)).mono ?_
      rw [hget.out]
      rintro e y4 ⟨hb4, A4, c4, rfl, ho44, hv4⟩
      have hbB := (Below.refl y4.heap.size y4).alloc (Nat.le_refl _) (.cells #[.int .i64 (fn : Int), .int .i64 (ln : Int), .int .i64 (sn : Int), .int .i64 (an : Int), .slice A4 dl.length c4] 41)
      have p16 := heap_new y4 (.cells #[.int .i64 (fn : Int), .int .i64 (ln : Int), .int .i64 (sn : Int), .int .i64 (an : Int), .slice A4 dl.length c4] 41)
      have ho4 := (ho3.below hb4 (Nat.le_refl _)).below hbB (Nat.le_refl _)
      have hb34 := nxt hb4 hbB
      have hb14 := nxt hb3 hb34
      have ho5 := ho44.below hbB (Nat.le_refl _)
      clear hv3 ho3 hb3 hv4 ho44 hget hu2
      go_wp2_with fail
      generalize hX4 : y4.alloc (.cells #[.int .i64 (fn : Int), .int .i64 (ln : Int), .int .i64 (sn : Int), .int .i64 (an : Int), .slice A4 dl.length c4] 41) = X4 at *
      go_loopw [91] (fun i wr => ∃ (j : Nat) (l' : List Nat), j ≤ sl.length ∧ i = .int .i64 (j : Int) ∧ l'.length = sl.length ∧ Own wr y1.heap.size (.slice (some ⟨g, 0, none⟩) sl.length c3) l' ∧ Kp g X4 wr) (fun i _ => sl.length - (intOf i).toNat)
      case atStart => exact ⟨0, sl, Nat.zero_le _, rfl, rfl, ho4, Kp.refl _ _⟩
      case round =>
        clear ho4
        obtain ⟨j, l', hj, rfl, hl', ho, hk⟩ := hrel
        by_cases hlt : j < sl.length
        · rw [← hl'] at ho
          have hfro := Own.frozenAt ho j rfl
          have hcx := Own.cellAt ho j (by omega)
          have hst := (Own.stored ho j 0).1
          rw [hl'] at hst
          have hk2 : Kp g X4 (wr.setCell ⟨g, j, none⟩ (.int .u8 0)) := hk.set rfl _
          have x5 : (j : Int) < sl.length := by omega
          have x7 : (0 : Int) ≤ j := by omega
          clear ho hk
          go_wp2_with fail
          go_roundw
          case rel => exact ⟨j + 1, l'.set j 0, by omega, by go_num, by rw [zero_set, hl'], hst, hk2⟩
          case measure => simp [intOf]; omega
        · have hbr : Below y1.heap.size X4 wr := hk.below hg hb14.size
          have hb1r := hb14.trans hbr
          have p16r := hk.heap p16 (show y4.heap.size ≠ g by have := hb4.size; omega)
          have r4 := heap_below r3 hb1r
          have hd4 := hd1.below hb1r
          have hbwr := nxt hbw1 hb1r
          have ho6 : Own wr y3.heap.size (.slice A4 dl.length c4) dl := World.ownsRow.kept ho5 hk (by
            by_cases h : (Value.slice A4 dl.length c4).ownBlock = some g
            · exact absurd (World.ownsRow.lt ho5 g h).1 (by omega)
            · exact .inr h)
          have hd6 := Bs.of_own ho6 hd1.2
          obtain ⟨d0, d1, d2, d3, d4⟩ := box5f r4
          obtain ⟨e0, e1, e2, e3, e4⟩ := box5f p16r
          have hsp2 := Lib.hid (samep_self fn ln sn an dl A4 A c4 c wr hd6 hd4)
          clear ho hk hbr ho5 ho6
          go_wp2_with fail
          refine hsp2.out.mono ?_
          rintro e x6 ⟨rfl, hb6⟩
          have hbw6 := nxt hbwr hb6
          go_wp2_with fail
          refine (awake03_any _).mono ?_
          rintro e x9 ⟨rfl, hb9⟩
          go_wp2_with fail
          go_ret
          exact ⟨rfl, nxt hbw6 hb9⟩

set_option maxRecDepth 100000 in
theorem lifted (os : Os) (started : os.Started) (H : Type) (enc : TypeId × Value → H) :
    ReturnsInHanded {} Try.checked os 9 .any (Rows.frameSparesSpec.pre6 enc Try.prog Try.f9 Rows.frameSparesRow.domain false) (Rows.frameSparesSpec.post enc Try.prog Try.f9 false true false false) := by
  refine returnsInHanded_of_change (C := Try.checked) knob_own started (by kernel_rfl) Try.func9
    (ChangeSpec.witness6 (enc := enc) (C := Try.checked) false ⟨#[], #[.agg #[.int .u8 0, .slice none 0 0, .slice none 0 0, .slice none 0 0], .agg #[.int .i64 0, .int .i64 0, .int .i64 0, .int .i64 0, .slice none 0 0]], []⟩ 8 (by kernel_rfl) (by kernel_rfl) (by kernel_rfl) (by kernel_rfl)) ?_
  intro W base args ds gs before hval0 hW hcnd _
  have hval : ∀ (j : Nat) t v, Try.f9.params[j]? = some t → args[j]? = some v → Value.okWide Try.prog W .any base t v := hval0
  have hW' := hW
  obtain ⟨p, q, hA0, hV, rfl, hfz, hnd⟩ := hW
  have hA : DataW.TrodAll enc Try.prog W 0 (fun _ => true) true Try.f9.params.toList args.toList ds p := hA0
  rw [Try.params9] at hA hval
  obtain ⟨v0, vs0, d0, ds0, p0, q0, hargs, rfl, rfl, h0, r0⟩ := trodAll_cons hA
  obtain ⟨v1, vs1, d1, ds1, p1, q1, rfl, rfl, rfl, h1, r1⟩ := trodAll_cons r0
  obtain ⟨rfl, rfl, rfl⟩ := trodAll_nil r1
  obtain rfl : args = #[v0, v1] := by cases args; simp_all
  obtain ⟨rfl, rfl⟩ := trodVars_none hV
  have k0 := h0
  have lt0 : ∀ x ∈ p0, x.block < W.heap.size := by obtain ⟨m, hm⟩ := k0; exact DataW.trod_lt m _ _ _ hm
  have w0 := msg_open (hval 0 30 v0 rfl rfl) h0
  have k1 := h1
  have lt1 : ∀ x ∈ p1, x.block < W.heap.size := by obtain ⟨m, hm⟩ := k1; exact DataW.trod_lt m _ _ _ hm
  have w1 := pk_open (hval 1 41 v1 rfl rfl) h1
  clear hA0 hval0
  refine (walk W v0 v1 w0 w1).mono fun e W' ⟨he, bel⟩ => ?_
  subst he
  exact ⟨_, rfl, _, _, _, [], _, [], hW', trodAll_mk1 (shut_bool Try.underlying4 _), (trodAll_cons_mk (Below.trod laid_out (by kernel_rfl) (of_decide_eq_true (by kernel_rfl)) k0 bel lt0) (trodAll_cons_mk (Below.trod laid_out (by kernel_rfl) (of_decide_eq_true (by kernel_rfl)) k1 bel lt1) (trodAll_mk0))), rfl, bel.frame _, fun h => by cases h⟩

theorem over : Rows.frameSparesRow.holds Try.pinned (OpenSpec.ofChange Rows.frameSparesSpec) :=
  OpenClaim.holds_of_wide 9 Try.f9 rfl rfl rfl rfl rfl rfl rfl ⟨rfl, rfl, rfl, rfl, rfl⟩ rfl rfl rfl rfl rfl (by kernel_rfl) Try.func9 (by kernel_rfl)
    (of_decide_eq_true (by kernel_rfl)) (by unfold Func.isWrapper; first | (rw [if_pos (by decide +kernel)]; kernel_rfl) | (rw [if_neg (by decide +kernel)]; exact ⟨rfl, rfl⟩))
    (fun os started H enc _ => lifted os started H enc)

theorem proved : Rows.FrameSparesSaid := over
end Go.Proofs.Ytdgidjgdknkdlaa.frameSpares
