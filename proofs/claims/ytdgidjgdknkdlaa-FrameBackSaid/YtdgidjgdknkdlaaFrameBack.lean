/- droverlaw03.FrameBack returns true whatever its arguments: what is put is got; what is got is right, and put again is the same bytes. For every input, without conditions. -/
import Derived.Test.YtdgidjgdknkdlaaRow
import Derived.Test.YtdgidjgdknkdlaaAwake03
import Derived.Test.YtdgidjgdknkdlaaMopen
import Derived.Test.YtdgidjgdknkdlaaPopen
import Derived.Test.YtdgidjgdknkdlaaSmallm
import Derived.Test.YtdgidjgdknkdlaaErr03
namespace Go.Proofs.Ytdgidjgdknkdlaa.frameBack
open Go.ChangeShapes Go.WideShapes Go.ChangeAt Go.RowKit
set_option linter.unusedVariables false



set_option maxRecDepth 100000 in
set_option maxHeartbeats 8000000 in
theorem walk (w : World) (v0 : Value) (v1 : Value) (a2 : Option Addr) (n2 c2 : Nat) (a3 : Int) (a4 : Int) (w0 : ∃ m, MRep w (fun b => b < w.heap.size) v0 m) (w1 : PkIs w v1) (w2 : ∃ l : List Nat, l.length = n2 ∧ n2 ≤ c2 ∧ At w w.heap.size a2 (bv l) ∧ (∀ x ∈ l, x < 256)) (w3 : (Lit.int .i64 a3).wf = true) (w4 : (Lit.int .u8 a4).wf = true) :
    Calls Try.prog 5 #[v0, v1, .slice a2 n2 c2, .int .i64 a3, .int .u8 a4] w fun e w' => e = .returned (.bool true) ∧ Below w.heap.size w w' := by
  obtain ⟨m, hm⟩ := w0
  obtain ⟨f, l, s, a, A, c, dl, rfl, hd, hf, hl, hs, ha⟩ := w1
  obtain ⟨lb, hlb, hlc, hbat, hlb8⟩ := w2
  obtain ⟨tu, rfl, htu8⟩ := wf_u8 w4
  clear w3 w4
  have h0 := Lib.hid hm
  have HBB : Hid (Bs w (.slice a2 n2 c2) lb) := ⟨⟨a2, c2, by rw [hlb], by omega, hbat⟩, hlb8⟩
  have hlb8' := Lib.hid hlb8
  clear hbat hlb8
  obtain ⟨hok, An, cn, Av, cv, Ab, cb, rfl, -, -, -, -, -, -⟩ := hm
  obtain ⟨o1, ho1⟩ : ∃ o : Obj, o = .cells #[.int .u8 (m.k : Int), .slice An m.nums.length cn, .slice Av m.vals.length cv, .slice Ab m.blobs.length cb] 30 := ⟨_, rfl⟩
  obtain ⟨o2, ho2⟩ : ∃ o : Obj, o = .cells #[.int .i64 f, .int .i64 l, .int .i64 s, .int .i64 a, .slice A dl.length c] 41 := ⟨_, rfl⟩
  have hbW : Below w.heap.size w ((w.alloc o1).alloc o2) := two w o1 o2
  have q1 := heap_old (heap_new w o1) o2
  have q2 := heap_new' (w.alloc o1) o2 (w.heap.size + 1) (by simp)
  subst ho1
  subst ho2
  obtain ⟨b0, b1, b2, b3⟩ := box4 q1
  have hsm := Lib.hid (smallm_any m _ _ (h0.out.under hbW hbW.size))
  go_enter Try.func5, Try.ntmps5
  go_wp2_with fail
  refine hsm.out.mono ?_
  rintro e x1 ⟨rfl, hb1⟩
  have hbx1 := nxt hbW hb1
  have q1' := heap_below q1 hb1
  have q2' := heap_below q2 hb1
  clear q1 q2 b0 b1 b2 b3 hsm hbW hb1
  obtain ⟨d0, d1, d2, d3, d4⟩ := box5f q2'
  cases hsmall : smallM m with
  | false =>
    clear hsmall
    go_wp2_with fail
    refine (awake03_any _).mono ?_
    rintro e x9 ⟨rfl, hb9⟩
    go_wp2_with fail
    go_ret
    exact ⟨rfl, nxt hbx1 hb9⟩
  | true =>
  clear hsmall
  by_cases hbig : 1000 < dl.length
  · have k1 : decide ((1000 : Int) < (dl.length : Int)) = true := by rw [decide_eq_true_iff]; omega
    have k2 : decide (1000 < dl.length) = true := by rw [decide_eq_true_iff]; omega
    clear hbig
    go_wp2_with fail
    refine (awake03_any _).mono ?_
    rintro e x9 ⟨rfl, hb9⟩
    go_wp2_with fail
    go_ret
    exact ⟨rfl, nxt hbx1 hb9⟩
  have k1 : decide ((1000 : Int) < (dl.length : Int)) = false := by rw [decide_eq_false_iff_not]; omega
  have k2 : decide (1000 < dl.length) = false := by rw [decide_eq_false_iff_not]; omega
  by_cases hbig2 : 1000 < n2
  · have k3 : decide ((1000 : Int) < (n2 : Int)) = true := by rw [decide_eq_true_iff]; omega
    have k4 : decide (1000 < n2) = true := by rw [decide_eq_true_iff]; omega
    clear hbig2
    go_wp2_with fail
    refine (awake03_any _).mono ?_
    rintro e x9 ⟨rfl, hb9⟩
    go_wp2_with fail
    go_ret
    exact ⟨rfl, nxt hbx1 hb9⟩
  have k3 : decide ((1000 : Int) < (n2 : Int)) = false := by rw [decide_eq_false_iff_not]; omega
  have k4 : decide (1000 < n2) = false := by rw [decide_eq_false_iff_not]; omega
  have hse := Lib.hid (seal_bs _ lb x1 (HBB.out.below hbx1) (by omega))
  have HG := Lib.hid (mget_seal lb hlb8'.out (by omega))
  have HPG := Lib.hid (pget_seal lb hlb8'.out (by omega))
  have hsl : (lb ++ be4 (crcN lb)).length ≤ 1004 := by rw [List.length_append, be4_length]; omega
  go_wp2_with fail
  refine hse.out.mono ?_
  rintro e x2 ⟨uv, rfl, -, hus, hb2⟩
  have hbx2 := nxt hbx1 hb2
  have r1 := heap_below q1' hb2
  have r2 := heap_below q2' hb2
  have hLB : Hid (∀ z : List Nat, z = lb → z ++ be4 (crcN z) = lb ++ be4 (crcN lb)) := fun z h => by rw [h]
  generalize hSL : lb ++ be4 (crcN lb) = sl at *
  clear hse q1' q2' hb2 hbx1 d0 d1 d2 d3 d4 k1 k2 k3 k4 hSL HBB
  go_upto_region 4 with fail
  go_cut [12, 13] (fun xp er wx => ∃ (g e1 : Nat) (v : Value), xp = .pointer (some ⟨g, 0, none⟩) ∧ er = .int .i64 (e1 : Int) ∧ (e1 = 0 → ∃ m' An cn Av cv Ab cb, wx.heap[g]? = some (.cells #[.int .u8 (m'.k : Int), .slice An m'.nums.length cn, .slice Av m'.vals.length cv, .slice Ab m'.blobs.length cb] 30 (0, 0)) ∧ MRep wx (fun b => b < wx.heap.size) (.agg #[.int .u8 (m'.k : Int), .slice An m'.nums.length cn, .slice Av m'.vals.length cv, .slice Ab m'.blobs.length cb]) m' ∧ Hid (menc m' = lb) ∧ mright m' = true) ∧ Below x2.heap.size x2 wx)
  case first =>
    go_wp2_with fail
    refine (getm_any uv sl x2 hus (by omega)).mono ?_
    rcases HG.out with ⟨e1, he, hg⟩ | ⟨m', hg, h1, h2, h3⟩
    · rw [hg]
      rintro e x3 ⟨hb3, rfl⟩
      unfold zeroM
      clear hg
      go_wp2_with fail
      go_meet
      exact ⟨_, e1, .agg #[], rfl, rfl, fun h => absurd h he, hb3.alloc hb3.size _⟩
    · rw [hg]
      rintro e x3 ⟨hb3, vx, rfl, hmx⟩
      have hmx0 := Lib.hid hmx
      obtain ⟨-, Bn, dn, Bv, dv, Bb, db, rfl, -, -, -, -, -, -⟩ := hmx
      clear hg h2
      have HR := Lib.hid h3
      have H1 := Lib.hid h1
      clear h1 h3
      go_wp2_with fail
      go_meet
      refine ⟨_, 0, .agg #[], rfl, rfl, fun _ => ⟨m', Bn, dn, Bv, dv, Bb, db, heap_new _ _, hmx0.out.keep (fun p hp => ((Below.refl _ _).alloc (Nat.le_refl _) _).cell hp.2) (fun b hb => by have := hb.2; simp; omega), H1.out, HR.out⟩, hb3.alloc hb3.size _⟩
  case rest =>
  obtain ⟨g, e1, -, rfl, rfl, hok1, hc1⟩ := hcut
  have HOK := Lib.hid hok1
  clear hok1 HG
  have hbx3 := nxt hbx2 hc1
  have r13 := heap_below r1 hc1
  have r23 := heap_below r2 hc1
  have hus3 := hus.below hc1
  clear hc1 r1 r2 hus hbx2
  go_upto_if 51 with (fail)
  go_cut [] (fun wx => Below wc.heap.size wc wx)
  case first =>
    by_cases h0e : e1 = 0
    · obtain ⟨m', Bn, dn, Bv, dv, Bb, db, hh, hmr, H1, hr⟩ := HOK.out h0e
      subst h0e
      have hput := Lib.hid (putm_any m' _ _ hmr)
      have HR := Lib.hid hr
      obtain ⟨b0, b1, b2, b3⟩ := box4 hh
      rw [show ((0 : Nat) : Int) = 0 from rfl]
      clear hr HOK
      go_wp2_with fail
      refine hput.out.mono ?_
      rintro e x4 ⟨hb4, -, hyes⟩
      obtain ⟨u4, rfl, -, hu4⟩ := hyes HR.out
      rw [hLB.out _ H1.out] at hu4
      have hh4 := heap_below hh hb4
      have hmr4 := hmr.under hb4 hb4.size
      have hus4 := hus3.below hb4
      have hrm := Lib.hid (rightm_any m' _ _ hmr4)
      clear b0 b1 b2 b3 hyes hput hmr hh
      obtain ⟨b0, b1, b2, b3⟩ := box4 hh4
      go_wp2_with fail
      refine hrm.out.mono ?_
      rintro e x5 ⟨rfl, hb5⟩
      rw [HR.out]
      have hu5 := hu4.below hb5
      have hus5 := hus4.below hb5
      clear b0 b1 b2 b3 hrm hmr4 hh4 hu4 hus4
      go_wp2_with fail
      refine (same_bs _ _ sl sl true x5 hu5 hus5 (decide_eq_true rfl)).mono ?_
      rintro e wx ⟨rfl, rfl⟩
      go_wp2_with fail
      go_meet
      exact nxt hb4 hb5
    · have z1 : ((e1 : Int) == 0) = false := beq_eq_false_iff_ne.2 (by omega)
      clear h0e HOK
      go_wp2_with fail
      go_meet
      exact Below.refl _ _
  case rest =>
  have hbx4 := nxt hbx3 hcut
  have r14 := heap_below r13 hcut
  have r24 := heap_below r23 hcut
  have hus4 := hus3.below hcut
  clear hcut r13 r23 hus3 hbx3 HOK
  rename_i w4
  go_upto_region 9 with fail
  go_cut [16, 17] (fun xp er wx => ∃ (g e1 : Nat), xp = .pointer (some ⟨g, 0, none⟩) ∧ er = .int .i64 (e1 : Int) ∧ (e1 = 0 → ∃ p A c, wx.heap[g]? = some (.cells #[.int .i64 (p.f : Int), .int .i64 (p.l : Int), .int .i64 (p.s : Int), .int .i64 (p.a : Int), .slice A p.d.length c] 41 (0, 0)) ∧ Bs wx (.slice A p.d.length c) p.d ∧ Hid (penc p = lb) ∧ pright p = true) ∧ Below wc.heap.size wc wx)
  case first =>
    go_wp2_with fail
    refine (unpack_any uv sl _ hus4 (by omega)).mono ?_
    rcases HPG.out with ⟨e1, he, hg⟩ | ⟨p', hg, h1, h3⟩
    · rw [hg]
      rintro e x3 ⟨hb3, rfl⟩
      unfold zeroP
      clear hg
      go_wp2_with fail
      go_meet
      exact ⟨_, e1, rfl, rfl, fun h => absurd h he, hb3.alloc hb3.size _⟩
    · rw [hg]
      rintro e x3 ⟨hb3, A3, c3, rfl, -, hv3⟩
      have HR := Lib.hid h3
      have H1 := Lib.hid h1
      clear hg h1 h3
      go_wp2_with fail
      go_meet
      exact ⟨_, 0, rfl, rfl, fun _ => ⟨p', A3, c3, heap_new _ _, hv3.below ((Below.refl _ _).alloc (Nat.le_refl _) _), H1.out, HR.out⟩, hb3.alloc hb3.size _⟩
  case rest =>
  obtain ⟨g2, e2, rfl, rfl, hok2, hc5⟩ := hcut
  have HOK := Lib.hid hok2
  clear hok2 HPG
  have hbx5 := nxt hbx4 hc5
  have r15 := heap_below r14 hc5
  have r25 := heap_below r24 hc5
  have hus5 := hus4.below hc5
  clear hc5 r14 r24 hus4 hbx4
  go_upto_if 76 with (fail)
  go_cut [] (fun wx => Below wc.heap.size wc wx)
  case first =>
    by_cases h0e : e2 = 0
    · obtain ⟨p', A3, c3, hh, hv3, H1, hr⟩ := HOK.out h0e
      subst h0e
      have hpk := Lib.hid (pack_back p' A3 c3 _ hv3 hr)
      obtain ⟨b0, b1, b2, b3, b4⟩ := box5f hh
      rw [show ((0 : Nat) : Int) = 0 from rfl]
      clear hr HOK
      go_wp2_with fail
      refine hpk.out.mono ?_
      rintro e x4 ⟨u4, rfl, hu4, hb4⟩
      rw [hLB.out _ H1.out] at hu4
      have hus6 := hus5.below hb4
      clear b0 b1 b2 b3 b4 hpk
      go_wp2_with fail
      refine (same_bs _ _ sl sl true x4 hu4 hus6 (decide_eq_true rfl)).mono ?_
      rintro e wx ⟨rfl, rfl⟩
      go_wp2_with fail
      go_meet
      exact hb4
    · have z1 : ((e2 : Int) == 0) = false := beq_eq_false_iff_ne.2 (by omega)
      clear h0e HOK
      go_wp2_with fail
      go_meet
      exact Below.refl _ _
  case rest =>
  have hbx6 := nxt hbx5 hcut
  have r16 := heap_below r15 hcut
  have r26 := heap_below r25 hcut
  clear hcut r15 r25 hus5 hbx5 HOK hLB hsl
  obtain ⟨b0, b1, b2, b3⟩ := box4 r16
  have hput := Lib.hid (putm_any m _ _ (h0.out.under hbx6 hbx6.size))
  go_wp2_with fail
  refine hput.out.mono ?_
  rintro e x7 ⟨hb7, hno, hyes⟩
  have hbx7 := nxt hbx6 hb7
  have r17 := heap_below r16 hb7
  have r27 := heap_below r26 hb7
  clear b0 b1 b2 b3 hput hb7 r16 r26 hbx6
  have hput2 : ∃ (u : Value) (er : Nat), e = .returned (.tuple #[u, .int .i64 (er : Int)]) ∧ ((er = 0 ∧ mright m = true ∧ Bs x7 u (menc m ++ be4 (crcN (menc m)))) ∨ (er = 14 ∧ mright m = false)) := by
    cases hr : mright m with
    | false => exact ⟨_, 14, hno hr, .inr ⟨rfl, rfl⟩⟩
    | true =>
      obtain ⟨u, e1, -, hu⟩ := hyes hr
      exact ⟨u, 0, e1, .inl ⟨rfl, rfl, hu⟩⟩
  obtain ⟨u7, e7, rfl, hP⟩ := hput2
  have HP := Lib.hid hP
  clear hno hyes hP
  obtain ⟨b0, b1, b2, b3⟩ := box4 r17
  have hrm := Lib.hid (rightm_any m _ _ (h0.out.under hbx7 hbx7.size))
  go_wp2_with fail
  refine hrm.out.mono ?_
  rintro e x8 ⟨rfl, hb8⟩
  have hbx8 := nxt hbx7 hb8
  have r18 := heap_below r17 hb8
  have r28 := heap_below r27 hb8
  clear b0 b1 b2 b3 hrm r17 r27 hbx7
  obtain ⟨bm, hbm⟩ : ∃ bm, mright m = bm := ⟨_, rfl⟩
  have z7 : ((e7 : Int) == 0) = bm := by
    rcases HP.out with ⟨h1, h2, -⟩ | ⟨h1, h2⟩
    · rw [h1, ← hbm, h2]
      rfl
    · rw [h1, ← hbm, h2]
      rfl
  rw [hbm]
  have z8 : (bm != bm) = false := by cases bm <;> rfl
  have z9 : (bm == bm) = true := by cases bm <;> rfl
  have HBM := Lib.hid hbm
  clear hbm
  go_upto_if 101 with (fail)
  go_cut [] (fun wx => Below x8.heap.size x8 wx)
  case first =>
    cases bm with
    | true =>
      rcases HP.out with ⟨rfl, hr, hu⟩ | ⟨-, h2⟩
      · have hget := Lib.hid (mget_put hr h0.out.ok)
        obtain ⟨hn1, hn2, hrv, hn3, -, hlen⟩ := mright_iff.1 hr
        have hrt := Lib.hid (fun x hx => right_rt (hrv x hx))
        have hu8 := hu.below hb8
        have hlen8 : (menc m ++ be4 (crcN (menc m))).length ≤ 1048580 := by rw [List.length_append, be4_length]; omega
        generalize menc m ++ be4 (crcN (menc m)) = s7 at *
        clear HP hr hu hrv
        rw [show ((0 : Nat) : Int) = 0 from rfl]
        go_wp2_with fail
        refine (getm_any u7 s7 x8 hu8 (by omega)).mono ?_
        rw [hget.out]
        rintro e x9 ⟨hb9, vx, rfl, hmx⟩
        have hmx0 := Lib.hid hmx
        obtain ⟨-, Bn, dn, Bv, dv, Bb, db, rfl, -, -, -, -, -, -⟩ := hmx
        obtain ⟨o9, ho9⟩ : ∃ o : Obj, o = .cells #[.int .u8 (m.k : Int), .slice Bn m.nums.length dn, .slice Bv m.vals.length dv, .slice Bb m.blobs.length db] 30 := ⟨_, rfl⟩
        have hal := (Below.refl x9.heap.size x9).alloc (Nat.le_refl _) o9
        have hb89 := nxt hb9 hal
        have p9 := heap_new x9 o9
        have r19 := heap_below r18 hb89
        have hxx : MRep (x9.alloc o9) (fun b => b < (x9.alloc o9).heap.size) (.agg #[.int .u8 (m.k : Int), .slice Bn m.nums.length dn, .slice Bv m.vals.length dv, .slice Bb m.blobs.length db]) m := hmx0.out.keep (fun p hp => hal.cell hp.2) (fun b hb => by have := hb.2; simp; omega)
        have hbx9 := nxt hbx8 hb89
        have hmm := h0.out.under hbx9 hbx9.size
        have hs1 := Lib.hid (samem_any m _ _ _ hrt.out (by omega) (by omega) (by omega) hxx hmm)
        subst ho9
        obtain ⟨b0, b1, b2, b3⟩ := box4 r19
        obtain ⟨p0, p1, p2, p3⟩ := box4 p9
        clear hxx hmm hal hb9 hbx9 r18
        go_wp2_with fail
        refine hs1.out.mono ?_
        rintro e x10 ⟨rfl, hb10⟩
        have hb810 := nxt hb89 hb10
        clear b0 b1 b2 b3 p0 p1 p2 p3 p9 r19 hs1 hb10
        go_wp2_with fail
        go_meet
        exact hb810
      · exact absurd (HBM.out.symm.trans h2) (by decide)
    | false =>
      go_wp2_with fail
      go_meet
      exact Below.refl _ _
  case rest =>
  have hbx9 := nxt hbx8 hcut
  have r29 := heap_below r28 hcut
  clear r18 r28 hcut hb8 hbx8 HP HBM z7 z8 z9
  obtain ⟨d0, d1, d2, d3, d4⟩ := box5f r29
  have hd9 := hd.below hbx9
  have hpk := Lib.hid (pack_any f l s a dl A c _ hd9 hf hl hs ha)
  cases hp : pint f l s a dl with
  | false =>
    go_wp2_with fail
    refine hpk.out.mono ?_
    rintro e y1 ⟨hb1, hno, -⟩
    obtain rfl := hno hp
    clear d0 d1 d2 d3 d4 hno hpk
    go_wp2_with fail
    refine (awake03_any _).mono ?_
    rintro e x9 ⟨rfl, hb9⟩
    go_wp2_with fail
    go_ret
    exact ⟨rfl, nxt (nxt hbx9 hb1) hb9⟩
  | true =>
    obtain ⟨i1, i2, i3, i4, hpr⟩ := pint_right hp
    obtain ⟨fn, rfl⟩ : ∃ n : Nat, f = (n : Int) := ⟨f.toNat, by omega⟩
    obtain ⟨ln, rfl⟩ : ∃ n : Nat, l = (n : Int) := ⟨l.toNat, by omega⟩
    obtain ⟨sn, rfl⟩ : ∃ n : Nat, s = (n : Int) := ⟨s.toNat, by omega⟩
    obtain ⟨an, rfl⟩ : ∃ n : Nat, a = (n : Int) := ⟨a.toNat, by omega⟩
    simp only [Int.toNat_natCast] at hpr hpk
    have hget := Lib.hid (pget_put hpr)
    have hpl := penc_bound ⟨fn, ln, sn, an, dl⟩
    dsimp only at hpl
    have hs2 : (penc ⟨fn, ln, sn, an, dl⟩ ++ be4 (crcN (penc ⟨fn, ln, sn, an, dl⟩))).length = (penc ⟨fn, ln, sn, an, dl⟩).length + 4 := by rw [List.length_append, be4_length]
    have HHP := Lib.hid hp
    go_wp2_with fail
    refine hpk.out.mono ?_
    rintro e y1 ⟨hb1, -, hyes⟩
    obtain ⟨u2, rfl, ho2, hu2⟩ := hyes HHP.out
    have HS8 := Lib.hid hu2.2
    have hP8 : ∀ b ∈ penc ⟨fn, ln, sn, an, dl⟩, b < 256 := fun b hb => hu2.2 b (List.mem_append_left _ hb)
    have hTU : Hid (∀ j x, j < (penc ⟨fn, ln, sn, an, dl⟩ ++ be4 (crcN (penc ⟨fn, ln, sn, an, dl⟩))).length → x < 256 → x ≠ (penc ⟨fn, ln, sn, an, dl⟩ ++ be4 (crcN (penc ⟨fn, ln, sn, an, dl⟩))).getD j 0 → us ((penc ⟨fn, ln, sn, an, dl⟩ ++ be4 (crcN (penc ⟨fn, ln, sn, an, dl⟩))).set j x) = ([], 12)) := fun j x h1 h2 h3 => us_turned _ hP8 j x (by omega) h2 h3
    generalize hsl2 : penc ⟨fn, ln, sn, an, dl⟩ ++ be4 (crcN (penc ⟨fn, ln, sn, an, dl⟩)) = s2 at *
    have hs2b : 5 ≤ s2.length ∧ s2.length ≤ 1054 := by omega
    have hbxy := nxt hbx9 hb1
    have r30 := heap_below r29 hb1
    clear d0 d1 d2 d3 d4 hyes hpk hs2 hpl hP8 hsl2 hpr hp HHP hd9
    go_wp2_with fail
    refine (unpack_any _ s2 y1 hu2 (by omega)).mono ?_
    rw [hget.out]
    rintro e y4 ⟨hb4, A4, c4, rfl, -, hv4⟩
    dsimp only at hv4 ⊢
    obtain ⟨o4, ho4⟩ : ∃ o : Obj, o = .cells #[.int .i64 (fn : Int), .int .i64 (ln : Int), .int .i64 (sn : Int), .int .i64 (an : Int), .slice A4 dl.length c4] 41 := ⟨_, rfl⟩
    have hal := (Below.refl y4.heap.size y4).alloc (Nat.le_refl _) o4
    have p16 := heap_new y4 o4
    have hb14 := nxt hb4 hal
    have r31 := heap_below r30 hb14
    have hbxz := nxt hbxy hb14
    have hsp2 := Lib.hid (samep_same fn ln sn an dl A4 A c4 c _ (hv4.below hal) (hd.below hbxz))
    subst ho4
    obtain ⟨d0, d1, d2, d3, d4⟩ := box5f r31
    obtain ⟨e0, e1', e2', e3, e4⟩ := box5f p16
    have ho3 := ho2.below hb14 (Nat.le_refl _)
    clear hv4 hal r30 p16 hget hb4 hu2 ho2
    go_wp2_with fail
    refine hsp2.out.mono ?_
    rintro e y6 ⟨rfl, hb6⟩
    have hbx6 := nxt hbxz hb6
    have ho6 := ho3.below hb6 (Nat.le_refl _)
    have hsz6 := hbxy.size
    have hy1 : w.heap.size ≤ wc.heap.size := hbx9.size
    clear d0 d1 d2 d3 d4 e0 e1' e2' e3 e4 hsp2 hb6 ho3 r31 hbxz
    go_upto_if 141 with (fail)
    go_cut [] (fun wx => Below w.heap.size w wx)
    case first =>
      by_cases ht0 : tu = 0
      · subst ht0
        go_wp2_with fail
        go_meet
        exact hbx6
      · have z1 : ((tu : Int) != 0) = true := bne_iff_ne.2 (by omega)
        obtain ⟨g, c3, rfl, hg, hc3⟩ := ho6.head (by intro h; rw [h] at hs2b; simp at hs2b)
        have hp0 := Int.emod_nonneg a3 (show (s2.length : Int) ≠ 0 by omega)
        have hp1 := Int.emod_lt_of_pos a3 (show (0 : Int) < (s2.length : Int) by omega)
        obtain ⟨p, hp⟩ : ∃ p : Nat, a3 % (s2.length : Int) = (p : Int) := ⟨(a3 % (s2.length : Int)).toNat, by omega⟩
        have hpl : p < s2.length := by omega
        have HPP := Lib.hid hp
        clear hp hp0 hp1
        have hfro := Own.frozenAt ho6 p rfl
        have hcx := Own.cellAt ho6 p hpl
        have h8 := HS8.out
        have hlp8 : s2.getD p 0 < 256 := by
          have := h8 (s2[p]) (List.getElem_mem hpl)
          simpa [hpl] using this
        have hst := (Own.stored ho6 p (s2.getD p 0 ^^^ tu)).1
        have hbx : bits BinOp.xor IntKind.u8 (s2.getD p 0 : Int) (tu : Int) = ((s2.getD p 0 ^^^ tu : Nat) : Int) := u8_xor_nat _ _ hlp8 htu8
        have HBX := Lib.hid hbx
        have hus := hTU.out p (s2.getD p 0 ^^^ tu) hpl (Nat.xor_lt_two_pow (n := 8) hlp8 htu8) (xor_other _ _ ht0)
        have hX8 : ∀ b ∈ s2.set p (s2.getD p 0 ^^^ tu), b < 256 := by
          intro b hb
          rcases List.mem_or_eq_of_mem_set hb with h | h
          · exact h8 b h
          · rw [h]
            exact Nat.xor_lt_two_pow (n := 8) hlp8 htu8
        have hXl : (s2.set p (s2.getD p 0 ^^^ tu)).length = s2.length := List.length_set
        have hg12 := Lib.hid (pget_12 _ (by rw [hXl]; omega) hus)
        have hbs := Bs.of_own hst hX8
        have hbS := hbx6.trans ((Below.refl w.heap.size y6).setCell (p := ⟨g, p, none⟩) (show w.heap.size ≤ g by omega) (.int .u8 ((s2.getD p 0 ^^^ tu : Nat) : Int)))
        have hup := Lib.hid (unpack_any _ _ _ hbs (by rw [hXl]; omega))
        rw [hg12.out] at hup
        have i1 : (p : Int) < (s2.length : Int) := by omega
        have i2 : (0 : Int) ≤ (p : Int) := by omega
        clear hbx hus hX8 hXl hg12 hbs hst ho6 hTU h8 ht0
        generalize s2.getD p 0 = lp at *
        go_wp2_with fail
        refine (pick_any a3 (s2.length : Int) _ (by omega) (by omega)).mono ?_
        rintro e wx ⟨rfl, rfl⟩
        rw [HPP.out]
        go_wp2_with fail
        rw [HBX.out]
        refine hup.out.mono ?_
        rintro e x5 ⟨hb5, rfl⟩
        unfold zeroP
        have hbS5 := nxt hbS hb5
        clear hup hb5
        go_wp2_with fail
        go_meet
        exact hbS5.alloc hbS5.size _
    case rest =>
      go_wp2_with fail
      refine (awake03_any _).mono ?_
      rintro e x9 ⟨rfl, hb9⟩
      go_wp2_with fail
      go_ret
      exact ⟨rfl, nxt hcut hb9⟩

set_option maxRecDepth 100000 in
theorem lifted (os : Os) (started : os.Started) (H : Type) (enc : TypeId × Value → H) :
    ReturnsInHanded {} Try.checked os 5 .any (Rows.frameBackSpec.pre6 enc Try.prog Try.f5 Rows.frameBackRow.domain false) (Rows.frameBackSpec.post enc Try.prog Try.f5 false true false false) := by
  refine returnsInHanded_of_change (C := Try.checked) knob_own started (by kernel_rfl) Try.func5
    (ChangeSpec.witness6 (enc := enc) (C := Try.checked) false ⟨#[], #[.agg #[.int .u8 0, .slice none 0 0, .slice none 0 0, .slice none 0 0], .agg #[.int .i64 0, .int .i64 0, .int .i64 0, .int .i64 0, .slice none 0 0], .slice none 0 0, .int .i64 0, .int .u8 0], []⟩ 8 (by kernel_rfl) (by kernel_rfl) (by kernel_rfl) (by kernel_rfl)) ?_
  intro W base args ds gs before hval0 hW hcnd _
  have hval : ∀ (j : Nat) t v, Try.f5.params[j]? = some t → args[j]? = some v → Value.okWide Try.prog W .any base t v := hval0
  have hW' := hW
  obtain ⟨p, q, hA0, hV, rfl, hfz, hnd⟩ := hW
  have hA : DataW.TrodAll enc Try.prog W 0 (fun _ => true) true Try.f5.params.toList args.toList ds p := hA0
  rw [Try.params5] at hA hval
  obtain ⟨v0, vs0, d0, ds0, p0, q0, hargs, rfl, rfl, h0, r0⟩ := trodAll_cons hA
  obtain ⟨v1, vs1, d1, ds1, p1, q1, rfl, rfl, rfl, h1, r1⟩ := trodAll_cons r0
  obtain ⟨v2, vs2, d2, ds2, p2, q2, rfl, rfl, rfl, h2, r2⟩ := trodAll_cons r1
  obtain ⟨v3, vs3, d3, ds3, p3, q3, rfl, rfl, rfl, h3, r3⟩ := trodAll_cons r2
  obtain ⟨v4, vs4, d4, ds4, p4, q4, rfl, rfl, rfl, h4, r4⟩ := trodAll_cons r3
  obtain ⟨rfl, rfl, rfl⟩ := trodAll_nil r4
  obtain rfl : args = #[v0, v1, v2, v3, v4] := by cases args; simp_all
  obtain ⟨rfl, rfl⟩ := trodVars_none hV
  have k0 := h0
  have lt0 : ∀ x ∈ p0, x.block < W.heap.size := by obtain ⟨m, hm⟩ := k0; exact DataW.trod_lt m _ _ _ hm
  have w0 := msg_open (hval 0 30 v0 rfl rfl) h0
  have k1 := h1
  have lt1 : ∀ x ∈ p1, x.block < W.heap.size := by obtain ⟨m, hm⟩ := k1; exact DataW.trod_lt m _ _ _ hm
  have w1 := pk_open (hval 1 41 v1 rfl rfl) h1
  obtain ⟨a2, n2, c2, rfl⟩ := okWide_slice Try.underlying27 (hval 2 27 v2 rfl rfl)
  have k2 := h2
  have lt2 : ∀ x ∈ p2, x.block < W.heap.size := by obtain ⟨m, hm⟩ := k2; exact DataW.trod_lt m _ _ _ hm
  have z2 : ∃ zs, Ints .u8 W a2 n2 c2 zs := by
    obtain ⟨fuel, hf⟩ := h2
    rcases open_ints Try.underlying27 Try.underlying5 (by kernel_rfl) hf with ⟨hcs, _⟩ | ⟨x, l, c, zs, hcs, _, hl, hm, hz, _, hcell, hwz⟩
    · simp [Value.cells] at hcs
      obtain ⟨rfl, rfl, rfl⟩ := hcs
      exact ⟨[], ints_nil _ _⟩
    · simp [Value.cells] at hcs
      obtain ⟨rfl, rfl, rfl⟩ := hcs
      exact ⟨_, ints_some .u8 W x _ _ zs hl hm (by simpa using hz) hcell hwz⟩
  have w2 := z2.elim fun _ h => h.bytes
  have lt3 : ∀ x ∈ p3, x.block < W.heap.size := by obtain ⟨m, hm⟩ := h3; exact DataW.trod_lt m _ _ _ hm
  have k3 := h3
  obtain ⟨a3, rfl, _, _, w3⟩ := open_int Try.underlying3 (hval 3 3 v3 rfl rfl) h3
  have lt4 : ∀ x ∈ p4, x.block < W.heap.size := by obtain ⟨m, hm⟩ := h4; exact DataW.trod_lt m _ _ _ hm
  have k4 := h4
  obtain ⟨a4, rfl, _, _, w4⟩ := open_int Try.underlying5 (hval 4 5 v4 rfl rfl) h4
  clear hA0 hval0
  refine (walk W v0 v1 a2 n2 c2 a3 a4 w0 w1 w2 w3 w4).mono fun e W' ⟨he, bel⟩ => ?_
  subst he
  exact ⟨_, rfl, _, _, _, [], _, [], hW', trodAll_mk1 (shut_bool Try.underlying4 _), (trodAll_cons_mk (Below.trod laid_out (by kernel_rfl) (of_decide_eq_true (by kernel_rfl)) k0 bel lt0) (trodAll_cons_mk (Below.trod laid_out (by kernel_rfl) (of_decide_eq_true (by kernel_rfl)) k1 bel lt1) (trodAll_cons_mk (Below.trod laid_out (by kernel_rfl) (of_decide_eq_true (by kernel_rfl)) k2 bel lt2) (trodAll_cons_mk (Below.trod laid_out (by kernel_rfl) (of_decide_eq_true (by kernel_rfl)) k3 bel lt3) (trodAll_cons_mk (Below.trod laid_out (by kernel_rfl) (of_decide_eq_true (by kernel_rfl)) k4 bel lt4) (trodAll_mk0)))))), rfl, bel.frame _, fun h => by cases h⟩

theorem over : Rows.frameBackRow.holds Try.pinned (OpenSpec.ofChange Rows.frameBackSpec) :=
  OpenClaim.holds_of_wide 5 Try.f5 rfl rfl rfl rfl rfl rfl rfl ⟨rfl, rfl, rfl, rfl, rfl⟩ rfl rfl rfl rfl rfl (by kernel_rfl) Try.func5 (by kernel_rfl)
    (of_decide_eq_true (by kernel_rfl)) (by unfold Func.isWrapper; first | (rw [if_pos (by decide +kernel)]; kernel_rfl) | (rw [if_neg (by decide +kernel)]; exact ⟨rfl, rfl⟩))
    (fun os started H enc _ => lifted os started H enc)

theorem proved : Rows.FrameBackSaid := over
end Go.Proofs.Ytdgidjgdknkdlaa.frameBack
