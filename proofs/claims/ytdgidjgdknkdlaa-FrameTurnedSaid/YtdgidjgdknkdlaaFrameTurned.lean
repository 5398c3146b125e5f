/- droverlaw03.FrameTurned returns true whatever its arguments: if up to four bytes next to each other are others, a message is refused, and so is a packet. For every input, without conditions. -/
import Derived.Test.YtdgidjgdknkdlaaRow
import Derived.Test.YtdgidjgdknkdlaaAwake03
import Derived.Test.YtdgidjgdknkdlaaMopen
import Derived.Test.YtdgidjgdknkdlaaPopen
import Derived.Test.YtdgidjgdknkdlaaSmallm
import Derived.Test.YtdgidjgdknkdlaaTurned03
namespace Go.Proofs.Ytdgidjgdknkdlaa.frameTurned
open Go.ChangeShapes Go.WideShapes Go.ChangeAt Go.RowKit
set_option linter.unusedVariables false

theorem pint_true {f l s a : Int} {d : List Nat} (h : pint f l s a d = true) : 0 ≤ f ∧ 0 ≤ l ∧ 0 ≤ s ∧ 0 ≤ a ∧ pright ⟨f.toNat, l.toNat, s.toNat, a.toNat, d⟩ = true := by
  unfold pint at h
  simp only [Bool.and_eq_true, decide_eq_true_eq, Bool.or_eq_true, List.isEmpty_iff] at h
  obtain ⟨⟨⟨⟨⟨h1, h2⟩, h3⟩, h4⟩, h5⟩, h6⟩ := h
  refine ⟨h1.1, h2.1, h3.1, h4.1, pright_iff.2 ⟨by dsimp only; omega, by dsimp only; omega, by dsimp only; omega, by dsimp only; omega, h5, fun h => ?_⟩⟩
  rcases h6 with h6 | h6
  · exact absurd (by dsimp only at h; omega) h6
  · exact h6
theorem penc_len (p : Pk) : 1 ≤ (penc p).length ∧ (penc p).length ≤ 50 + p.d.length := by
  have n1 := varint_length p.f
  have n2 := varint_length p.l
  have n3 := varint_length p.s
  have n4 := varint_length p.a
  have n5 := varint_length p.d.length
  simp [penc, gB]
  omega
theorem menc_pos (m : Ms) : 1 ≤ (menc m).length := by
  simp [menc]
theorem mget_no (X : List Nat) (h1 : X.length ≤ 1048576) (h2 : us X = ([], 12)) : mget X = .error 12 := by
  unfold mget
  rw [if_neg (by omega), h2, if_pos (by simp)]
theorem pget_no (X : List Nat) (h1 : X.length ≤ 1048576) (h2 : us X = ([], 12)) : pget X = .error 12 := by
  unfold pget
  rw [if_neg (by omega), h2, if_pos (by simp)]
theorem box4a {w : World} {g : Nat} {y0 y1 y2 y3 : Value} {T : TypeId} (h : w.heap[g]? = some (.cells #[y0, y1, y2, y3] T (0, 0))) : w.cell? ⟨g, 0, none⟩ = some y0 ∧ w.cell? ⟨g, 1, none⟩ = some y1 ∧ w.cell? ⟨g, 2, none⟩ = some y2 ∧ w.cell? ⟨g, 3, none⟩ = some y3 :=
  ⟨cell_block h 0, cell_block h 1, cell_block h 2, cell_block h 3⟩

set_option maxRecDepth 100000 in
set_option maxHeartbeats 3200000 in
theorem walk (w : World) (v0 : Value) (v1 : Value) (a2 : Int) (x3 y3 z3 u3 : Int) (w0 : ∃ m, MRep w (fun b => b < w.heap.size) v0 m) (w1 : PkIs w v1) (w2 : (Lit.int .i64 a2).wf = true) (w3 : (Lit.int .u8 x3).wf = true ∧ (Lit.int .u8 y3).wf = true ∧ (Lit.int .u8 z3).wf = true ∧ (Lit.int .u8 u3).wf = true) :
    Calls Try.prog 7 #[v0, v1, .int .i64 a2, .agg #[.int .u8 x3, .int .u8 y3, .int .u8 z3, .int .u8 u3]] w fun e w' => e = .returned (.bool true) ∧ Below w.heap.size w w' := by
  obtain ⟨m, hm⟩ := w0
  obtain ⟨f, l, s, a, A, c, dl, rfl, hd, hf, hl, hs, ha⟩ := w1
  obtain ⟨x, rfl, hx8⟩ := wf_u8 w3.1
  obtain ⟨y, rfl, hy8⟩ := wf_u8 w3.2.1
  obtain ⟨z, rfl, hz8⟩ := wf_u8 w3.2.2.1
  obtain ⟨u, rfl, hu8⟩ := wf_u8 w3.2.2.2
  have ht8 : ∀ b ∈ [x, y, z, u], b < 256 := by
    intro b hb
    simp at hb
    omega
  have HT8 := Lib.hid ht8
  obtain ⟨eb, heb⟩ := arr4_eq x y z u
  clear w2 w3 ht8 hx8 hy8 hz8 hu8
  have h0 := Lib.hid hm
  obtain ⟨hok, An, cn, Av, cv, Ab, cb, rfl, -, -, -, -, -, -⟩ := hm
  obtain ⟨o1, ho1⟩ : ∃ o : Obj, o = .cells #[.int .u8 (m.k : Int), .slice An m.nums.length cn, .slice Av m.vals.length cv, .slice Ab m.blobs.length cb] 30 := ⟨_, rfl⟩
  obtain ⟨o2, ho2⟩ : ∃ o : Obj, o = .cells #[.int .i64 f, .int .i64 l, .int .i64 s, .int .i64 a, .slice A dl.length c] 41 := ⟨_, rfl⟩
  obtain ⟨o3, ho3⟩ : ∃ o : Obj, o = .cells #[.int .u8 (x : Int), .int .u8 (y : Int), .int .u8 (z : Int), .int .u8 (u : Int)] 57 := ⟨_, rfl⟩
  have hbW : Below w.heap.size w (((w.alloc o1).alloc o2).alloc o3) := nxt (two w o1 o2) ((Below.refl _ _).alloc (Nat.le_refl _) o3)
  have q1 := heap_old (heap_old (heap_new w o1) o2) o3
  have q2 := heap_old (heap_new' (w.alloc o1) o2 (w.heap.size + 1) (by simp)) o3
  have q3 := heap_new' ((w.alloc o1).alloc o2) o3 (w.heap.size + 2) (by simp)
  have hW : Hid ((((w.alloc o1).alloc o2).alloc o3) = (((w.alloc o1).alloc o2).alloc o3)) := rfl
  subst ho1
  subst ho2
  subst ho3
  obtain ⟨c0, c1, c2, c3⟩ := box4 q1
  have hsm := Lib.hid (smallm_any m _ _ (h0.out.under hbW hbW.size))
  go_enter Try.func7, Try.ntmps7
  go_wp2_with fail
  refine hsm.out.mono ?_
  rintro e x1 ⟨rfl, hb1⟩
  have hbx1 := nxt hbW hb1
  have q1' := heap_below q1 hb1
  have q2' := heap_below q2 hb1
  have q3' := heap_below q3 hb1
  clear q1 q2 q3 c0 c1 c2 c3 hsm hbW hb1 hW
  obtain ⟨c0, c1, c2, c3⟩ := box4 q1'
  obtain ⟨d0, d1, d2, d3, d4⟩ := box5f q2'
  obtain ⟨g0, g1, g2, g3⟩ := box4a q3'
  cases hsmall : smallM m with
  | false =>
    clear hsmall
    go_wp2_with fail
    refine (awake03_any _).mono ?_
    rintro e x9 ⟨rfl, hb9⟩
    go_wp2_with fail
    go_ret
    exact ⟨rfl, nxt hbx1 hb9⟩
  | true =>
  by_cases hbig : 1000 < dl.length
  · have k1 : decide ((1000 : Int) < (dl.length : Int)) = true := by rw [decide_eq_true_iff]; omega
    have k2 : decide (1000 < dl.length) = true := by rw [decide_eq_true_iff]; omega
    clear hsmall hbig
    go_wp2_with fail
    refine (awake03_any _).mono ?_
    rintro e x9 ⟨rfl, hb9⟩
    go_wp2_with fail
    go_ret
    exact ⟨rfl, nxt hbx1 hb9⟩
  have k1 : decide ((1000 : Int) < (dl.length : Int)) = false := by rw [decide_eq_false_iff_not]; omega
  have k2 : decide (1000 < dl.length) = false := by rw [decide_eq_false_iff_not]; omega
  have hput := Lib.hid (putm_any m _ x1 (h0.out.under hbx1 hbx1.size))
  clear hsmall
  cases eb with
  | true =>
    go_wp2_with fail
    refine (awake03_any _).mono ?_
    rintro e x9 ⟨rfl, hb9⟩
    go_wp2_with fail
    go_ret
    exact ⟨rfl, nxt hbx1 hb9⟩
  | false =>
  go_wp2_with fail
  refine hput.out.mono ?_
  rintro e x2 ⟨hb2, hno, hyes⟩
  have hbx2 := nxt hbx1 hb2
  have r2 := heap_below q2' hb2
  have r3 := heap_below q3' hb2
  clear c0 c1 c2 c3 d0 d1 d2 d3 d4 g0 g1 g2 g3 q1' q2' q3' hput hb2 hbx1 k1 k2
  obtain ⟨d0, d1, d2, d3, d4⟩ := box5f r2
  have hput : ∃ (u : Value) (er : Nat), e = .returned (.tuple #[u, .int .i64 (er : Int)]) ∧ ((er = 0 ∧ mright m = true ∧ Bs x2 u (menc m ++ be4 (crcN (menc m)))) ∨ er = 14) := by
    cases hr : mright m with
    | false => exact ⟨_, 14, hno hr, .inr rfl⟩
    | true =>
      obtain ⟨u, e1, -, hu⟩ := hyes hr
      exact ⟨u, 0, e1, .inl ⟨rfl, rfl, hu⟩⟩
  obtain ⟨ua, er, rfl, hP⟩ := hput
  clear hno hyes
  have hdw := hd.below hbx2
  have hpk := Lib.hid (pack_any f l s a dl A c _ hdw hf hl hs ha)
  go_wp2_with fail
  refine hpk.out.mono ?_
  rintro e x3 ⟨hb3, hno, hyes⟩
  have hpack : ∃ (u : Value) (er : Nat), e = .returned (.tuple #[u, .int .i64 (er : Int)]) ∧ ((er = 0 ∧ ∃ pe : List Nat, 1 ≤ pe.length ∧ pe.length ≤ 1050 ∧ (∀ b ∈ pe, b < 256) ∧ Bs x3 u (pe ++ be4 (crcN pe))) ∨ er = 14) := by
    cases hr : pint f l s a dl with
    | false => exact ⟨_, 14, hno hr, .inr rfl⟩
    | true =>
      obtain ⟨u, e1, -, hu⟩ := hyes hr
      have hpl := penc_len ⟨f.toNat, l.toNat, s.toNat, a.toNat, dl⟩
      dsimp only at hpl
      exact ⟨u, 0, e1, .inl ⟨rfl, _, hpl.1, by omega, fun b hb => hu.2 b (List.mem_append_left _ hb), hu⟩⟩
  obtain ⟨ub, er2, rfl, hQ⟩ := hpack
  have hbx3 := nxt hbx2 hb3
  have r33 := heap_below r3 hb3
  have hP3 : (er = 0 ∧ mright m = true ∧ Bs x3 ua (menc m ++ be4 (crcN (menc m)))) ∨ er = 14 := by
    rcases hP with ⟨h1, h2, h3⟩ | h
    · exact .inl ⟨h1, h2, h3.below hb3⟩
    · exact .inr h
  have HP := Lib.hid hP3
  have HQ := Lib.hid hQ
  clear hno hyes hpk d0 d1 d2 d3 d4 r2 r3 hb3 hbx2 hdw hd hP hP3 hQ
  obtain ⟨g0, g1, g2, g3⟩ := box4a r33
  go_upto_if 43 with (fail)
  go_cut [] (fun wx => Below x3.heap.size x3 wx)
  case first =>
    rcases HP.out with ⟨rfl, hr, hu⟩ | rfl
    · obtain ⟨-, -, -, -, -, hlen⟩ := mright_iff.1 hr
      have hl8 : ∀ b ∈ menc m, b < 256 := fun b hb => hu.2 b (List.mem_append_left _ hb)
      have hpos := menc_pos m
      have htu := Lib.hid (turned_any ua (menc m) a2 x y z u x3 hu hpos (by omega) hl8 HT8.out)
      generalize menc m = ml at *
      rw [show ((0 : Nat) : Int) = 0 from rfl]
      clear hl8 hu HP
      go_wp2_with fail
      refine htu.out.mono ?_
      rintro e x4 ⟨v4, X, rfl, -, hX, hXl, hXu, hb4⟩
      have hg := Lib.hid (mget_no X (by omega) hXu)
      go_wp2_with fail
      refine (getm_any _ X x4 hX (by omega)).mono ?_
      rw [hg.out]
      rintro e x5 ⟨hb5, rfl⟩
      unfold zeroM
      have hb35 := nxt hb4 hb5
      clear hX hXl hXu hb4 htu
      go_wp2_with fail
      go_meet
      exact hb35.alloc hb35.size _
    · go_wp2_with fail
      go_meet
      exact Below.refl _ _
  case rest =>
    have r34 := heap_below r33 hcut
    have hbx4 := nxt hbx3 hcut
    clear g0 g1 g2 g3 HP
    obtain ⟨g0, g1, g2, g3⟩ := box4a r34
    go_upto_if 55 with (fail)
    go_cut [] (fun wx => Below wc.heap.size wc wx)
    case first =>
      rcases HQ.out with ⟨rfl, pe, hpos, hlen, hp8, hu⟩ | rfl
      · have hu4 := hu.below hcut
        have htu := Lib.hid (turned_any ub pe a2 x y z u _ hu4 hpos (by omega) hp8 HT8.out)
        rw [show ((0 : Nat) : Int) = 0 from rfl]
        clear hp8 hu HQ hu4
        go_wp2_with fail
        refine htu.out.mono ?_
        rintro e x4 ⟨v4, X, rfl, -, hX, hXl, hXu, hb4⟩
        have hg := Lib.hid (pget_no X (by omega) hXu)
        go_wp2_with fail
        refine (unpack_any _ X x4 hX (by omega)).mono ?_
        rw [hg.out]
        rintro e x5 ⟨hb5, rfl⟩
        unfold zeroP
        have hb35 := nxt hb4 hb5
        clear hX hXl hXu hb4 htu
        go_wp2_with fail
        go_meet
        exact hb35.alloc hb35.size _
      · go_wp2_with fail
        go_meet
        exact Below.refl _ _
    case rest =>
      have hbx5 := nxt hbx4 hcut
      go_wp2_with fail
      refine (awake03_any _).mono ?_
      rintro e x9 ⟨rfl, hb9⟩
      go_wp2_with fail
      go_ret
      exact ⟨rfl, nxt hbx5 hb9⟩

set_option maxRecDepth 100000 in
theorem lifted (os : Os) (started : os.Started) (H : Type) (enc : TypeId × Value → H) :
    ReturnsInHanded {} Try.checked os 7 .any (Rows.frameTurnedSpec.pre6 enc Try.prog Try.f7 Rows.frameTurnedRow.domain false) (Rows.frameTurnedSpec.post enc Try.prog Try.f7 false true false false) := by
  refine returnsInHanded_of_change (C := Try.checked) knob_own started (by kernel_rfl) Try.func7
    (ChangeSpec.witness6 (enc := enc) (C := Try.checked) false ⟨#[], #[.agg #[.int .u8 0, .slice none 0 0, .slice none 0 0, .slice none 0 0], .agg #[.int .i64 0, .int .i64 0, .int .i64 0, .int .i64 0, .slice none 0 0], .int .i64 0, .agg #[.int .u8 0, .int .u8 0, .int .u8 0, .int .u8 0]], []⟩ 8 (by kernel_rfl) (by kernel_rfl) (by kernel_rfl) (by kernel_rfl)) ?_
  intro W base args ds gs before hval0 hW hcnd _
  have hval : ∀ (j : Nat) t v, Try.f7.params[j]? = some t → args[j]? = some v → Value.okWide Try.prog W .any base t v := hval0
  have hW' := hW
  obtain ⟨p, q, hA0, hV, rfl, hfz, hnd⟩ := hW
  have hA : DataW.TrodAll enc Try.prog W 0 (fun _ => true) true Try.f7.params.toList args.toList ds p := hA0
  rw [Try.params7] at hA hval
  obtain ⟨v0, vs0, d0, ds0, p0, q0, hargs, rfl, rfl, h0, r0⟩ := trodAll_cons hA
  obtain ⟨v1, vs1, d1, ds1, p1, q1, rfl, rfl, rfl, h1, r1⟩ := trodAll_cons r0
  obtain ⟨v2, vs2, d2, ds2, p2, q2, rfl, rfl, rfl, h2, r2⟩ := trodAll_cons r1
  obtain ⟨v3, vs3, d3, ds3, p3, q3, rfl, rfl, rfl, h3, r3⟩ := trodAll_cons r2
  obtain ⟨rfl, rfl, rfl⟩ := trodAll_nil r3
  obtain rfl : args = #[v0, v1, v2, v3] := by cases args; simp_all
  obtain ⟨rfl, rfl⟩ := trodVars_none hV
  have k0 := h0
  have lt0 : ∀ x ∈ p0, x.block < W.heap.size := by obtain ⟨m, hm⟩ := k0; exact DataW.trod_lt m _ _ _ hm
  have w0 := msg_open (hval 0 30 v0 rfl rfl) h0
  have k1 := h1
  have lt1 : ∀ x ∈ p1, x.block < W.heap.size := by obtain ⟨m, hm⟩ := k1; exact DataW.trod_lt m _ _ _ hm
  have w1 := pk_open (hval 1 41 v1 rfl rfl) h1
  have lt2 : ∀ x ∈ p2, x.block < W.heap.size := by obtain ⟨m, hm⟩ := h2; exact DataW.trod_lt m _ _ _ hm
  have k2 := h2
  obtain ⟨a2, rfl, _, _, w2⟩ := open_int Try.underlying3 (hval 2 3 v2 rfl rfl) h2
  have k3 := h3
  have lt3 : ∀ x ∈ p3, x.block < W.heap.size := by obtain ⟨m, hm⟩ := k3; exact DataW.trod_lt m _ _ _ hm
  obtain ⟨x3, y3, z3, u3, rfl, w3⟩ := arr4_open (hval 3 57 v3 rfl rfl) h3
  clear hA0 hval0
  refine (walk W v0 v1 a2 x3 y3 z3 u3 w0 w1 w2 w3).mono fun e W' ⟨he, bel⟩ => ?_
  subst he
  exact ⟨_, rfl, _, _, _, [], _, [], hW', trodAll_mk1 (shut_bool Try.underlying4 _), (trodAll_cons_mk (Below.trod laid_out (by kernel_rfl) (of_decide_eq_true (by kernel_rfl)) k0 bel lt0) (trodAll_cons_mk (Below.trod laid_out (by kernel_rfl) (of_decide_eq_true (by kernel_rfl)) k1 bel lt1) (trodAll_cons_mk (Below.trod laid_out (by kernel_rfl) (of_decide_eq_true (by kernel_rfl)) k2 bel lt2) (trodAll_cons_mk (Below.trod laid_out (by kernel_rfl) (of_decide_eq_true (by kernel_rfl)) k3 bel lt3) (trodAll_mk0))))), rfl, bel.frame _, fun h => by cases h⟩

theorem over : Rows.frameTurnedRow.holds Try.pinned (OpenSpec.ofChange Rows.frameTurnedSpec) :=
  OpenClaim.holds_of_wide 7 Try.f7 rfl rfl rfl rfl rfl rfl rfl ⟨rfl, rfl, rfl, rfl, rfl⟩ rfl rfl rfl rfl rfl (by kernel_rfl) Try.func7 (by kernel_rfl)
    (of_decide_eq_true (by kernel_rfl)) (by unfold Func.isWrapper; first | (rw [if_pos (by decide +kernel)]; kernel_rfl) | (rw [if_neg (by decide +kernel)]; exact ⟨rfl, rfl⟩))
    (fun os started H enc _ => lifted os started H enc)

theorem proved : Rows.FrameTurnedSaid := over
end Go.Proofs.Ytdgidjgdknkdlaa.frameTurned
