/- droverlaw03.FrameApart returns true whatever its arguments: two messages have the same bytes just if they are the same; so have two packets. For every input, without conditions. -/
import Derived.Test.YtjcefnlidophoaaRow
import Derived.Test.YtjcefnlidophoaaAwake03
import Derived.Test.YtjcefnlidophoaaMopen
import Derived.Test.YtjcefnlidophoaaPopen
import Derived.Test.YtjcefnlidophoaaSmallm
import Derived.Test.YtjcefnlidophoaaSamemb
import Derived.Deep.RegionHeld3
import Derived.Deep.DeepCutAuto
import Derived.StillTailTactics
import Derived.BigQuiet
namespace Go.Proofs.Ytjcefnlidophoaa.frameApart
open Go.ChangeShapes Go.WideShapes Go.ChangeAt Go.RowKit
set_option linter.unusedVariables false

theorem pint_true {f l s a : Int} {d : List Nat} (h : pint f l s a d = true) : 0 ≤ f ∧ 0 ≤ l ∧ 0 ≤ s ∧ 0 ≤ a ∧ pright ⟨f.toNat, l.toNat, s.toNat, a.toNat, d⟩ = true := by
  unfold pint at h
  simp only [Bool.and_eq_true, decide_eq_true_eq, Bool.or_eq_true, List.isEmpty_iff] at h
  obtain ⟨⟨⟨⟨⟨h1, h2⟩, h3⟩, h4⟩, h5⟩, h6⟩ := h
  refine ⟨h1.1, h2.1, h3.1, h4.1, pright_iff.2 ⟨by dsimp only; omega, by dsimp only; omega, by dsimp only; omega, by dsimp only; omega, h5, fun h => ?_⟩⟩
  rcases h6 with h6 | h6
  · exact absurd (by dsimp only at h; omega) h6
  · exact h6
theorem sealed_inj {a b : List Nat} (h : a ++ be4 (crcN a) = b ++ be4 (crcN b)) : a = b := by
  have hl := congrArg List.length h
  rw [List.length_append, List.length_append, be4_length, be4_length] at hl
  exact (List.append_inj h (by omega)).1
theorem put_inj {m n : Ms} (hm : mright m = true) (hn : mright n = true) (om : MOk m) (on : MOk n) : (menc m ++ be4 (crcN (menc m)) = menc n ++ be4 (crcN (menc n))) ↔ m = n := by
  constructor
  · intro h
    have e := sealed_inj h
    have h1 := mdec_menc hm om
    rw [e, mdec_menc hn on] at h1
    injection h1 with h1
    exact h1.symm
  · rintro rfl
    rfl
theorem pk_inj {f l s a f' l' s' a' : Int} {d d' : List Nat} (h : pint f l s a d = true) (h' : pint f' l' s' a' d' = true) :
    decide (penc ⟨f.toNat, l.toNat, s.toNat, a.toNat, d⟩ ++ be4 (crcN (penc ⟨f.toNat, l.toNat, s.toNat, a.toNat, d⟩)) = penc ⟨f'.toNat, l'.toNat, s'.toNat, a'.toNat, d'⟩ ++ be4 (crcN (penc ⟨f'.toNat, l'.toNat, s'.toNat, a'.toNat, d'⟩))) = decide (f = f' ∧ l = l' ∧ s = s' ∧ a = a' ∧ d = d') := by
  obtain ⟨p1, p2, p3, p4, p5⟩ := pint_true h
  obtain ⟨q1, q2, q3, q4, q5⟩ := pint_true h'
  apply decide_eq_decide.2
  constructor
  · intro h
    have e := sealed_inj h
    have h1 := pdec_penc p5
    rw [e, pdec_penc q5] at h1
    injection h1 with h1
    simp only [Pk.mk.injEq] at h1
    obtain ⟨e1, e2, e3, e4, e5⟩ := h1
    exact ⟨by omega, by omega, by omega, by omega, e5.symm⟩
  · rintro ⟨rfl, rfl, rfl, rfl, rfl⟩
    rfl
theorem put_cases {m : Ms} {w w' : World} {e : Ending} (h : OutPm m w e w') : Below w.heap.size w w' ∧ ∃ (u : Value) (er : Nat), e = .returned (.tuple #[u, .int .i64 (er : Int)]) ∧ ((er = 0 ∧ mright m = true ∧ Bs w' u (menc m ++ be4 (crcN (menc m)))) ∨ er = 14) := by
  obtain ⟨hb, hno, hyes⟩ := h
  refine ⟨hb, ?_⟩
  cases hr : mright m with
  | false => exact ⟨_, 14, hno hr, .inr rfl⟩
  | true =>
    obtain ⟨u, e1, -, hu⟩ := hyes hr
    exact ⟨u, 0, e1, .inl ⟨rfl, rfl, hu⟩⟩
theorem pack_cases {f l s a : Int} {d : List Nat} {w w' : World} {e : Ending} (h : OutPack (pint f l s a d) (penc ⟨f.toNat, l.toNat, s.toNat, a.toNat, d⟩) w e w') : Below w.heap.size w w' ∧ ∃ (u : Value) (er : Nat), e = .returned (.tuple #[u, .int .i64 (er : Int)]) ∧
    ((er = 0 ∧ pint f l s a d = true ∧ Bs w' u (penc ⟨f.toNat, l.toNat, s.toNat, a.toNat, d⟩ ++ be4 (crcN (penc ⟨f.toNat, l.toNat, s.toNat, a.toNat, d⟩)))) ∨ er = 14) := by
  obtain ⟨hb, hno, hyes⟩ := h
  refine ⟨hb, ?_⟩
  cases hr : pint f l s a d with
  | false => exact ⟨_, 14, hno hr, .inr rfl⟩
  | true =>
    obtain ⟨u, e1, -, hu⟩ := hyes hr
    exact ⟨u, 0, e1, .inl ⟨rfl, rfl, hu⟩⟩
theorem mvals_rt {m : Ms} (h : mright m = true) : (∀ x ∈ m.vals, Rt 16 x) ∧ m.nums.length ≤ 1000 ∧ m.vals.length ≤ 1000 ∧ m.blobs.length ≤ 1000 := by
  obtain ⟨h1, h2, h3, h4, h5, h6⟩ := mright_iff.1 h
  refine ⟨fun x hx => ?_, by omega, by omega, by omega⟩
  obtain ⟨k, hk⟩ := right_rgt (h3 x hx)
  exact (rgt_rt 16 _ 256 k hk).1

set_option maxRecDepth 100000 in
set_option maxHeartbeats 6400000 in
theorem walk (w : World) (v0 : Value) (v1 : Value) (v2 : Value) (v3 : Value) (w0 : ∃ m, MRep w (fun b => b < w.heap.size) v0 m) (w1 : ∃ m, MRep w (fun b => b < w.heap.size) v1 m) (w2 : PkIs w v2) (w3 : PkIs w v3) :
    Calls Try.prog 3 #[v0, v1, v2, v3] w fun e w' => e = .returned (.bool true) ∧ Below w.heap.size w w' := by
  obtain ⟨m, hm⟩ := w0
  obtain ⟨n, hn⟩ := w1
  obtain ⟨f, l, s, a, A, c, dl, rfl, hd, hf, hl, hs, ha⟩ := w2
  obtain ⟨f', l', s', a', A', c', dl', rfl, hd', hf', hl', hs', ha'⟩ := w3
  have hm0 := Lib.hid hm
  have hn0 := Lib.hid hn
  obtain ⟨hok, An, cn, Av, cv, Ab, cb, rfl, -, -, -, -, -, -⟩ := hm
  obtain ⟨hok', An', cn', Av', cv', Ab', cb', rfl, -, -, -, -, -, -⟩ := hn
  have HOK := Lib.hid hok
  have HOK' := Lib.hid hok'
  clear hok hok'
  obtain ⟨o1, ho1⟩ : ∃ o : Obj, o = .cells #[.int .u8 (m.k : Int), .slice An m.nums.length cn, .slice Av m.vals.length cv, .slice Ab m.blobs.length cb] 26 := ⟨_, rfl⟩
  obtain ⟨o2, ho2⟩ : ∃ o : Obj, o = .cells #[.int .u8 (n.k : Int), .slice An' n.nums.length cn', .slice Av' n.vals.length cv', .slice Ab' n.blobs.length cb'] 26 := ⟨_, rfl⟩
  obtain ⟨o3, ho3⟩ : ∃ o : Obj, o = .cells #[.int .i64 f, .int .i64 l, .int .i64 s, .int .i64 a, .slice A dl.length c] 29 := ⟨_, rfl⟩
  obtain ⟨o4, ho4⟩ : ∃ o : Obj, o = .cells #[.int .i64 f', .int .i64 l', .int .i64 s', .int .i64 a', .slice A' dl'.length c'] 29 := ⟨_, rfl⟩
  obtain ⟨W, hW⟩ : ∃ W, W = (((w.alloc o1).alloc o2).alloc o3).alloc o4 := ⟨_, rfl⟩
  have hbW : Below w.heap.size w W := by rw [hW]; exact nxt (two w o1 o2) (nxt ((Below.refl _ _).alloc (Nat.le_refl _) o3) ((Below.refl _ _).alloc (Nat.le_refl _) o4))
  have q1 : W.heap[w.heap.size]? = some o1 := by rw [hW]; exact heap_old (heap_old (heap_old (heap_new w o1) o2) o3) o4
  have q2 : W.heap[w.heap.size + 1]? = some o2 := by rw [hW]; exact heap_old (heap_old (heap_new' (w.alloc o1) o2 (w.heap.size + 1) (by simp)) o3) o4
  have q3 : W.heap[w.heap.size + 1 + 1]? = some o3 := by rw [hW]; exact heap_old (heap_new' ((w.alloc o1).alloc o2) o3 (w.heap.size + 1 + 1) (by simp)) o4
  have q4 : W.heap[w.heap.size + 1 + 1 + 1]? = some o4 := by rw [hW]; exact heap_new' (((w.alloc o1).alloc o2).alloc o3) o4 (w.heap.size + 1 + 1 + 1) (by simp)
  obtain ⟨B1, hB1⟩ : ∃ B, B = w.heap.size := ⟨_, rfl⟩
  obtain ⟨B2, hB2⟩ : ∃ B, B = w.heap.size + 1 := ⟨_, rfl⟩
  obtain ⟨B3, hB3⟩ : ∃ B, B = w.heap.size + 1 + 1 := ⟨_, rfl⟩
  obtain ⟨B4, hB4⟩ : ∃ B, B = w.heap.size + 1 + 1 + 1 := ⟨_, rfl⟩
  subst ho1
  subst ho2
  subst ho3
  subst ho4
  rw [← hB1] at q1
  rw [← hB2] at q2
  rw [← hB3] at q3
  rw [← hB4] at q4
  have hdW := hd.below hbW
  have hdW' := hd'.below hbW
  clear hd hd'
  go_enter Try.func3, Try.ntmps3
  go_upto_region 1 with fail
  rw [← hW, ← hB4, ← hB3, ← hB2, ← hB1]
  clear hW hB1 hB2 hB3 hB4
  have Q1 := Lib.hid q1
  have Q2 := Lib.hid q2
  have Q3 := Lib.hid q3
  have Q4 := Lib.hid q4
  obtain ⟨c0, c1, c2, c3⟩ := box4 q1
  obtain ⟨d0, d1, d2, d3⟩ := box4 q2
  obtain ⟨e0, e1, e2, e3, e4⟩ := box5f q3
  obtain ⟨f0, f1, f2, f3, f4⟩ := box5f q4
  clear q1 q2 q3 q4
  go_cut [32] (fun sx wx => ∃ b : Bool, sx = .bool b ∧ Below W.heap.size W wx ∧ (b = false → dl.length ≤ 1000 ∧ dl'.length ≤ 1000))
  case first =>
    have hsm := Lib.hid (smallm_any m _ W (hm0.out.under hbW hbW.size))
    have hsn := Lib.hid (fun (w1 : World) (hb : Below W.heap.size W w1) => smallm_any n _ w1 (hn0.out.under (nxt hbW hb) (nxt hbW hb).size))
    go_wp2_with fail
    refine hsm.out.mono ?_
    rintro e x1 ⟨rfl, hb1⟩
    cases hs1 : smallM m with
    | false =>
      clear hs1
      go_wp2_with fail
      go_meet
      exact ⟨true, rfl, hb1, fun h => by cases h⟩
    | true =>
      clear hs1 c0 c1 c2 c3 d0 d1 d2 d3 e0 e1 e2 e3 e4 f0 f1 f2 f3 f4
      obtain ⟨d0, d1, d2, d3⟩ := box4 (heap_below Q2.out hb1)
      go_wp2_with fail
      refine (hsn.out x1 hb1).mono ?_
      rintro e x2 ⟨rfl, hb2⟩
      have hb12 := nxt hb1 hb2
      cases hs2 : smallM n with
      | false =>
        clear hs2
        go_wp2_with fail
        go_meet
        exact ⟨true, rfl, hb12, fun h => by cases h⟩
      | true =>
        clear hs2 d0 d1 d2 d3 hb1 hb2
        obtain ⟨e0, e1, e2, e3, e4⟩ := box5f (heap_below Q3.out hb12)
        obtain ⟨f0, f1, f2, f3, f4⟩ := box5f (heap_below Q4.out hb12)
        by_cases hbig : 1000 < dl.length
        · have k1 : decide ((1000 : Int) < (dl.length : Int)) = true := decide_eq_true (by omega)
          have k2 : decide (1000 < dl.length) = true := decide_eq_true hbig
          clear hbig
          go_wp2_with fail
          go_meet
          exact ⟨true, rfl, hb12, fun h => by cases h⟩
        have k1 : decide ((1000 : Int) < (dl.length : Int)) = false := decide_eq_false (by omega)
        have k2 : decide (1000 < dl.length) = false := decide_eq_false hbig
        by_cases hbig' : 1000 < dl'.length
        · have k3 : decide ((1000 : Int) < (dl'.length : Int)) = true := decide_eq_true (by omega)
          have k4 : decide (1000 < dl'.length) = true := decide_eq_true hbig'
          clear hbig hbig'
          go_wp2_with fail
          go_meet
          exact ⟨true, rfl, hb12, fun h => by cases h⟩
        have k3 : decide ((1000 : Int) < (dl'.length : Int)) = false := decide_eq_false (by omega)
        have k4 : decide (1000 < dl'.length) = false := decide_eq_false hbig'
        have hend := Lib.hid (show dl.length ≤ 1000 ∧ dl'.length ≤ 1000 from ⟨by omega, by omega⟩)
        clear hbig hbig'
        go_wp2_with fail
        go_meet
        exact ⟨false, rfl, hb12, fun _ => hend.out⟩
  case rest =>
  clear c0 c1 c2 c3 d0 d1 d2 d3 e0 e1 e2 e3 e4 f0 f1 f2 f3 f4
  obtain ⟨bb, rfl, hbx, hsmall⟩ := hcut
  have hbx0 := nxt hbW hbx
  cases bb with
  | true =>
    clear hsmall
    go_wp2_with fail
    refine (awake03_any _).mono ?_
    rintro e x9 ⟨rfl, hb9⟩
    go_wp2_with fail
    go_ret
    exact ⟨rfl, nxt hbx0 hb9⟩
  | false =>
  have HSM := Lib.hid (hsmall rfl)
  clear hsmall
  have Q1 := Lib.hid (heap_below Q1.out hbx)
  have Q2 := Lib.hid (heap_below Q2.out hbx)
  have Q3 := Lib.hid (heap_below Q3.out hbx)
  have Q4 := Lib.hid (heap_below Q4.out hbx)
  have hd := hdW.below hbx
  have hd' := hdW'.below hbx
  have hm1 := Lib.hid (hm0.out.under hbx0 hbx0.size)
  have hn1 := Lib.hid (hn0.out.under hbx0 hbx0.size)
  clear hdW hdW' hbW hbx hm0 hn0
  obtain ⟨c0, c1, c2, c3⟩ := box4 Q1.out
  have hput := Lib.hid (putm_any m _ wc hm1.out)
  go_wp2_with fail
  refine hput.out.mono ?_
  rintro e x2 hpm
  obtain ⟨hb2, ua, er, rfl, hP⟩ := put_cases hpm
  clear hpm hput c0 c1 c2 c3
  obtain ⟨d0, d1, d2, d3⟩ := box4 (heap_below Q2.out hb2)
  have hput := Lib.hid (putm_any n _ x2 (hn1.out.under hb2 hb2.size))
  go_upto_region 4 with fail
  go_wp2_with fail
  refine hput.out.mono ?_
  rintro e x3 hpm
  obtain ⟨hb3, ub, er2, rfl, hP2⟩ := put_cases hpm
  have hb23 := nxt hb2 hb3
  have Q1 := Lib.hid (heap_below Q1.out hb23)
  have Q2 := Lib.hid (heap_below Q2.out hb23)
  have Q3 := Lib.hid (heap_below Q3.out hb23)
  have Q4 := Lib.hid (heap_below Q4.out hb23)
  have hd := hd.below hb23
  have hd' := hd'.below hb23
  have hbx := nxt hbx0 hb23
  have hm1 := Lib.hid (hm1.out.under hb23 hb23.size)
  have hn1 := Lib.hid (hn1.out.under hb23 hb23.size)
  clear hpm hput d0 d1 d2 d3 hbx0
  have HP : Hid ((er = 0 ∧ mright m = true ∧ Bs x3 ua (menc m ++ be4 (crcN (menc m)))) ∨ er = 14) := by
    rcases hP with ⟨h1, h2, h3⟩ | h
    · exact .inl ⟨h1, h2, h3.below hb3⟩
    · exact .inr h
  have HP2 := Lib.hid hP2
  clear hP hP2 hb2 hb3 hb23
  obtain ⟨c0, c1, c2, c3⟩ := box4 Q1.out
  obtain ⟨d0, d1, d2, d3⟩ := box4 Q2.out
  go_upto_region 5 with fail
  go_cut [58] (fun sx wx => sx = .bool false ∧ Below x3.heap.size x3 wx)
  case first =>
    rcases HP.out with ⟨rfl, hr, hu⟩ | rfl
    · rcases HP2.out with ⟨rfl, hr2, hu2⟩ | rfl
      · obtain ⟨b1, hbb⟩ : ∃ b, Hid (decide (menc m ++ be4 (crcN (menc m)) = menc n ++ be4 (crcN (menc n))) = b) := ⟨_, Lib.hid rfl⟩
        have HI : Hid (b1 = true ↔ m = n) := by
          show _ ↔ _
          rw [← hbb.out, decide_eq_true_iff]
          exact put_inj hr hr2 HOK.out HOK'.out
        obtain ⟨hv, n1, n2, n3⟩ := mvals_rt hr
        have HS := Lib.hid (same_bs ua ub _ _ b1 x3.drew hu.drew hu2.drew hbb.out)
        have HM := Lib.hid (samemb_any m n _ _ x3.drew hv n1 n2 n3 (hm1.out.keep (fun _ _ => rfl) (fun _ h => h)) (hn1.out.keep (fun _ _ => rfl) (fun _ h => h)))
        have g1 : (b1 != b1) = false := by simp
        clear HP HP2 hu hu2 hv n1 n2 n3 hr hr2 hbb
        go_region_held3 (fun w' => (w'.cell? ⟨B1, 0, none⟩ = some (.int .u8 (m.k : Int)) ∧ w'.cell? ⟨B1, 1, none⟩ = some (.slice An m.nums.length cn) ∧ w'.cell? ⟨B1, 2, none⟩ = some (.slice Av m.vals.length cv) ∧ w'.cell? ⟨B1, 3, none⟩ = some (.slice Ab m.blobs.length cb)) ∧
            (w'.cell? ⟨B2, 0, none⟩ = some (.int .u8 (n.k : Int)) ∧ w'.cell? ⟨B2, 1, none⟩ = some (.slice An' n.nums.length cn') ∧ w'.cell? ⟨B2, 2, none⟩ = some (.slice Av' n.vals.length cv') ∧ w'.cell? ⟨B2, 3, none⟩ = some (.slice Ab' n.blobs.length cb'))) (go_keep)
          (first
            | (go_at_call 14
               with_reducible refine HS.out.mono ?_
               rintro e w8 ⟨rfl, rfl⟩)
            | (go_at_call 15
               with_reducible refine HM.out.mono ?_
               rintro e w8 ⟨⟨b2, rfl, hb2⟩, hb8'⟩
               have hb8 : Below x3.heap.size x3 w8 := of_drew hb8'
               obtain rfl : b1 = b2 := by
                 rw [Bool.eq_iff_iff]
                 exact HI.out.trans hb2.symm
               obtain ⟨k0, k1, k2, k3⟩ := box4 (heap_below Q1.out hb8)
               obtain ⟨l0, l1, l2, l3⟩ := box4 (heap_below Q2.out hb8))
            | (fail))
        all_goals
          go_wp2_with fail
          go_meet
          exact ⟨rfl, hb8⟩
      · clear HP HP2 hu
        go_quiet (fail)
        go_wp2_with fail
        go_meet
        exact ⟨rfl, below_drewN (Below.refl _ _) _⟩
    · clear HP HP2
      go_quiet (fail)
      go_wp2_with fail
      go_meet
      exact ⟨rfl, below_drewN (Below.refl _ _) _⟩
  case rest =>
  obtain ⟨rfl, hbc⟩ := hcut
  have Q3 := Lib.hid (heap_below Q3.out hbc)
  have Q4 := Lib.hid (heap_below Q4.out hbc)
  have hd := hd.below hbc
  have hd' := hd'.below hbc
  have hbx := nxt hbx hbc
  clear c0 c1 c2 c3 d0 d1 d2 d3 HP HP2 Q1 Q2 hm1 hn1 hbc HOK HOK' HSM
  obtain ⟨e0, e1, e2, e3, e4⟩ := box5f Q3.out
  have hpk := Lib.hid (pack_any f l s a dl A c _ hd hf hl hs ha)
  go_wp2_with fail
  refine hpk.out.mono ?_
  rintro e x4 hpp
  obtain ⟨hb4, ua, er, rfl, hP⟩ := pack_cases hpp
  have Q3 := Lib.hid (heap_below Q3.out hb4)
  have Q4 := Lib.hid (heap_below Q4.out hb4)
  have hd := hd.below hb4
  have hd' := hd'.below hb4
  have hbx := nxt hbx hb4
  clear hpp hpk e0 e1 e2 e3 e4 hb4
  have HP := Lib.hid hP
  clear hP
  obtain ⟨f0, f1, f2, f3, f4⟩ := box5f Q4.out
  have hpk := Lib.hid (pack_any f' l' s' a' dl' A' c' _ hd' hf' hl' hs' ha')
  go_wp2_with fail
  refine hpk.out.mono ?_
  rintro e x5 hpp
  obtain ⟨hb5, ub, er2, rfl, hP2⟩ := pack_cases hpp
  have Q3 := Lib.hid (heap_below Q3.out hb5)
  have Q4 := Lib.hid (heap_below Q4.out hb5)
  have hd := Lib.hid (hd.below hb5)
  have hd' := Lib.hid (hd'.below hb5)
  have hbx := nxt hbx hb5
  have HP : Hid ((er = 0 ∧ pint f l s a dl = true ∧ Bs x5 ua (penc ⟨f.toNat, l.toNat, s.toNat, a.toNat, dl⟩ ++ be4 (crcN (penc ⟨f.toNat, l.toNat, s.toNat, a.toNat, dl⟩)))) ∨ er = 14) := by
    rcases HP.out with ⟨h1, h2, h3⟩ | h
    · exact .inl ⟨h1, h2, h3.below hb5⟩
    · exact .inr h
  have HP2 := Lib.hid hP2
  clear hP2 hpp hpk f0 f1 f2 f3 f4 hb5
  obtain ⟨e0, e1, e2, e3, e4⟩ := box5f Q3.out
  obtain ⟨f0, f1, f2, f3, f4⟩ := box5f Q4.out
  go_upto_region 9 with fail
  rcases HP.out with ⟨rfl, hr, hu⟩ | rfl
  · rcases HP2.out with ⟨rfl, hr2, hu2⟩ | rfl
    · have HS := Lib.hid (same_bs ua ub _ _ _ x5.drew hu.drew hu2.drew (pk_inj hr hr2))
      obtain ⟨b1, hb1⟩ : ∃ b, b = decide (f = f' ∧ l = l' ∧ s = s' ∧ a = a' ∧ dl = dl') := ⟨_, rfl⟩
      have HM := Lib.hid (samep_any f l s a f' l' s' a' dl dl' A A' c c' x5.drew hd.out.drew hd'.out.drew)
      rw [← hb1] at HS HM
      have g1 : (b1 == b1) = true := by simp
      clear HP HP2 hu hu2 hr hr2 hb1
      go_region_held3 (fun w' => (w'.cell? ⟨B3, 0, none⟩ = some (.int .i64 f) ∧ w'.cell? ⟨B3, 1, none⟩ = some (.int .i64 l) ∧ w'.cell? ⟨B3, 2, none⟩ = some (.int .i64 s) ∧ w'.cell? ⟨B3, 3, none⟩ = some (.int .i64 a) ∧ w'.cell? ⟨B3, 4, none⟩ = some (.slice A dl.length c)) ∧
          (w'.cell? ⟨B4, 0, none⟩ = some (.int .i64 f') ∧ w'.cell? ⟨B4, 1, none⟩ = some (.int .i64 l') ∧ w'.cell? ⟨B4, 2, none⟩ = some (.int .i64 s') ∧ w'.cell? ⟨B4, 3, none⟩ = some (.int .i64 a') ∧ w'.cell? ⟨B4, 4, none⟩ = some (.slice A' dl'.length c'))) (go_keep)
        (first
          | (go_at_call 14
             with_reducible refine HS.out.mono ?_
             rintro e w8 ⟨rfl, rfl⟩)
          | (go_at_call 17
             with_reducible refine HM.out.mono ?_
             rintro e w8 ⟨rfl, hb8'⟩
             have hb8 : Below x5.heap.size x5 w8 := of_drew hb8'
             obtain ⟨k0, k1, k2, k3, k4⟩ := box5f (heap_below Q3.out hb8)
             obtain ⟨l0, l1, l2, l3, l4⟩ := box5f (heap_below Q4.out hb8))
          | (go_at_call 12
             refine (awake03_any _).mono ?_
             rintro e w9 ⟨rfl, hb9⟩
             obtain ⟨k0, k1, k2, k3, k4⟩ := box5f (heap_below Q3.out (nxt hb8 hb9))
             obtain ⟨l0, l1, l2, l3, l4⟩ := box5f (heap_below Q4.out (nxt hb8 hb9)))
          | (fail))
      all_goals
        go_wp2_with fail
        go_ret
        exact ⟨rfl, nxt hbx (nxt hb8 hb9)⟩
    · clear HP HP2 hu
      refine wp_region_held_drew (S := fun _ => True) (by kernel_rfl) trivial (fun hHeld => ?_)
      refine wpAnyH_take (i := 0) (oi := { dst := some 69, op := Go.Op.move (Go.Operand.tmp 10), type := 32, pos := "outright.go:70", after := #[], guard := none }) (v := ?bv0) rfl (by kernel_rfl) (by kernel_rfl) (by kernel_rfl) (fun _ _ _ h => h) (Or.inl ⟨by rfl, ?bhy0⟩) (by assumption) ?brest0
      case bhy0 =>
        intro w hSw
        (try dsimp only at hSw)
        go_simp
        try with_reducible rfl
      try simp only [Act.put, List.setIfInBounds_toArray, List.set_cons_zero, List.set_cons_succ]
      refine wpAnyH_take (i := 1) (oi := { dst := some 70, op := Go.Op.binOp Go.BinOp.neq 32 (Go.Operand.tmp 69) (Go.Operand.const (Go.Value.int Go.IntKind.i64 0)) 32, type := 4, pos := "outright.go:70", after := #[{ on := 0, ground := Go.Ground.data }], guard := none }) (v := ?bv1) rfl (by kernel_rfl) (by kernel_rfl) (by kernel_rfl) (fun _ _ _ h => h) (Or.inl ⟨by rfl, ?bhy1⟩) (by assumption) ?brest1
      case bhy1 =>
        intro w hSw
        (try dsimp only at hSw)
        go_simp
        try with_reducible rfl
      try simp only [Act.put, List.setIfInBounds_toArray, List.set_cons_zero, List.set_cons_succ]
      refine wpAnyH_take (i := 2) (oi := { dst := some 71, op := Go.Op.move (Go.Operand.tmp 70), type := 4, pos := "outright.go:70", after := #[{ on := 1, ground := Go.Ground.data }], guard := none }) (v := ?bv2) rfl (by kernel_rfl) (by kernel_rfl) (by kernel_rfl) (fun _ _ _ h => h) (Or.inl ⟨by rfl, ?bhy2⟩) (by assumption) ?brest2
      case bhy2 =>
        intro w hSw
        (try dsimp only at hSw)
        go_simp
        try with_reducible rfl
      try simp only [Act.put, List.setIfInBounds_toArray, List.set_cons_zero, List.set_cons_succ]
      refine wpAnyH_take (i := 3) (oi := { dst := some 72, op := Go.Op.move (Go.Operand.tmp 12), type := 32, pos := "outright.go:70", after := #[{ on := 2, ground := Go.Ground.guard }], guard := some (2, false) }) (v := ?bv3) rfl (by kernel_rfl) (by kernel_rfl) (by kernel_rfl) (fun _ _ _ h => h) (Or.inl ⟨by rfl, ?bhy3⟩) (by assumption) ?brest3
      case bhy3 =>
        intro w hSw
        (try dsimp only at hSw)
        go_simp
        try with_reducible rfl
      try simp only [Act.put, List.setIfInBounds_toArray, List.set_cons_zero, List.set_cons_succ]
      refine wpAnyH_take (i := 4) (oi := { dst := some 73, op := Go.Op.binOp Go.BinOp.neq 32 (Go.Operand.tmp 72) (Go.Operand.const (Go.Value.int Go.IntKind.i64 0)) 32, type := 4, pos := "outright.go:70", after := #[{ on := 3, ground := Go.Ground.data }, { on := 2, ground := Go.Ground.guard }], guard := some (2, false) }) (v := ?bv4) rfl (by kernel_rfl) (by kernel_rfl) (by kernel_rfl) (fun _ _ _ h => h) (Or.inl ⟨by rfl, ?bhy4⟩) (by assumption) ?brest4
      case bhy4 =>
        intro w hSw
        (try dsimp only at hSw)
        go_simp
        try with_reducible rfl
      try simp only [Act.put, List.setIfInBounds_toArray, List.set_cons_zero, List.set_cons_succ]
      refine wpAnyH_take (i := 5) (oi := { dst := some 74, op := Go.Op.pick (Go.Operand.tmp 71) (Go.Operand.const (Go.Value.bool true)) (Go.Operand.tmp 73), type := 4, pos := "outright.go:70", after := #[{ on := 2, ground := Go.Ground.data }, { on := 4, ground := Go.Ground.data }], guard := none }) (v := ?bv5) rfl (by kernel_rfl) (by kernel_rfl) (by kernel_rfl) (fun _ _ _ h => h) (Or.inl ⟨by rfl, ?bhy5⟩) (by assumption) ?brest5
      case bhy5 =>
        intro w hSw
        (try dsimp only at hSw)
        go_simp
        try with_reducible rfl
      try simp only [Act.put, List.setIfInBounds_toArray, List.set_cons_zero, List.set_cons_succ]
      refine wpAnyH_take (i := 6) (oi := { dst := some 75, op := Go.Op.move (Go.Operand.tmp 74), type := 4, pos := "outright.go:70", after := #[{ on := 5, ground := Go.Ground.data }, { on := 2, ground := Go.Ground.chain }], guard := none }) (v := ?bv6) rfl (by kernel_rfl) (by kernel_rfl) (by kernel_rfl) (fun _ _ _ h => h) (Or.inl ⟨by rfl, ?bhy6⟩) (by assumption) ?brest6
      case bhy6 =>
        intro w hSw
        (try dsimp only at hSw)
        go_simp
        try with_reducible rfl
      try simp only [Act.put, List.setIfInBounds_toArray, List.set_cons_zero, List.set_cons_succ]
      refine wpAnyH_take (i := 7) (oi := { dst := some 76, op := Go.Op.move (Go.Operand.tmp 9), type := 27, pos := "outright.go:70", after := #[{ on := 6, ground := Go.Ground.guard }], guard := some (6, false) }) (v := undef) rfl (by kernel_rfl) (by kernel_rfl) (by kernel_rfl) (fun _ _ _ h => h) (Or.inr ⟨by rfl, rfl⟩) (by assumption) ?_
      try simp only [Act.put, List.setIfInBounds_toArray, List.set_cons_zero, List.set_cons_succ]
      refine wpAnyH_take (i := 8) (oi := { dst := some 77, op := Go.Op.move (Go.Operand.tmp 11), type := 27, pos := "outright.go:70", after := #[{ on := 6, ground := Go.Ground.guard }], guard := some (6, false) }) (v := undef) rfl (by kernel_rfl) (by kernel_rfl) (by kernel_rfl) (fun _ _ _ h => h) (Or.inr ⟨by rfl, rfl⟩) (by assumption) ?_
      try simp only [Act.put, List.setIfInBounds_toArray, List.set_cons_zero, List.set_cons_succ]
      refine wpAnyH_take (i := 9) (oi := { dst := some 78, op := Go.Op.call { callee := Go.Callee.value (Go.Operand.func 14), args := #[Go.Operand.tmp 76, Go.Operand.tmp 77], argTypes := #[27, 27] }, type := 4, pos := "outright.go:70", after := #[{ on := 7, ground := Go.Ground.data }, { on := 8, ground := Go.Ground.data }, { on := 6, ground := Go.Ground.chain }, { on := 6, ground := Go.Ground.guard }], guard := some (6, false) }) (v := undef) rfl (by kernel_rfl) (by kernel_rfl) (by kernel_rfl) (fun _ _ _ h => h) (Or.inr ⟨by rfl, rfl⟩) (by assumption) ?_
      try simp only [Act.put, List.setIfInBounds_toArray, List.set_cons_zero, List.set_cons_succ]
      refine wpAnyH_take (i := 10) (oi := { dst := some 79, op := Go.Op.load 29 (Go.Operand.tmp 6), type := 29, pos := "outright.go:70", after := #[{ on := 6, ground := Go.Ground.guard }], guard := some (6, false) }) (v := undef) rfl (by kernel_rfl) (by kernel_rfl) (by kernel_rfl) (fun _ _ _ h => h) (Or.inr ⟨by rfl, rfl⟩) (by assumption) ?_
      try simp only [Act.put, List.setIfInBounds_toArray, List.set_cons_zero, List.set_cons_succ]
      refine wpAnyH_take (i := 11) (oi := { dst := some 80, op := Go.Op.load 29 (Go.Operand.tmp 7), type := 29, pos := "outright.go:70", after := #[{ on := 6, ground := Go.Ground.guard }], guard := some (6, false) }) (v := undef) rfl (by kernel_rfl) (by kernel_rfl) (by kernel_rfl) (fun _ _ _ h => h) (Or.inr ⟨by rfl, rfl⟩) (by assumption) ?_
      try simp only [Act.put, List.setIfInBounds_toArray, List.set_cons_zero, List.set_cons_succ]
      refine wpAnyH_take (i := 12) (oi := { dst := some 81, op := Go.Op.call { callee := Go.Callee.value (Go.Operand.func 17), args := #[Go.Operand.tmp 79, Go.Operand.tmp 80], argTypes := #[29, 29] }, type := 4, pos := "outright.go:70", after := #[{ on := 10, ground := Go.Ground.data }, { on := 11, ground := Go.Ground.data }, { on := 9, ground := Go.Ground.chain }, { on := 6, ground := Go.Ground.guard }], guard := some (6, false) }) (v := undef) rfl (by kernel_rfl) (by kernel_rfl) (by kernel_rfl) (fun _ _ _ h => h) (Or.inr ⟨by rfl, rfl⟩) (by assumption) ?_
      try simp only [Act.put, List.setIfInBounds_toArray, List.set_cons_zero, List.set_cons_succ]
      refine wpAnyH_take (i := 13) (oi := { dst := some 82, op := Go.Op.binOp Go.BinOp.eql 4 (Go.Operand.tmp 78) (Go.Operand.tmp 81) 4, type := 4, pos := "outright.go:70", after := #[{ on := 9, ground := Go.Ground.data }, { on := 12, ground := Go.Ground.data }, { on := 6, ground := Go.Ground.guard }], guard := some (6, false) }) (v := undef) rfl (by kernel_rfl) (by kernel_rfl) (by kernel_rfl) (fun _ _ _ h => h) (Or.inr ⟨by rfl, rfl⟩) (by assumption) ?_
      try simp only [Act.put, List.setIfInBounds_toArray, List.set_cons_zero, List.set_cons_succ]
      refine wpAnyH_take (i := 14) (oi := { dst := some 83, op := Go.Op.pick (Go.Operand.tmp 75) (Go.Operand.const (Go.Value.bool true)) (Go.Operand.tmp 82), type := 4, pos := "outright.go:70", after := #[{ on := 6, ground := Go.Ground.data }, { on := 13, ground := Go.Ground.data }], guard := none }) (v := ?bv14) rfl (by kernel_rfl) (by kernel_rfl) (by kernel_rfl) (fun _ _ _ h => h) (Or.inl ⟨by rfl, ?bhy14⟩) (by assumption) ?brest14
      case bhy14 =>
        intro w hSw
        (try dsimp only at hSw)
        go_simp
        try with_reducible rfl
      try simp only [Act.put, List.setIfInBounds_toArray, List.set_cons_zero, List.set_cons_succ]
      refine wpAnyH_take (i := 15) (oi := { dst := some 84, op := Go.Op.move (Go.Operand.tmp 83), type := 4, pos := "outright.go:70", after := #[{ on := 14, ground := Go.Ground.data }, { on := 12, ground := Go.Ground.chain }], guard := none }) (v := ?bv15) rfl (by kernel_rfl) (by kernel_rfl) (by kernel_rfl) (fun _ _ _ h => h) (Or.inl ⟨by rfl, ?bhy15⟩) (by assumption) ?brest15
      case bhy15 =>
        intro w hSw
        (try dsimp only at hSw)
        go_simp
        try with_reducible rfl
      try simp only [Act.put, List.setIfInBounds_toArray, List.set_cons_zero, List.set_cons_succ]
      refine wpAnyH_ready (rs := [16]) (by kernel_rfl) (by simp) ?_
      refine AllReadyH.cons (o := { dst := some 85, op := Go.Op.call { callee := Go.Callee.value (Go.Operand.func 12), args := #[], argTypes := #[] }, type := 4, pos := "outright.go:70", after := #[{ on := 15, ground := Go.Ground.chain }, { on := 15, ground := Go.Ground.guard }], guard := some (15, true) }) rfl (fun K hK => ?_) AllReadyH.nil
      go_simp
      go_at_call 12
      refine (awake03_any _).mono ?_
      rintro e w9 ⟨rfl, hb9⟩
      have hb8 : Below x5.heap.size x5 w9 := of_drew hb9
      first
        | (refine hK.out _ _ trivial (fun hHeld2 => ?_))
        | (go_wp2_with fail
           refine hK.out _ _ trivial (fun hHeld2 => ?_))
      clear hK K
      try simp only [Act.put, List.setIfInBounds_toArray, List.set_cons_zero, List.set_cons_succ]
      refine wpAnyH_take (i := 17) (oi := { dst := some 86, op := Go.Op.pick (Go.Operand.tmp 84) (Go.Operand.tmp 85) (Go.Operand.const (Go.Value.bool false)), type := 4, pos := "outright.go:70", after := #[{ on := 15, ground := Go.Ground.data }, { on := 16, ground := Go.Ground.data }], guard := none }) (v := ?bv17) rfl (by kernel_rfl) (by kernel_rfl) (by kernel_rfl) (fun _ _ _ h => h) (Or.inl ⟨by rfl, ?bhy17⟩) (by assumption) ?brest17
      case bhy17 =>
        intro w hSw
        (try dsimp only at hSw)
        go_simp
        try with_reducible rfl
      try simp only [Act.put, List.setIfInBounds_toArray, List.set_cons_zero, List.set_cons_succ]
      refine wpAnyH_take (i := 18) (oi := { dst := some 8, op := Go.Op.assign (Go.Operand.tmp 86), type := 4, pos := "outright.go:70", after := #[{ on := 17, ground := Go.Ground.data }, { on := 16, ground := Go.Ground.chain }, { on := 0, ground := Go.Ground.phase }, { on := 1, ground := Go.Ground.phase }, { on := 2, ground := Go.Ground.phase }, { on := 3, ground := Go.Ground.phase }, { on := 4, ground := Go.Ground.phase }, { on := 5, ground := Go.Ground.phase }, { on := 6, ground := Go.Ground.phase }, { on := 7, ground := Go.Ground.phase }, { on := 8, ground := Go.Ground.phase }, { on := 9, ground := Go.Ground.phase }, { on := 10, ground := Go.Ground.phase }, { on := 11, ground := Go.Ground.phase }, { on := 12, ground := Go.Ground.phase }, { on := 13, ground := Go.Ground.phase }, { on := 14, ground := Go.Ground.phase }, { on := 15, ground := Go.Ground.phase }, { on := 16, ground := Go.Ground.phase }, { on := 17, ground := Go.Ground.phase }], guard := none }) (v := ?bv18) rfl (by kernel_rfl) (by kernel_rfl) (by kernel_rfl) (fun _ _ _ h => h) (Or.inl ⟨by rfl, ?bhy18⟩) (by assumption) ?brest18
      case bhy18 =>
        intro w hSw
        (try dsimp only at hSw)
        go_simp
        try with_reducible rfl
      try simp only [Act.put, List.setIfInBounds_toArray, List.set_cons_zero, List.set_cons_succ]
      refine wpAnyH_done (by kernel_rfl) ?_ _
      clear hHeld hHeld2
      go_wp2_with fail
      go_ret
      exact ⟨rfl, nxt hbx hb8⟩
  · clear HP HP2
    refine wp_region_held_drew (S := fun _ => True) (by kernel_rfl) trivial (fun hHeld => ?_)
    refine wpAnyH_take (i := 0) (oi := { dst := some 69, op := Go.Op.move (Go.Operand.tmp 10), type := 32, pos := "outright.go:70", after := #[], guard := none }) (v := ?av0) rfl (by kernel_rfl) (by kernel_rfl) (by kernel_rfl) (fun _ _ _ h => h) (Or.inl ⟨by rfl, ?ahy0⟩) (by assumption) ?arest0
    case ahy0 =>
      intro w hSw
      (try dsimp only at hSw)
      go_simp
      try with_reducible rfl
    try simp only [Act.put, List.setIfInBounds_toArray, List.set_cons_zero, List.set_cons_succ]
    refine wpAnyH_take (i := 1) (oi := { dst := some 70, op := Go.Op.binOp Go.BinOp.neq 32 (Go.Operand.tmp 69) (Go.Operand.const (Go.Value.int Go.IntKind.i64 0)) 32, type := 4, pos := "outright.go:70", after := #[{ on := 0, ground := Go.Ground.data }], guard := none }) (v := ?av1) rfl (by kernel_rfl) (by kernel_rfl) (by kernel_rfl) (fun _ _ _ h => h) (Or.inl ⟨by rfl, ?ahy1⟩) (by assumption) ?arest1
    case ahy1 =>
      intro w hSw
      (try dsimp only at hSw)
      go_simp
      try with_reducible rfl
    try simp only [Act.put, List.setIfInBounds_toArray, List.set_cons_zero, List.set_cons_succ]
    refine wpAnyH_take (i := 2) (oi := { dst := some 71, op := Go.Op.move (Go.Operand.tmp 70), type := 4, pos := "outright.go:70", after := #[{ on := 1, ground := Go.Ground.data }], guard := none }) (v := ?av2) rfl (by kernel_rfl) (by kernel_rfl) (by kernel_rfl) (fun _ _ _ h => h) (Or.inl ⟨by rfl, ?ahy2⟩) (by assumption) ?arest2
    case ahy2 =>
      intro w hSw
      (try dsimp only at hSw)
      go_simp
      try with_reducible rfl
    try simp only [Act.put, List.setIfInBounds_toArray, List.set_cons_zero, List.set_cons_succ]
    refine wpAnyH_take (i := 3) (oi := { dst := some 72, op := Go.Op.move (Go.Operand.tmp 12), type := 32, pos := "outright.go:70", after := #[{ on := 2, ground := Go.Ground.guard }], guard := some (2, false) }) (v := undef) rfl (by kernel_rfl) (by kernel_rfl) (by kernel_rfl) (fun _ _ _ h => h) (Or.inr ⟨by rfl, rfl⟩) (by assumption) ?_
    try simp only [Act.put, List.setIfInBounds_toArray, List.set_cons_zero, List.set_cons_succ]
    refine wpAnyH_take (i := 4) (oi := { dst := some 73, op := Go.Op.binOp Go.BinOp.neq 32 (Go.Operand.tmp 72) (Go.Operand.const (Go.Value.int Go.IntKind.i64 0)) 32, type := 4, pos := "outright.go:70", after := #[{ on := 3, ground := Go.Ground.data }, { on := 2, ground := Go.Ground.guard }], guard := some (2, false) }) (v := undef) rfl (by kernel_rfl) (by kernel_rfl) (by kernel_rfl) (fun _ _ _ h => h) (Or.inr ⟨by rfl, rfl⟩) (by assumption) ?_
    try simp only [Act.put, List.setIfInBounds_toArray, List.set_cons_zero, List.set_cons_succ]
    refine wpAnyH_take (i := 5) (oi := { dst := some 74, op := Go.Op.pick (Go.Operand.tmp 71) (Go.Operand.const (Go.Value.bool true)) (Go.Operand.tmp 73), type := 4, pos := "outright.go:70", after := #[{ on := 2, ground := Go.Ground.data }, { on := 4, ground := Go.Ground.data }], guard := none }) (v := ?av5) rfl (by kernel_rfl) (by kernel_rfl) (by kernel_rfl) (fun _ _ _ h => h) (Or.inl ⟨by rfl, ?ahy5⟩) (by assumption) ?arest5
    case ahy5 =>
      intro w hSw
      (try dsimp only at hSw)
      go_simp
      try with_reducible rfl
    try simp only [Act.put, List.setIfInBounds_toArray, List.set_cons_zero, List.set_cons_succ]
    refine wpAnyH_take (i := 6) (oi := { dst := some 75, op := Go.Op.move (Go.Operand.tmp 74), type := 4, pos := "outright.go:70", after := #[{ on := 5, ground := Go.Ground.data }, { on := 2, ground := Go.Ground.chain }], guard := none }) (v := ?av6) rfl (by kernel_rfl) (by kernel_rfl) (by kernel_rfl) (fun _ _ _ h => h) (Or.inl ⟨by rfl, ?ahy6⟩) (by assumption) ?arest6
    case ahy6 =>
      intro w hSw
      (try dsimp only at hSw)
      go_simp
      try with_reducible rfl
    try simp only [Act.put, List.setIfInBounds_toArray, List.set_cons_zero, List.set_cons_succ]
    refine wpAnyH_take (i := 7) (oi := { dst := some 76, op := Go.Op.move (Go.Operand.tmp 9), type := 27, pos := "outright.go:70", after := #[{ on := 6, ground := Go.Ground.guard }], guard := some (6, false) }) (v := undef) rfl (by kernel_rfl) (by kernel_rfl) (by kernel_rfl) (fun _ _ _ h => h) (Or.inr ⟨by rfl, rfl⟩) (by assumption) ?_
    try simp only [Act.put, List.setIfInBounds_toArray, List.set_cons_zero, List.set_cons_succ]
    refine wpAnyH_take (i := 8) (oi := { dst := some 77, op := Go.Op.move (Go.Operand.tmp 11), type := 27, pos := "outright.go:70", after := #[{ on := 6, ground := Go.Ground.guard }], guard := some (6, false) }) (v := undef) rfl (by kernel_rfl) (by kernel_rfl) (by kernel_rfl) (fun _ _ _ h => h) (Or.inr ⟨by rfl, rfl⟩) (by assumption) ?_
    try simp only [Act.put, List.setIfInBounds_toArray, List.set_cons_zero, List.set_cons_succ]
    refine wpAnyH_take (i := 9) (oi := { dst := some 78, op := Go.Op.call { callee := Go.Callee.value (Go.Operand.func 14), args := #[Go.Operand.tmp 76, Go.Operand.tmp 77], argTypes := #[27, 27] }, type := 4, pos := "outright.go:70", after := #[{ on := 7, ground := Go.Ground.data }, { on := 8, ground := Go.Ground.data }, { on := 6, ground := Go.Ground.chain }, { on := 6, ground := Go.Ground.guard }], guard := some (6, false) }) (v := undef) rfl (by kernel_rfl) (by kernel_rfl) (by kernel_rfl) (fun _ _ _ h => h) (Or.inr ⟨by rfl, rfl⟩) (by assumption) ?_
    try simp only [Act.put, List.setIfInBounds_toArray, List.set_cons_zero, List.set_cons_succ]
    refine wpAnyH_take (i := 10) (oi := { dst := some 79, op := Go.Op.load 29 (Go.Operand.tmp 6), type := 29, pos := "outright.go:70", after := #[{ on := 6, ground := Go.Ground.guard }], guard := some (6, false) }) (v := undef) rfl (by kernel_rfl) (by kernel_rfl) (by kernel_rfl) (fun _ _ _ h => h) (Or.inr ⟨by rfl, rfl⟩) (by assumption) ?_
    try simp only [Act.put, List.setIfInBounds_toArray, List.set_cons_zero, List.set_cons_succ]
    refine wpAnyH_take (i := 11) (oi := { dst := some 80, op := Go.Op.load 29 (Go.Operand.tmp 7), type := 29, pos := "outright.go:70", after := #[{ on := 6, ground := Go.Ground.guard }], guard := some (6, false) }) (v := undef) rfl (by kernel_rfl) (by kernel_rfl) (by kernel_rfl) (fun _ _ _ h => h) (Or.inr ⟨by rfl, rfl⟩) (by assumption) ?_
    try simp only [Act.put, List.setIfInBounds_toArray, List.set_cons_zero, List.set_cons_succ]
    refine wpAnyH_take (i := 12) (oi := { dst := some 81, op := Go.Op.call { callee := Go.Callee.value (Go.Operand.func 17), args := #[Go.Operand.tmp 79, Go.Operand.tmp 80], argTypes := #[29, 29] }, type := 4, pos := "outright.go:70", after := #[{ on := 10, ground := Go.Ground.data }, { on := 11, ground := Go.Ground.data }, { on := 9, ground := Go.Ground.chain }, { on := 6, ground := Go.Ground.guard }], guard := some (6, false) }) (v := undef) rfl (by kernel_rfl) (by kernel_rfl) (by kernel_rfl) (fun _ _ _ h => h) (Or.inr ⟨by rfl, rfl⟩) (by assumption) ?_
    try simp only [Act.put, List.setIfInBounds_toArray, List.set_cons_zero, List.set_cons_succ]
    refine wpAnyH_take (i := 13) (oi := { dst := some 82, op := Go.Op.binOp Go.BinOp.eql 4 (Go.Operand.tmp 78) (Go.Operand.tmp 81) 4, type := 4, pos := "outright.go:70", after := #[{ on := 9, ground := Go.Ground.data }, { on := 12, ground := Go.Ground.data }, { on := 6, ground := Go.Ground.guard }], guard := some (6, false) }) (v := undef) rfl (by kernel_rfl) (by kernel_rfl) (by kernel_rfl) (fun _ _ _ h => h) (Or.inr ⟨by rfl, rfl⟩) (by assumption) ?_
    try simp only [Act.put, List.setIfInBounds_toArray, List.set_cons_zero, List.set_cons_succ]
    refine wpAnyH_take (i := 14) (oi := { dst := some 83, op := Go.Op.pick (Go.Operand.tmp 75) (Go.Operand.const (Go.Value.bool true)) (Go.Operand.tmp 82), type := 4, pos := "outright.go:70", after := #[{ on := 6, ground := Go.Ground.data }, { on := 13, ground := Go.Ground.data }], guard := none }) (v := ?av14) rfl (by kernel_rfl) (by kernel_rfl) (by kernel_rfl) (fun _ _ _ h => h) (Or.inl ⟨by rfl, ?ahy14⟩) (by assumption) ?arest14
    case ahy14 =>
      intro w hSw
      (try dsimp only at hSw)
      go_simp
      try with_reducible rfl
    try simp only [Act.put, List.setIfInBounds_toArray, List.set_cons_zero, List.set_cons_succ]
    refine wpAnyH_take (i := 15) (oi := { dst := some 84, op := Go.Op.move (Go.Operand.tmp 83), type := 4, pos := "outright.go:70", after := #[{ on := 14, ground := Go.Ground.data }, { on := 12, ground := Go.Ground.chain }], guard := none }) (v := ?av15) rfl (by kernel_rfl) (by kernel_rfl) (by kernel_rfl) (fun _ _ _ h => h) (Or.inl ⟨by rfl, ?ahy15⟩) (by assumption) ?arest15
    case ahy15 =>
      intro w hSw
      (try dsimp only at hSw)
      go_simp
      try with_reducible rfl
    try simp only [Act.put, List.setIfInBounds_toArray, List.set_cons_zero, List.set_cons_succ]
    refine wpAnyH_ready (rs := [16]) (by kernel_rfl) (by simp) ?_
    refine AllReadyH.cons (o := { dst := some 85, op := Go.Op.call { callee := Go.Callee.value (Go.Operand.func 12), args := #[], argTypes := #[] }, type := 4, pos := "outright.go:70", after := #[{ on := 15, ground := Go.Ground.chain }, { on := 15, ground := Go.Ground.guard }], guard := some (15, true) }) rfl (fun K hK => ?_) AllReadyH.nil
    go_simp
    go_at_call 12
    refine (awake03_any _).mono ?_
    rintro e w9 ⟨rfl, hb9⟩
    have hb8 : Below x5.heap.size x5 w9 := of_drew hb9
    first
      | (refine hK.out _ _ trivial (fun hHeld2 => ?_))
      | (go_wp2_with fail
         refine hK.out _ _ trivial (fun hHeld2 => ?_))
    clear hK K
    try simp only [Act.put, List.setIfInBounds_toArray, List.set_cons_zero, List.set_cons_succ]
    refine wpAnyH_take (i := 17) (oi := { dst := some 86, op := Go.Op.pick (Go.Operand.tmp 84) (Go.Operand.tmp 85) (Go.Operand.const (Go.Value.bool false)), type := 4, pos := "outright.go:70", after := #[{ on := 15, ground := Go.Ground.data }, { on := 16, ground := Go.Ground.data }], guard := none }) (v := ?av17) rfl (by kernel_rfl) (by kernel_rfl) (by kernel_rfl) (fun _ _ _ h => h) (Or.inl ⟨by rfl, ?ahy17⟩) (by assumption) ?arest17
    case ahy17 =>
      intro w hSw
      (try dsimp only at hSw)
      go_simp
      try with_reducible rfl
    try simp only [Act.put, List.setIfInBounds_toArray, List.set_cons_zero, List.set_cons_succ]
    refine wpAnyH_take (i := 18) (oi := { dst := some 8, op := Go.Op.assign (Go.Operand.tmp 86), type := 4, pos := "outright.go:70", after := #[{ on := 17, ground := Go.Ground.data }, { on := 16, ground := Go.Ground.chain }, { on := 0, ground := Go.Ground.phase }, { on := 1, ground := Go.Ground.phase }, { on := 2, ground := Go.Ground.phase }, { on := 3, ground := Go.Ground.phase }, { on := 4, ground := Go.Ground.phase }, { on := 5, ground := Go.Ground.phase }, { on := 6, ground := Go.Ground.phase }, { on := 7, ground := Go.Ground.phase }, { on := 8, ground := Go.Ground.phase }, { on := 9, ground := Go.Ground.phase }, { on := 10, ground := Go.Ground.phase }, { on := 11, ground := Go.Ground.phase }, { on := 12, ground := Go.Ground.phase }, { on := 13, ground := Go.Ground.phase }, { on := 14, ground := Go.Ground.phase }, { on := 15, ground := Go.Ground.phase }, { on := 16, ground := Go.Ground.phase }, { on := 17, ground := Go.Ground.phase }], guard := none }) (v := ?av18) rfl (by kernel_rfl) (by kernel_rfl) (by kernel_rfl) (fun _ _ _ h => h) (Or.inl ⟨by rfl, ?ahy18⟩) (by assumption) ?arest18
    case ahy18 =>
      intro w hSw
      (try dsimp only at hSw)
      go_simp
      try with_reducible rfl
    try simp only [Act.put, List.setIfInBounds_toArray, List.set_cons_zero, List.set_cons_succ]
    refine wpAnyH_done (by kernel_rfl) ?_ _
    clear hHeld hHeld2
    go_wp2_with fail
    go_ret
    exact ⟨rfl, nxt hbx hb8⟩

set_option maxRecDepth 100000 in
theorem lifted (os : Os) (started : os.Started) (H : Type) (enc : TypeId × Value → H) :
    ReturnsInHanded {} Try.checked os 3 .any (Rows.frameApartSpec.pre6 enc Try.prog Try.f3 Rows.frameApartRow.domain false) (Rows.frameApartSpec.post enc Try.prog Try.f3 false true false false) := by
  refine returnsInHanded_of_change (C := Try.checked) knob_own started (by kernel_rfl) Try.func3
    (ChangeSpec.witness6 (enc := enc) (C := Try.checked) false ⟨#[], #[.agg #[.int .u8 0, .slice none 0 0, .slice none 0 0, .slice none 0 0], .agg #[.int .u8 0, .slice none 0 0, .slice none 0 0, .slice none 0 0], .agg #[.int .i64 0, .int .i64 0, .int .i64 0, .int .i64 0, .slice none 0 0], .agg #[.int .i64 0, .int .i64 0, .int .i64 0, .int .i64 0, .slice none 0 0]], []⟩ 8 (by kernel_rfl) (by kernel_rfl) (by kernel_rfl) (by kernel_rfl)) ?_
  intro W base args ds gs before hval0 hW hcnd _
  have hval : ∀ (j : Nat) t v, Try.f3.params[j]? = some t → args[j]? = some v → Value.okWide Try.prog W .any base t v := hval0
  have hW' := hW
  obtain ⟨p, q, hA0, hV, rfl, hfz, hnd⟩ := hW
  have hA : DataW.TrodAll enc Try.prog W 0 (fun _ => true) true Try.f3.params.toList args.toList ds p := hA0
  rw [Try.params3] at hA hval
  obtain ⟨v0, vs0, d0, ds0, p0, q0, hargs, rfl, rfl, h0, r0⟩ := trodAll_cons hA
  obtain ⟨v1, vs1, d1, ds1, p1, q1, rfl, rfl, rfl, h1, r1⟩ := trodAll_cons r0
  obtain ⟨v2, vs2, d2, ds2, p2, q2, rfl, rfl, rfl, h2, r2⟩ := trodAll_cons r1
  obtain ⟨v3, vs3, d3, ds3, p3, q3, rfl, rfl, rfl, h3, r3⟩ := trodAll_cons r2
  obtain ⟨rfl, rfl, rfl⟩ := trodAll_nil r3
  obtain rfl : args = #[v0, v1, v2, v3] := by cases args; simp_all
  obtain ⟨rfl, rfl⟩ := trodVars_none hV
  have k0 := h0
  have lt0 : ∀ x ∈ p0, x.block < W.heap.size := by obtain ⟨m, hm⟩ := k0; exact DataW.trod_lt m _ _ _ hm
  have w0 := msg_open (hval 0 26 v0 rfl rfl) h0
  have k1 := h1
  have lt1 : ∀ x ∈ p1, x.block < W.heap.size := by obtain ⟨m, hm⟩ := k1; exact DataW.trod_lt m _ _ _ hm
  have w1 := msg_open (hval 1 26 v1 rfl rfl) h1
  have k2 := h2
  have lt2 : ∀ x ∈ p2, x.block < W.heap.size := by obtain ⟨m, hm⟩ := k2; exact DataW.trod_lt m _ _ _ hm
  have w2 := pk_open (hval 2 29 v2 rfl rfl) h2
  have k3 := h3
  have lt3 : ∀ x ∈ p3, x.block < W.heap.size := by obtain ⟨m, hm⟩ := k3; exact DataW.trod_lt m _ _ _ hm
  have w3 := pk_open (hval 3 29 v3 rfl rfl) h3
  clear hA0 hval0
  refine (walk W v0 v1 v2 v3 w0 w1 w2 w3).mono fun e W' ⟨he, bel⟩ => ?_
  subst he
  exact ⟨_, rfl, _, _, _, [], _, [], hW', trodAll_mk1 (shut_bool Try.underlying4 _), (trodAll_cons_mk (Below.trod laid_out (by kernel_rfl) (of_decide_eq_true (by kernel_rfl)) k0 bel lt0) (trodAll_cons_mk (Below.trod laid_out (by kernel_rfl) (of_decide_eq_true (by kernel_rfl)) k1 bel lt1) (trodAll_cons_mk (Below.trod laid_out (by kernel_rfl) (of_decide_eq_true (by kernel_rfl)) k2 bel lt2) (trodAll_cons_mk (Below.trod laid_out (by kernel_rfl) (of_decide_eq_true (by kernel_rfl)) k3 bel lt3) (trodAll_mk0))))), rfl, bel.frame _, fun h => by cases h⟩

theorem over : Rows.frameApartRow.holds Try.pinned (OpenSpec.ofChange Rows.frameApartSpec) :=
  OpenClaim.holds_of_wide 3 Try.f3 rfl rfl rfl rfl rfl rfl rfl ⟨rfl, rfl, rfl, rfl, rfl⟩ rfl rfl rfl rfl rfl (by kernel_rfl) Try.func3 (by kernel_rfl)
    (of_decide_eq_true (by kernel_rfl)) (by unfold Func.isWrapper; first | (rw [if_pos (by decide +kernel)]; kernel_rfl) | (rw [if_neg (by decide +kernel)]; exact ⟨rfl, rfl⟩))
    (fun os started H enc _ => lifted os started H enc)

theorem proved : Rows.FrameApartSaid := over
end Go.Proofs.Ytjcefnlidophoaa.frameApart
