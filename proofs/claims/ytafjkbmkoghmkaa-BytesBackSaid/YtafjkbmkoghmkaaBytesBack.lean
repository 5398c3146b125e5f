/- droverlaw01.BytesBack returns true whatever its arguments: what is put is got, what is got of any bytes is the same bytes put again, and a sealed byte that is another one is refused. For every input, without conditions. -/
import Derived.Test.YtafjkbmkoghmkaaRow
import Derived.Test.YtafjkbmkoghmkaaAwake
import Derived.Test.YtafjkbmkoghmkaaOwn2
import Derived.Deep.RegionHeld3
import Derived.Deep.DeepCutAuto
import Derived.BigQuiet
namespace Go.Proofs.Ytafjkbmkoghmkaa.bytesBack
open Go.ChangeShapes Go.WideShapes Go.ChangeAt Go.RowKit
set_option linter.unusedVariables false

theorem back_int (m : Int) (l : List Nat) (n : Nat) (h0 : -9223372036854775808 ≤ m) (h1 : m ≤ 9223372036854775807) :
    gu (varint (zz m) ++ varint l.length ++ l ++ varint n) 0 = (zz m, (varint (zz m)).length, 0) := by
  have := gu_at [] (zz m) (varint l.length ++ l ++ varint n) (zz_lt m h0 h1) 0 rfl
  simpa using this
theorem back_blob (m : Int) (l : List Nat) (n : Nat) (hl : l.length ≤ 500) :
    gb (varint (zz m) ++ varint l.length ++ l ++ varint n) (varint (zz m)).length l.length = (l, (varint (zz m)).length + (varint l.length).length + l.length, 0) :=
  gb_at (varint (zz m)) l (varint n) l.length (Int.le_refl _) (by omega) _ rfl
theorem back_uint (m : Int) (l : List Nat) (n : Nat) (hn : n < 18446744073709551616) :
    gu (varint (zz m) ++ varint l.length ++ l ++ varint n) ((varint (zz m)).length + (varint l.length).length + l.length) = (n, (varint (zz m) ++ varint l.length ++ l ++ varint n).length, 0) := by
  have := gu_at (varint (zz m) ++ varint l.length ++ l) n [] hn ((varint (zz m)).length + (varint l.length).length + l.length) (by simp; omega)
  rw [List.append_nil] at this
  rw [this]
  simp
  omega

set_option maxRecDepth 100000 in
set_option maxHeartbeats 800000 in
theorem walk (w : World) (a0 : Int) (a1 : Int) (a2 : Option Addr) (n2 c2 : Nat) (a3 : Int) (a4 : Int) (w0 : (Lit.int .u64 a0).wf = true) (w1 : (Lit.int .i64 a1).wf = true) (w2 : ∃ l : List Nat, l.length = n2 ∧ n2 ≤ c2 ∧ At w w.heap.size a2 (bv l) ∧ (∀ x ∈ l, x < 256)) (w3 : (Lit.int .i64 a3).wf = true) (w4 : (Lit.int .u8 a4).wf = true) :
    Calls Try.prog 4 #[.int .u64 a0, .int .i64 a1, .slice a2 n2 c2, .int .i64 a3, .int .u8 a4] w fun e w' => e = .returned (.bool true) ∧ Below w.heap.size w w' := by
  obtain ⟨n, rfl, hn⟩ := wf_u64 w0
  obtain ⟨hm0, hm1⟩ := wf_i64 w1
  obtain ⟨l, hl, hc, hat, h8⟩ := w2
  obtain ⟨tn, rfl, ht⟩ := wf_u8 w4
  clear w0 w1 w4
  by_cases hbig : 500 < n2
  · go_enter Try.func4, Try.ntmps4
    go_wp2_with fail
    refine (awake_any _).mono ?_
    rintro e w5 ⟨rfl, hb5⟩
    go_wp2
    go_ret
    exact ⟨rfl, hb5⟩
  · have hbl := Bs.of_at hat hl hc h8
    have hbig' : n2 ≤ 500 := by omega
    subst hl
    have Hint := Lib.hid (back_int a1 l n hm0 hm1)
    have Hblob := Lib.hid (back_blob a1 l n hbig')
    have Huint := Lib.hid (back_uint a1 l n hn)
    have hL1 := varint_length (zz a1)
    have hL2 := varint_length l.length
    have hL3 := varint_length n
    go_enter Try.func4, Try.ntmps4
    go_wp2_with fail
    refine (int_bs _ [] a1 _ (Bs.nil _) (by simp) hm0 hm1).mono ?_
    rintro e w1 ⟨v1, rfl, _, hv1, hb1⟩
    rw [List.nil_append] at hv1
    have hbl1 := hbl.below hb1
    go_wp2_with fail
    refine (blob_bs _ _ _ _ _ hv1 hbl1 (by omega) (by omega)).mono ?_
    rintro e w2 ⟨v2, rfl, _, hv2, hb2⟩
    have hbl2 := hbl1.below hb2
    go_wp2_with fail
    refine (uint_bs _ _ n _ hv2 (by simp; omega) hn).mono ?_
    rintro e w3 ⟨v3, rfl, _, hv3, hb3⟩
    have hbl3 := hbl2.below hb3
    have hbw3 := nxt (nxt hb1 hb2) hb3
    have hlen3 : (varint (zz a1) ++ varint l.length ++ l ++ varint n).length ≤ 1099511627776 := by simp; omega
    clear hv1 hv2 hbl1 hbl2 hb1 hb2 hb3
    go_wp2_with fail
    refine (getint_bs _ _ 0 _ hv3 hlen3 (by omega)).mono ?_
    rintro e w4 ⟨rfl, rfl⟩
    rw [Hint.out]
    dsimp only
    rw [un_zz]
    go_wp2_with fail
    refine (getblob_bs _ _ (varint (zz a1)).length l.length _ hv3 hlen3 (by simp) (by omega) (by omega)).mono ?_
    rintro e w4 ⟨v4, rfl, _, hv4, hb4⟩
    rw [Hblob.out] at hv4 ⊢
    dsimp only at hv4 ⊢
    have hv3' := hv3.below hb4
    have hbl4 := hbl3.below hb4
    have hbw4 := nxt hbw3 hb4
    go_wp2_with fail
    refine (getuint_bs _ _ ((varint (zz a1)).length + (varint l.length).length + l.length) _ hv3' hlen3 (by simp; omega)).mono ?_
    rintro e w5 ⟨rfl, rfl⟩
    rw [Huint.out]
    dsimp only
    obtain ⟨⟨A3, c3, rfl, -, -⟩, -⟩ := id hv3
    generalize (varint (zz a1) ++ varint l.length ++ l ++ varint n).length = L at *
    go_wp2_with fail
    refine (same_bs _ _ l l true _ hv4 hbl4 (by simp)).mono ?_
    rintro e w5 ⟨rfl, rfl⟩
    go_wp2_with fail
    refine (getuint_bs _ l 0 _ hbl4 (by omega) (by omega)).mono ?_
    rintro e w5 ⟨rfl, rfl⟩
    obtain ⟨hx, he0, hk⟩ := gu_bounds l 0 (by omega)
    have hgain := gu_again l h8
    generalize gu l 0 = r at *
    obtain ⟨x, k, er⟩ := r
    dsimp only at *
    have Hgain := Lib.hid (hgain x k)
    clear hgain Hint Hblob Huint hv3 hv3' hv4 hL1 hL2 hL3
    go_upto_region 10 with (fail)
    go_cut [115] (fun b wx => b = .bool false ∧ Below w4.heap.size w4 wx)
    case first =>
      by_cases he : er = 0
      · have hz : ((er : Int) == 0) = true := by simp [he]
        obtain ⟨hk1, hk2, hkt, hx'⟩ := Hgain.out (by rw [he])
        clear hk he0 Hgain he
        have Hkt := Lib.hid hkt
        clear hkt
        have hg1 : decide ((k : Int) < 1) = false := by simp; omega
        have hg2 : decide ((l.length : Int) < (k : Int)) = false := by simp; omega
        have hg3 : decide (l.length < k) = false := by simp; omega
        have hg4 : (0 : Int) ≤ k := by omega
        have hg5 : (k : Int) ≤ c2 := by omega
        go_region_held3 (fun _ => True) (trivial)
          (first
            | (go_at_call 21
               refine (uint_bs _ [] x _ (Bs.nil _) (by simp) hx).mono ?_
               rintro e w5 ⟨v5, rfl, _, hv5, hb5⟩
               rw [List.nil_append] at hv5)
            | (go_at_call 12
               refine (same_bs _ _ (varint x) (l.take k) true _ hv5 ((Bs.below (w := w4.drew) hbl4.drew hb5).pre k hk2) (decide_eq_true Hkt.out.symm)).mono ?_
               rintro e w6 ⟨rfl, rfl⟩))
        all_goals (go_wp2_with fail; go_meet; exact ⟨rfl, of_drew hb5⟩)
      · have hz : ((er : Int) == 0) = false := by simp; omega
        obtain ⟨rfl, rfl⟩ := he0 he
        clear Hgain hk he0 he
        go_quiet (fail)
        all_goals (go_wp2_with fail; go_meet; exact ⟨rfl, below_drewN (Below.refl _ _) _⟩)
    case rest =>
      obtain ⟨rfl, hb5⟩ := hcut
      have hbw5 := nxt hbw4 hb5
      have hbl5 := hbl4.below hb5
      go_wp2_with fail
      refine (seal_bs _ l _ hbl5 (by omega)).mono ?_
      rintro e w6 ⟨v6, rfl, ho6, hv6, hb6⟩
      have hSl : (l ++ be4 (crcN l)).length = l.length + 4 := by simp [be4_length]
      obtain ⟨g, c6, rfl, hg, hgc⟩ := ho6.head (by intro h0; rw [h0] at hSl; simp at hSl)
      rw [hSl]
      rw [hSl] at hgc ho6 hv6
      have hbl6 := hbl5.below hb6
      have hbw6 := nxt hbw5 hb6
      go_wp2_with fail
      refine (unseal_bs _ _ _ hv6 (by omega)).mono ?_
      rintro e w7 ⟨v7, rfl, _, hv7, hb7⟩
      rw [us_seal] at hv7 ⊢
      dsimp only at hv7 ⊢
      have hbl7 := hbl6.below hb7
      have hbw7 := nxt hbw6 hb7
      go_wp2_with fail
      refine (same_bs _ _ l l true _ hv7 hbl7 (by simp)).mono ?_
      rintro e w8 ⟨rfl, rfl⟩
      by_cases ht0 : tn = 0
      · subst ht0
        go_wp2_with fail
        refine (awake_any _).mono ?_
        rintro e w8 ⟨rfl, hb8⟩
        go_wp2
        go_ret
        exact ⟨rfl, nxt hbw7 hb8⟩
      · have htz : ((tn : Int) == 0) = false := by simp; omega
        have htz' : ((tn : Int) != 0) = true := by simp; omega
        have ho7 := ho6.below hb7 (Nat.le_refl _)
        have hxne : ∀ y, y ^^^ tn ≠ y := fun y h => ht0 (by
          have h2 : y ^^^ (y ^^^ tn) = y ^^^ y := by rw [h]
          rw [← Nat.xor_assoc, Nat.xor_self, Nat.zero_xor] at h2
          exact h2)
        have hj0 := Int.emod_nonneg a3 (show (l.length : Int) + 4 ≠ 0 by omega)
        have hj1 := Int.emod_lt_of_pos a3 (show (0 : Int) < (l.length : Int) + 4 by omega)
        obtain ⟨j, hj⟩ : ∃ j : Nat, a3 % ((l.length : Int) + 4) = (j : Int) := ⟨(a3 % ((l.length : Int) + 4)).toNat, by omega⟩
        have hjl : j < l.length + 4 := by omega
        have HJ := Lib.hid hj
        clear hj hj0 hj1
        have ho7' : Own w7 wc.heap.size (.slice (some ⟨g, 0, none⟩) (l ++ be4 (crcN l)).length c6) (l ++ be4 (crcN l)) := by rw [hSl]; exact ho7
        have hcell := Own.cellAt ho7' j (by omega)
        have hfro := Own.frozenAt ho7' j rfl
        have hst := fun y : Nat => Own.stored ho7' j y
        have hx8 : (l ++ be4 (crcN l)).getD j 0 < 256 := by
          have := (Bs.parts hv6).2.2.2 ((l ++ be4 (crcN l))[j]'(by omega)) (List.getElem_mem _)
          simpa [hjl, hSl] using this
        have HT := Lib.hid (fun y hy hne => us_turned l h8 j y hjl hy hne)
        have hS8 := (Bs.parts hv6).2.2.2
        generalize hSx : (l ++ be4 (crcN l)).getD j 0 = xb at *
        generalize hS : l ++ be4 (crcN l) = S at *
        clear hSx hS hv6 hv7 ho7 ho6 hbl4 hbl5 hbl6 hbl7 hbl ht0
        go_wp2_with fail
        refine (pick_any a3 ((l.length : Int) + 4) _ (by omega) (by omega)).mono ?_
        rintro e w8 ⟨rfl, rfl⟩
        rw [HJ.out]
        have hj4 : (j : Int) < (l.length : Int) + 4 := by omega
        go_wp2_with fail
        rw [u8_xor_nat xb tn hx8 ht]
        obtain ⟨ho8, hgr⟩ := hst (xb ^^^ tn)
        have hx8' : xb ^^^ tn < 256 := Nat.xor_lt_two_pow (n := 8) hx8 ht
        have hv8 : Bs (w7.setCell ⟨g, j, none⟩ (.int .u8 ((xb ^^^ tn : Nat) : Int))) (.slice (some ⟨g, 0, none⟩) (l.length + 4) c6) (S.set j (xb ^^^ tn)) := by
          have := Bs.of_own ho8 (fun y hy => (List.mem_or_eq_of_mem_set hy).elim (hS8 y) (fun h => by omega))
          rw [hSl] at this
          exact this
        have hbw8 : Below w.heap.size w (w7.setCell ⟨g, j, none⟩ (.int .u8 ((xb ^^^ tn : Nat) : Int))) := hbw7.setCell (Nat.le_trans hbw5.size hg) _
        have HU := Lib.hid (HT.out (xb ^^^ tn) hx8' (hxne xb))
        refine (unseal_bs _ (S.set j (xb ^^^ tn)) _ hv8 (by simp; omega)).mono ?_
        rintro e w8 ⟨v8, rfl, _, _, hb8⟩
        rw [HU.out]
        dsimp only
        go_wp2_with fail
        refine (awake_any _).mono ?_
        rintro e w9 ⟨rfl, hb9⟩
        go_wp2
        go_ret
        exact ⟨rfl, nxt (nxt hbw8 hb8) hb9⟩

set_option maxRecDepth 100000 in
theorem lifted (os : Os) (started : os.Started) (H : Type) (enc : TypeId × Value → H) :
    ReturnsInHanded {} Try.checked os 4 .any (Rows.bytesBackSpec.pre6 enc Try.prog Try.f4 Rows.bytesBackRow.domain false) (Rows.bytesBackSpec.post enc Try.prog Try.f4 false true false false) := by
  refine returnsInHanded_of_change (C := Try.checked) knob_own started (by kernel_rfl) Try.func4
    (ChangeSpec.witness6 (enc := enc) (C := Try.checked) false ⟨#[], #[.int .u64 0, .int .i64 0, .slice none 0 0, .int .i64 0, .int .u8 0], []⟩ 8 (by kernel_rfl) (by kernel_rfl) (by kernel_rfl) (by kernel_rfl)) ?_
  intro W base args ds gs before hval0 hW hcnd _
  have hval : ∀ (j : Nat) t v, Try.f4.params[j]? = some t → args[j]? = some v → Value.okWide Try.prog W .any base t v := hval0
  have hW' := hW
  obtain ⟨p, q, hA0, hV, rfl, hfz, hnd⟩ := hW
  have hA : DataW.TrodAll enc Try.prog W 0 (fun _ => true) true Try.f4.params.toList args.toList ds p := hA0
  rw [Try.params4] at hA hval
  obtain ⟨v0, vs0, d0, ds0, p0, q0, hargs, rfl, rfl, h0, r0⟩ := trodAll_cons hA
  obtain ⟨v1, vs1, d1, ds1, p1, q1, rfl, rfl, rfl, h1, r1⟩ := trodAll_cons r0
  obtain ⟨v2, vs2, d2, ds2, p2, q2, rfl, rfl, rfl, h2, r2⟩ := trodAll_cons r1
  obtain ⟨v3, vs3, d3, ds3, p3, q3, rfl, rfl, rfl, h3, r3⟩ := trodAll_cons r2
  obtain ⟨v4, vs4, d4, ds4, p4, q4, rfl, rfl, rfl, h4, r4⟩ := trodAll_cons r3
  obtain ⟨rfl, rfl, rfl⟩ := trodAll_nil r4
  obtain rfl : args = #[v0, v1, v2, v3, v4] := by cases args; simp_all
  obtain ⟨rfl, rfl⟩ := trodVars_none hV
  have lt0 : ∀ x ∈ p0, x.block < W.heap.size := by obtain ⟨m, hm⟩ := h0; exact DataW.trod_lt m _ _ _ hm
  have k0 := h0
  obtain ⟨a0, rfl, _, _, w0⟩ := open_int Try.underlying29 (hval 0 29 v0 rfl rfl) h0
  have lt1 : ∀ x ∈ p1, x.block < W.heap.size := by obtain ⟨m, hm⟩ := h1; exact DataW.trod_lt m _ _ _ hm
  have k1 := h1
  obtain ⟨a1, rfl, _, _, w1⟩ := open_int Try.underlying2 (hval 1 2 v1 rfl rfl) h1
  obtain ⟨a2, n2, c2, rfl⟩ := okWide_slice Try.underlying23 (hval 2 23 v2 rfl rfl)
  have k2 := h2
  have lt2 : ∀ x ∈ p2, x.block < W.heap.size := by obtain ⟨m, hm⟩ := k2; exact DataW.trod_lt m _ _ _ hm
  have z2 : ∃ zs, Ints .u8 W a2 n2 c2 zs := by
    obtain ⟨fuel, hf⟩ := h2
    rcases open_ints Try.underlying23 Try.underlying5 (by kernel_rfl) hf with ⟨hcs, _⟩ | ⟨x, l, c, zs, hcs, _, hl, hm, hz, _, hcell, hwz⟩
    · simp [Value.cells] at hcs
      obtain ⟨rfl, rfl, rfl⟩ := hcs
      exact ⟨[], ints_nil _ _⟩
    · simp [Value.cells] at hcs
      obtain ⟨rfl, rfl, rfl⟩ := hcs
      exact ⟨_, ints_some .u8 W x _ _ zs hl hm (by simpa using hz) hcell hwz⟩
  have w2 := z2.elim fun _ h => h.bytes
  have lt3 : ∀ x ∈ p3, x.block < W.heap.size := by obtain ⟨m, hm⟩ := h3; exact DataW.trod_lt m _ _ _ hm
  have k3 := h3
  obtain ⟨a3, rfl, _, _, w3⟩ := open_int Try.underlying3 (hval 3 3 v3 rfl rfl) h3
  have lt4 : ∀ x ∈ p4, x.block < W.heap.size := by obtain ⟨m, hm⟩ := h4; exact DataW.trod_lt m _ _ _ hm
  have k4 := h4
  obtain ⟨a4, rfl, _, _, w4⟩ := open_int Try.underlying5 (hval 4 5 v4 rfl rfl) h4
  clear hA0 hval0
  refine (walk W a0 a1 a2 n2 c2 a3 a4 w0 w1 w2 w3 w4).mono fun e W' ⟨he, bel⟩ => ?_
  subst he
  exact ⟨_, rfl, _, _, _, [], _, [], hW', trodAll_mk1 (shut_bool Try.underlying4 _), (trodAll_cons_mk (Below.trod laid_out (by kernel_rfl) (of_decide_eq_true (by kernel_rfl)) k0 bel lt0) (trodAll_cons_mk (Below.trod laid_out (by kernel_rfl) (of_decide_eq_true (by kernel_rfl)) k1 bel lt1) (trodAll_cons_mk (Below.trod laid_out (by kernel_rfl) (of_decide_eq_true (by kernel_rfl)) k2 bel lt2) (trodAll_cons_mk (Below.trod laid_out (by kernel_rfl) (of_decide_eq_true (by kernel_rfl)) k3 bel lt3) (trodAll_cons_mk (Below.trod laid_out (by kernel_rfl) (of_decide_eq_true (by kernel_rfl)) k4 bel lt4) (trodAll_mk0)))))), rfl, bel.frame _, fun h => by cases h⟩

theorem over : Rows.bytesBackRow.holds Try.pinned (OpenSpec.ofChange Rows.bytesBackSpec) :=
  OpenClaim.holds_of_wide 4 Try.f4 rfl rfl rfl rfl rfl rfl rfl ⟨rfl, rfl, rfl, rfl, rfl⟩ rfl rfl rfl rfl rfl (by kernel_rfl) Try.func4 (by kernel_rfl)
    (of_decide_eq_true (by kernel_rfl)) (by unfold Func.isWrapper; first | (rw [if_pos (by decide +kernel)]; kernel_rfl) | (rw [if_neg (by decide +kernel)]; exact ⟨rfl, rfl⟩))
    (fun os started H enc _ => lifted os started H enc)

theorem proved : Rows.BytesBackSaid := over
end Go.Proofs.Ytafjkbmkoghmkaa.bytesBack
