/- droverlaw07.SessionLate returns true whatever its arguments: what comes of an elder life of the peer changes nothing. For every input, without conditions. -/
import Derived.Test.YtmkpaippkajhmaaRow
import Derived.Test.YtmkpaippkajhmaaBrw
import Derived.Test.YtmkpaippkajhmaaSm
import Derived.Test.YtmkpaippkajhmaaSp
namespace Go.Proofs.Ytmkpaippkajhmaa.sessionLate
open Go.ChangeShapes Go.WideShapes Go.ChangeAt Go.RowKit
set_option linter.unusedVariables false

/-- The session behind a packet of a life. -/
def stL (F : List (List Nat)) (N : Nat) : Se := ⟨0, 1, 1, F.length, 0, 0, N, F⟩
def stE (F : List (List Nat)) (N : Nat) : Se := ⟨0, 1, 1, F.length, 0, 0, N, []⟩
theorem rl1 (F : List (List Nat)) (N : Nat) (hN : N ≤ 1000) : (stF 1 F).recv (pkb ⟨1, N, 0, 0, []⟩) = (stL F N, none, 0) := by
  rw [Se.recv_pkb _ (pkt1_ok (by omega) (by omega) (by omega) (by simp) (by simp))]
  unfold Se.recvK stF stL Se.first
  simp
theorem rl2 (F : List (List Nat)) (N M s a : Nat) (d : List Nat) (hM : M < N) (hs : s ≤ 1000) (hs0 : s ≠ 0) (ha : a ≤ 1000) (hN : N ≤ 1000) (hd : d.length ≤ 1000) : (stL F N).recv (pkb ⟨1, M, s, a, d⟩) = (stL F N, none, 0) := by
  rw [Se.recv_pkb _ (pkt1_ok (by omega) (by omega) (by omega) (by omega) (fun h => absurd h hs0))]
  unfold Se.recvK stL
  simp [hM]
theorem rl3 (F : List (List Nat)) (N : Nat) (d : List Nat) (hF : F.length ≤ 40) (hN : N ≤ 1000) (hd : d.length ≤ 1000) : (stL F N).recv (pkb ⟨1, N + 1, 1, F.length, d⟩) = (stE F (N + 1), some (1, d), 0) := by
  rw [Se.recv_pkb _ (pkt1_ok (by omega) (by omega) (by omega) (by omega) (by simp))]
  unfold Se.recvK stL stE Se.first
  simp

set_option maxRecDepth 100000 in
set_option maxHeartbeats 4000000 in
theorem walk (w : World) (a0 : Option Addr) (n0 c0 : Nat) (a1 : Int) (a2 : Int) (a3 : Int) (a4 : Int) (a5 : Option Addr) (n5 c5 : Nat) (w0 : ∃ ll : List (List Nat), BRows w a0 n0 c0 ll) (w1 : (Lit.int .u8 a1).wf = true) (w2 : (Lit.int .u8 a2).wf = true) (w3 : (Lit.int .u8 a3).wf = true) (w4 : (Lit.int .u8 a4).wf = true) (w5 : ∃ l : List Nat, l.length = n5 ∧ n5 ≤ c5 ∧ At w w.heap.size a5 (bv l) ∧ (∀ x ∈ l, x < 256)) :
    Calls Try.prog 8 #[.slice a0 n0 c0, .int .u8 a1, .int .u8 a2, .int .u8 a3, .int .u8 a4, .slice a5 n5 c5] w fun e w' => e = .returned (.bool true) ∧ Below w.heap.size w w' := by
  obtain ⟨ll, hrows⟩ := w0
  obtain ⟨n1, rfl, hn1⟩ := wf_u8 w1
  obtain ⟨n2, rfl, hn2⟩ := wf_u8 w2
  obtain ⟨n3, rfl, hn3⟩ := wf_u8 w3
  obtain ⟨n4, rfl, hn4⟩ := wf_u8 w4
  obtain ⟨l5, hl5, hc5, hat5, h85⟩ := w5
  have hbs5 := Bs.of_at hat5 hl5 hc5 h85
  have hF := flt_len ll
  have HR := Lib.hid hrows
  have HB5 := Lib.hid hbs5
  have HL5 := Lib.hid hl5
  clear hrows hat5 hl5 hbs5 w1 w2 w3 w4
  go_enter Try.func8, Try.ntmps8
  go_wp2_with fail
  refine (filled_any 1 1 rfl (by omega) a0 n0 c0 ll w HR.out).mono ?_
  rintro e u1 ⟨q, r, A1, c1, rfl, hs1, hrb1, hb1⟩
  obtain ⟨F, hFF⟩ : ∃ F, Hid (F = flt ll) := ⟨_, Lib.hid rfl⟩
  rw [← hFF.out] at hs1 hrb1 hF ⊢
  have HS1 := Lib.hid hs1
  have HRB1 := Lib.hid hrb1
  clear hs1 hrb1
  by_cases h100 : 100 < n5
  · have d1 : decide ((n5 : Int) > 100) = true := decide_eq_true (by omega)
    have d2 : decide (100 < n5) = true := decide_eq_true h100
    go_wp2_with fail
    refine (awake07_any _).mono ?_
    rintro e u5 ⟨rfl, hb5⟩
    go_wp2_with fail
    go_ret
    exact ⟨rfl, nxt hb1 hb5⟩
  have d1 : decide ((n5 : Int) > 100) = false := decide_eq_false (by omega)
  have d2 : decide (100 < n5) = false := decide_eq_false h100
  go_wp2_with fail
  obtain ⟨N, hN, hN2, hN3⟩ : ∃ N : Nat, Hid ((2 + (n1 : Int) % 99) = (N : Int)) ∧ 2 ≤ N ∧ N ≤ 100 := ⟨2 + n1 % 99, Lib.hid (by omega), by omega, by omega⟩
  rw [hN.out]
  obtain ⟨M, hM, hMN, hM1⟩ : ∃ M : Nat, Hid (wrap64 (1 + (n2 : Int) % ((N : Int) - 1)) = (M : Int)) ∧ M < N ∧ 1 ≤ M := by
    have hlt := Nat.mod_lt n2 (show 0 < N - 1 by omega)
    refine ⟨1 + n2 % (N - 1), Lib.hid ?_, by omega, by omega⟩
    have e1 : ((N : Int) - 1) = ((N - 1 : Nat) : Int) := by omega
    rw [e1, ← Int.natCast_emod, IntWalk.wrap64_in _ (by omega)]
    omega
  rw [hM.out]
  refine (packed_any N 0 0 _ _ _ rfl rfl rfl _ [] u1 (Bs.nil _) (pkt1_ok (by omega) (by omega) (by omega) (by simp) (by simp))).mono ?_
  rintro e u2 ⟨A2, c2, rfl, ho2, hs2, hb2⟩
  have hS2 := HS1.out.below hb2
  have hRB2 := HRB1.out.below hb2
  have hbw2 := nxt hb1 hb2
  have HR1 := Lib.hid (recvn_any hS2 _ _ hs2 (pkb_short (by simp)) hbw2.size (rl1 F N (by omega)))
  have HS2 := Lib.hid hS2
  have HRB2 := Lib.hid hRB2
  clear hS2 hRB2 ho2 hs2 hb2 d1 d2
  go_wp2_with fail
  refine HR1.out.mono ?_
  rintro e u3 ⟨rfl, r3, hs3, hk3, hw3⟩
  rw [show (((0 : Nat)) : Int) = 0 from rfl]
  have hb3 := hbw2.trans (HS2.out.belowOf hk3)
  have hRB3 := HRB2.out.other HS2.out hk3
  have ho3 := (Below.refl u3.heap.size u3).alloc (Nat.le_refl _) (.cells #[.int .i64 0, .slice none 0 0] 27)
  have hS3 := hs3.below ho3
  have HRB3 := Lib.hid (hRB3.below ho3)
  have HS3 := Lib.hid hS3
  have hb3' := hb3.alloc hb3.size (.cells #[.int .i64 0, .slice none 0 0] 27)
  clear hs3 hk3 hw3 hRB3 ho3 hS3 HR1
  have d3 : ((N : Int) != (N : Int)) = false := by simp
  go_wp2_with fail
  refine (peerlife_any HS3.out).mono ?_
  rintro e ux ⟨rfl, rfl⟩
  rw [show (((stL F N).pl : Nat) : Int) = (N : Int) from rfl]
  go_wp2_with fail
  -- the elder packet
  have hB5 := HB5.out.below hb3'
  have hl5 : l5.length ≤ 100 := by have := HL5.out; omega
  clear d3
  refine (packed_any M (1 + n3) n4 _ _ _ rfl (by omega) rfl _ l5 _ hB5 (pkt1_ok (by omega) (by omega) (by omega) (by omega) (by omega))).mono ?_
  rintro e u4 ⟨A4, c4, rfl, ho4, hs4, hb4'⟩
  have HS4 := Lib.hid (HS3.out.below hb4')
  have hOq := Lib.hid HS4.out.lt
  have hOr : Hid (∀ g, r3 = some g → g < u4.heap.size) := Lib.hid (fun g e => (HS4.out.row_lt e).2)
  have HRB4 := Lib.hid (HRB3.out.below hb4')
  have hb4 := nxt hb3' hb4'
  have HP4 : Hid (Bx u4 w.heap.size (.slice A4 (pkb ⟨1, M, 1 + n3, n4, l5⟩).length c4) (pkb ⟨1, M, 1 + n3, n4, l5⟩)) := Lib.hid (Bx.of_own ho4 hs4.2)
  clear ho4 hs4 hb4' hB5 hb3' HS3 HRB3
  go_wp2_with fail
  refine (link_any HS4.out).mono ?_
  rintro e u5 ⟨A5, c5', L5, rfl, ho5, hi5, hf5, hb5'⟩
  have hoK := (Below.refl u5.heap.size u5).alloc (Nat.le_refl _) (.cells #[.int .i64 (((stL F N).last : Nat) : Int), .slice A5 (stL F N).ds.length c5', .int .i64 (((stL F N).done : Nat) : Int)] 24)
  have hb5 := nxt hb4 hb5'
  have hb6 := hb5.alloc hb5.size (.cells #[.int .i64 (((stL F N).last : Nat) : Int), .slice A5 (stL F N).ds.length c5', .int .i64 (((stL F N).done : Nat) : Int)] 24)
  have hx5 := nxt hb5' hoK
  have HS6 := Lib.hid (HS4.out.below hx5)
  have HRB6 := Lib.hid (HRB4.out.below hx5)
  have HP6 := Lib.hid (HP4.out.below hx5)
  have HO6 := Lib.hid (irow_kept ho5 (fun g hg => hoK.block g (by obtain ⟨_, _, h⟩ := irow_blk ho5 hg; exact lt_heap h)))
  have HI6 := Lib.hid (hi5.below hoK)
  have HQ6 := Lib.hid (heap_new u5 (.cells #[.int .i64 (((stL F N).last : Nat) : Int), .slice A5 (stL F N).ds.length c5', .int .i64 (((stL F N).done : Nat) : Int)] 24))
  obtain ⟨W6, hW6⟩ : ∃ W, W = u5.alloc (.cells #[.int .i64 (((stL F N).last : Nat) : Int), .slice A5 (stL F N).ds.length c5', .int .i64 (((stL F N).done : Nat) : Int)] 24) := ⟨_, rfl⟩
  obtain ⟨G6, hG6⟩ : ∃ G, G = u5.heap.size := ⟨_, rfl⟩
  go_wp2_with fail
  rw [← hW6] at HS6 HRB6 HP6 HO6 HI6 HQ6 hb6 ⊢
  rw [← hG6] at HQ6 ⊢
  clear ho5 hi5 hf5 hb5' hoK hb5 hx5 hb4 HS4 HRB4 HP4 hW6 hG6
  have hrv := recvn_any HS6.out _ _ HP6.out.bs (pkb_short (by show l5.length ≤ _; omega)) hb6.size (rl2 F N M (1 + n3) n4 l5 hMN (by omega) (by omega) (by omega) (by omega) (by omega))
  refine hrv.mono ?_
  rintro e u7 ⟨rfl, r7, hs7, hk7, hw7⟩
  rw [show (((0 : Nat)) : Int) = 0 from rfl]
  have hS7 := hs7
  have ho7 := irow_other HS6.out hk7 HO6.out hOq.out hOr.out
  have hi7 := its_other HS6.out hk7 HI6.out
  have hq7 := heap_other HS6.out hk7 HQ6.out (by decide) (by decide)
  have hRB7 := HRB6.out.other HS6.out hk7
  have hb7 := hb6.trans (HS6.out.belowOf hk7)
  have hoI := (Below.refl u7.heap.size u7).alloc (Nat.le_refl _) (.cells #[.int .i64 0, .slice none 0 0] 27)
  have HS8 := Lib.hid (hs7.below hoI)
  have HO8 := Lib.hid (irow_kept ho7 (fun g hg => hoI.block g (by obtain ⟨_, _, h⟩ := irow_blk ho7 hg; exact lt_heap h)))
  have HI8 := Lib.hid (hi7.below hoI)
  have HQ8 := Lib.hid (heap_below hq7 hoI)
  have HRB8 := Lib.hid (hRB7.below hoI)
  have hb8 := hb7.alloc hb7.size (.cells #[.int .i64 0, .slice none 0 0] 27)
  have HQI := Lib.hid (heap_new u7 (.cells #[.int .i64 0, .slice none 0 0] 27))
  obtain ⟨V, hV⟩ : ∃ V, V = u7.alloc (.cells #[.int .i64 0, .slice none 0 0] 27) := ⟨_, rfl⟩
  obtain ⟨GI, hGI⟩ : ∃ G, G = u7.heap.size := ⟨_, rfl⟩
  go_wp2_with fail
  rw [← hV] at HS8 HO8 HI8 HQ8 HRB8 hb8 HQI ⊢
  rw [← hGI] at HQI ⊢
  clear hS7 ho7 hi7 hq7 hRB7 hb7 hoI hs7 hk7 hw7 hrv HS6 HRB6 HP6 HO6 HI6 HQ6 hb6 hV hGI
  have e0 := cell_block HQI.out 0
  have e1 := cell_block HQI.out 1
  obtain ⟨⟨g0, g1, g2⟩, -⟩ := box3 HQ8.out
  have hX : Below V.drew.heap.size V.drew V.drew := Below.refl _ _
  have DQI := Lib.hid (show V.drew.heap[GI]? = some (.cells #[.int .i64 0, .slice none 0 0] 27 (0, 0)) from HQI.out)
  have DQ8 := Lib.hid (show V.drew.heap[G6]? = some (.cells #[.int .i64 (((stL F N).last : Nat) : Int), .slice A5 (stL F N).ds.length c5', .int .i64 (((stL F N).done : Nat) : Int)] 24 (0, 0)) from HQ8.out)
  have DI8 : Hid (∀ x ∈ L5, Bs V.drew (.slice x.A x.d.length x.c) x.d) := Lib.hid (fun x hx => (HI8.out.bs x hx).drew)
  have d3 : ((N : Int) != (N : Int)) = false := by simp
  go_region_held3 (fun w' => (w'.cell? ⟨GI, 0, none⟩ = some (.int .i64 0) ∧ w'.cell? ⟨GI, 1, none⟩ = some (.slice none 0 0)) ∧ w'.cell? ⟨G6, 0, none⟩ = some (.int .i64 (((stL F N).last : Nat) : Int)) ∧ w'.cell? ⟨G6, 1, none⟩ = some (.slice A5 (stL F N).ds.length c5') ∧ w'.cell? ⟨G6, 2, none⟩ = some (.int .i64 (((stL F N).done : Nat) : Int))) (go_keep)
    (first
      | (go_at_call 27
         refine (sameitem_any 0 0 _ _ [] [] _ (Bs.nil _) (Bs.nil _) true (by simp)).mono ?_
         rintro e v1 ⟨rfl, hb'⟩
         replace hX := nxt hX hb'
         clear hb'
         have i0 := cell_block (heap_below DQI.out hX) 0
         have i1 := cell_block (heap_below DQI.out hX) 1
         obtain ⟨⟨j0, j1, j2⟩, -⟩ := box3 (heap_below DQ8.out hX))
      | (go_at_call 21
         refine (link_any (HS8.out.drew.below hX)).mono ?_
         rintro e v2 ⟨A9, c9, L9, rfl, ho9, hi9, hf9, hb'⟩
         replace hX := nxt hX hb'
         clear hb'
         have HO9 := Lib.hid ho9
         have HI9 := Lib.hid hi9
         clear ho9 hi9 hf9
         have i0' := cell_block (heap_below DQI.out hX) 0
         have i1' := cell_block (heap_below DQI.out hX) 1
         obtain ⟨⟨j0', j1', j2'⟩, -⟩ := box3 (heap_below DQ8.out hX))
      | (go_at_call 20
         refine (samelink_any _ _ A9 A5 (stL F N).ds.length c9 c5' L9 L5 _ HI9.out.len (by show F.length ≤ _; omega) (its_eq HI9.out HI8.out) (LAt.of_row rfl HO9.out) ((LAt.of_row rfl HO8.out).drew.below hX) HI9.out.bs (fun x hx => (DI8.out x hx).below hX)).mono ?_
         rintro e v3 ⟨rfl, hb'⟩
         replace hX := nxt hX hb'
         clear hb'
         have k0 := cell_block (heap_below DQI.out hX) 0
         have k1 := cell_block (heap_below DQI.out hX) 1
         obtain ⟨⟨m0, m1, m2⟩, -⟩ := box3 (heap_below DQ8.out hX))
      | (go_at_call 14
         refine (peerlife_any (HS8.out.drew.below hX)).mono ?_
         rintro e vx ⟨rfl, rfl⟩
         rw [show (((stL F N).pl : Nat) : Int) = (N : Int) from rfl])
      | (fail))
  all_goals
    have HS9 := Lib.hid (HS8.out.drew.below hX)
    have hb9 := nxt (bel_drew' hb8) hX
    have hB9 := HB5.out.below hb9
    have d4 : ((N : Int) + 1 == (N : Int) + 1) = true := by simp
    clear e0 e1 g0 g1 g2 i0 i1 j0 j1 j2 i0' i1' j0' j1' j2' k0 k1 m0 m1 m2 d3 hX HO9 HI9 DQI DQ8 DI8 HS8 HO8 HI8 HQ8 HRB8 HQI hb8
    go_wp2_with fail
    refine (packed_any (N + 1) 1 F.length _ _ _ (by omega) rfl rfl _ l5 _ hB9 (pkt1_ok (by omega) (by omega) (by omega) (by omega) (by omega))).mono ?_
    rintro e x1 ⟨Ax, cx, rfl, hox, hsx, hbx⟩
    have hSx := HS9.out.below hbx
    have hbx9 := nxt hb9 hbx
    have HRx := Lib.hid (recvs_any hSx _ _ hsx (pkb_short (by show l5.length ≤ _; omega)) hbx9.size (rl3 F N l5 hF (by omega) (by omega)))
    have HSx := Lib.hid hSx
    clear hSx hox hsx hbx hB9 HS9 hb9
    go_wp2_with fail
    refine HRx.out.mono ?_
    rintro e x2 ⟨⟨Ay, cy, rfl, hby⟩, ry, hsy, hky, hwy⟩
    have hbz := hbx9.trans (HSx.out.belowOf hky)
    clear hky hwy HRx HSx hbx9 hby
    go_wp2_with fail
    refine (peerlife_any hsy).mono ?_
    rintro e ux ⟨rfl, rfl⟩
    rw [show (((stE F (N + 1)).pl : Nat) : Int) = (N : Int) + 1 from rfl]
    go_wp2_with fail
    refine (waiting_any hsy).mono ?_
    rintro e ux ⟨rfl, rfl⟩
    rw [show (((stE F (N + 1)).ds.length : Nat) : Int) = 0 from rfl]
    go_wp2_with fail
    refine (awake07_any _).mono ?_
    rintro e u5 ⟨rfl, hb5⟩
    go_wp2_with fail
    go_ret
    exact ⟨rfl, nxt hbz hb5⟩

set_option maxRecDepth 100000 in
theorem lifted (os : Os) (started : os.Started) (H : Type) (enc : TypeId × Value → H) :
    ReturnsInHanded {} Try.checked os 8 .any (Rows.sessionLateSpec.pre6 enc Try.prog Try.f8 Rows.sessionLateRow.domain false) (Rows.sessionLateSpec.post enc Try.prog Try.f8 false true false false) := by
  refine returnsInHanded_of_change (C := Try.checked) knob_own started (by kernel_rfl) Try.func8
    (ChangeSpec.witness6 (enc := enc) (C := Try.checked) false ⟨#[], #[.slice none 0 0, .int .u8 0, .int .u8 0, .int .u8 0, .int .u8 0, .slice none 0 0], []⟩ 8 (by kernel_rfl) (by kernel_rfl) (by kernel_rfl) (by kernel_rfl)) ?_
  intro W base args ds gs before hval0 hW hcnd _
  have hval : ∀ (j : Nat) t v, Try.f8.params[j]? = some t → args[j]? = some v → Value.okWide Try.prog W .any base t v := hval0
  have hW' := hW
  obtain ⟨p, q, hA0, hV, rfl, hfz, hnd⟩ := hW
  have hA : DataW.TrodAll enc Try.prog W 0 (fun _ => true) true Try.f8.params.toList args.toList ds p := hA0
  rw [Try.params8] at hA hval
  obtain ⟨v0, vs0, d0, ds0, p0, q0, hargs, rfl, rfl, h0, r0⟩ := trodAll_cons hA
  obtain ⟨v1, vs1, d1, ds1, p1, q1, rfl, rfl, rfl, h1, r1⟩ := trodAll_cons r0
  obtain ⟨v2, vs2, d2, ds2, p2, q2, rfl, rfl, rfl, h2, r2⟩ := trodAll_cons r1
  obtain ⟨v3, vs3, d3, ds3, p3, q3, rfl, rfl, rfl, h3, r3⟩ := trodAll_cons r2
  obtain ⟨v4, vs4, d4, ds4, p4, q4, rfl, rfl, rfl, h4, r4⟩ := trodAll_cons r3
  obtain ⟨v5, vs5, d5, ds5, p5, q5, rfl, rfl, rfl, h5, r5⟩ := trodAll_cons r4
  obtain ⟨rfl, rfl, rfl⟩ := trodAll_nil r5
  obtain rfl : args = #[v0, v1, v2, v3, v4, v5] := by cases args; simp_all
  obtain ⟨rfl, rfl⟩ := trodVars_none hV
  obtain ⟨a0, n0, c0, rfl⟩ := okWide_slice Try.underlying48 (hval 0 48 v0 rfl rfl)
  have k0 := h0
  have lt0 : ∀ x ∈ p0, x.block < W.heap.size := by obtain ⟨m, hm⟩ := k0; exact DataW.trod_lt m _ _ _ hm
  have w0 := brows_open h0
  have lt1 : ∀ x ∈ p1, x.block < W.heap.size := by obtain ⟨m, hm⟩ := h1; exact DataW.trod_lt m _ _ _ hm
  have k1 := h1
  obtain ⟨a1, rfl, _, _, w1⟩ := open_int Try.underlying5 (hval 1 5 v1 rfl rfl) h1
  have lt2 : ∀ x ∈ p2, x.block < W.heap.size := by obtain ⟨m, hm⟩ := h2; exact DataW.trod_lt m _ _ _ hm
  have k2 := h2
  obtain ⟨a2, rfl, _, _, w2⟩ := open_int Try.underlying5 (hval 2 5 v2 rfl rfl) h2
  have lt3 : ∀ x ∈ p3, x.block < W.heap.size := by obtain ⟨m, hm⟩ := h3; exact DataW.trod_lt m _ _ _ hm
  have k3 := h3
  obtain ⟨a3, rfl, _, _, w3⟩ := open_int Try.underlying5 (hval 3 5 v3 rfl rfl) h3
  have lt4 : ∀ x ∈ p4, x.block < W.heap.size := by obtain ⟨m, hm⟩ := h4; exact DataW.trod_lt m _ _ _ hm
  have k4 := h4
  obtain ⟨a4, rfl, _, _, w4⟩ := open_int Try.underlying5 (hval 4 5 v4 rfl rfl) h4
  obtain ⟨a5, n5, c5, rfl⟩ := okWide_slice Try.underlying25 (hval 5 25 v5 rfl rfl)
  have k5 := h5
  have lt5 : ∀ x ∈ p5, x.block < W.heap.size := by obtain ⟨m, hm⟩ := k5; exact DataW.trod_lt m _ _ _ hm
  have z5 : ∃ zs, Ints .u8 W a5 n5 c5 zs := by
    obtain ⟨fuel, hf⟩ := h5
    rcases open_ints Try.underlying25 Try.underlying5 (by kernel_rfl) hf with ⟨hcs, _⟩ | ⟨x, l, c, zs, hcs, _, hl, hm, hz, _, hcell, hwz⟩
    · simp [Value.cells] at hcs
      obtain ⟨rfl, rfl, rfl⟩ := hcs
      exact ⟨[], ints_nil _ _⟩
    · simp [Value.cells] at hcs
      obtain ⟨rfl, rfl, rfl⟩ := hcs
      exact ⟨_, ints_some .u8 W x _ _ zs hl hm (by simpa using hz) hcell hwz⟩
  have w5 := z5.elim fun _ h => h.bytes
  clear hA0 hval0
  refine (walk W a0 n0 c0 a1 a2 a3 a4 a5 n5 c5 w0 w1 w2 w3 w4 w5).mono fun e W' ⟨he, bel⟩ => ?_
  subst he
  exact ⟨_, rfl, _, _, _, [], _, [], hW', trodAll_mk1 (shut_bool Try.underlying4 _), (trodAll_cons_mk (Below.trod laid_out (by kernel_rfl) (of_decide_eq_true (by kernel_rfl)) k0 bel lt0) (trodAll_cons_mk (Below.trod laid_out (by kernel_rfl) (of_decide_eq_true (by kernel_rfl)) k1 bel lt1) (trodAll_cons_mk (Below.trod laid_out (by kernel_rfl) (of_decide_eq_true (by kernel_rfl)) k2 bel lt2) (trodAll_cons_mk (Below.trod laid_out (by kernel_rfl) (of_decide_eq_true (by kernel_rfl)) k3 bel lt3) (trodAll_cons_mk (Below.trod laid_out (by kernel_rfl) (of_decide_eq_true (by kernel_rfl)) k4 bel lt4) (trodAll_cons_mk (Below.trod laid_out (by kernel_rfl) (of_decide_eq_true (by kernel_rfl)) k5 bel lt5) (trodAll_mk0))))))), rfl, bel.frame _, fun h => by cases h⟩

theorem over : Rows.sessionLateRow.holds Try.pinned (OpenSpec.ofChange Rows.sessionLateSpec) :=
  OpenClaim.holds_of_wide 8 Try.f8 rfl rfl rfl rfl rfl rfl rfl ⟨rfl, rfl, rfl, rfl, rfl⟩ rfl rfl rfl rfl rfl (by kernel_rfl) Try.func8 (by kernel_rfl)
    (of_decide_eq_true (by kernel_rfl)) (by unfold Func.isWrapper; first | (rw [if_pos (by decide +kernel)]; kernel_rfl) | (rw [if_neg (by decide +kernel)]; exact ⟨rfl, rfl⟩))
    (fun os started H enc _ => lifted os started H enc)

theorem proved : Rows.SessionLateSaid := over
end Go.Proofs.Ytmkpaippkajhmaa.sessionLate
