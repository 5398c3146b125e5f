/- droverlaw07.SessionLinks returns true whatever its arguments: a session that begins anew with its link sends the same packets, and is told anew what was not done. For every input, without conditions. -/
import Derived.Test.YtmkpaippkajhmaaRow
import Derived.Test.YtmkpaippkajhmaaBrw
import Derived.Test.YtmkpaippkajhmaaSm
import Derived.Test.YtmkpaippkajhmaaSp
namespace Go.Proofs.Ytmkpaippkajhmaa.sessionLinks
open Go.ChangeShapes Go.WideShapes Go.ChangeAt Go.RowKit
set_option linter.unusedVariables false

/-- The session's states: j are accepted, of which k are done. -/
def lk (F : List (List Nat)) (j k pl : Nat) : Se := ⟨0, 1, 4, F.length, k, j, pl, F⟩
/-- The one that begins anew. -/
def tk (F : List (List Nat)) (k a pl : Nat) : Se := ⟨0, 1, 5, F.length, k, a, pl, F⟩
theorem lk1 {F : List (List Nat)} {j pl : Nat} (hF : F.length ≤ 40) (hj : j ≤ 20) (hp : pl ≤ 1) : (lk F j 0 pl).recv (pkb ⟨1, 1, j + 1, 0, [j + 1]⟩) = (lk F j 0 1, some (j + 1, [j + 1]), 0) := by
  rw [Se.recv_pkb _ (pkt1_ok (by omega) (by omega) (by omega) (by simp) (by omega))]
  unfold Se.recvK lk Se.first
  rw [if_neg (by simp), if_neg (by simp; omega), if_neg (by simp)]
  simp
theorem tk1 {F : List (List Nat)} {k a i pl : Nat} (hF : F.length ≤ 40) (hi : i ≤ 20) (hp : pl ≤ 1) (e : Bool) (he : decide (i = a + 1) = e) : (tk F k a pl).recv (pkb ⟨1, 1, i, 0, []⟩) = (tk F k a 1, if e = true then some (i, []) else none, 0) := by
  rw [Se.recv_pkb _ (pkt1_ok (by omega) (by omega) (by omega) (by simp) (by simp))]
  unfold Se.recvK tk Se.first
  subst he
  rw [if_neg (by simp), if_neg (by simp; omega), if_neg (by simp)]
  by_cases h : i = a + 1 <;> simp [h]
theorem lk_items (F : List (List Nat)) (n k pl a pl' : Nat) : (tk F k a pl').items = (lk F n k pl).items := rfl
theorem okL {F : List (List Nat)} {n k pl i : Nat} {x : Nat × List Nat} (hF : F.length ≤ 40) (hk : k ≤ 20) (hs : ∀ d ∈ F, d.length ≤ 20) (hx : (lk F n k pl).items[i]? = some x) : x.1 ≤ 1000 ∧ x.2.length ≤ 20 ∧ (x.1 = 0 → x.2 = []) := by
  rcases Se.items_at hx with ⟨-, -, rfl⟩ | ⟨h1, h2, h3⟩
  · simp
  · have h4 := hs _ (List.mem_of_getElem? h3)
    have h5 : (lk F n k pl).first = 0 := by unfold Se.first lk; simp
    rw [h5] at h2
    exact ⟨by omega, h4, by omega⟩

set_option maxRecDepth 100000 in
set_option maxHeartbeats 8000000 in
theorem walk (w : World) (a0 : Option Addr) (n0 c0 : Nat) (a1 : Int) (a2 : Int) (w0 : ∃ ll : List (List Nat), BRows w a0 n0 c0 ll) (w1 : (Lit.int .u8 a1).wf = true) (w2 : (Lit.int .u8 a2).wf = true) :
    Calls Try.prog 9 #[.slice a0 n0 c0, .int .u8 a1, .int .u8 a2] w fun e w' => e = .returned (.bool true) ∧ Below w.heap.size w w' := by
  obtain ⟨ll, hrows⟩ := w0
  obtain ⟨m1, rfl, hm1⟩ := wf_u8 w1
  obtain ⟨m2, rfl, hm2⟩ := wf_u8 w2
  have hF := flt_len ll
  have hFs := flt_short ll
  have HR := Lib.hid hrows
  clear hrows w1 w2
  go_enter Try.func9, Try.ntmps9
  go_wp2_with fail
  refine (filled_any 4 4 rfl (by omega) a0 n0 c0 ll w HR.out).mono ?_
  rintro e u1 ⟨q, r, A1, c1', rfl, hs1, hrb1, hb1⟩
  obtain ⟨F, hFF⟩ : ∃ F, Hid (F = flt ll) := ⟨_, Lib.hid rfl⟩
  rw [← hFF.out] at hs1 hrb1 hF hFs ⊢
  have HS1 : Hid (SeAt u1 w.heap.size q r (lk F 0 0 0)) := Lib.hid hs1
  have HFs := Lib.hid hFs
  clear hs1 hrb1 hFs
  go_upto_region 6 with fail
  obtain ⟨N, hN, hN9⟩ : ∃ N : Nat, Hid ((m1 : Int) % 10 = (N : Int)) ∧ N ≤ 9 := ⟨m1 % 10, Lib.hid (by omega), by omega⟩
  rw [hN.out]
  obtain ⟨K, hK, hKN⟩ : ∃ K : Nat, Hid ((m2 : Int) % ((N : Int) + 1) = (K : Int)) ∧ K ≤ N := by
    have hlt' := Nat.mod_lt m2 (show 0 < N + 1 by omega)
    refine ⟨m2 % (N + 1), Lib.hid ?_, by omega⟩
    have e1 : ((N : Int) + 1) = ((N + 1 : Nat) : Int) := by omega
    rw [e1, ← Int.natCast_emod]
  rw [hK.out]
  clear hN hK
  go_wp2_with fail
  go_loopw [12] (fun vi wr => ∃ (s pl : Nat) (r : Option Nat), 1 ≤ s ∧ s ≤ N + 1 ∧ vi = .int .i64 (s : Int) ∧ pl ≤ 1 ∧ Hid (SeAt wr w.heap.size q r (lk F (s - 1) 0 pl)) ∧ Below w.heap.size w wr) (fun i _ => 12 - (intOf i).toNat)
  case atStart => exact ⟨1, 0, r, by omega, by omega, rfl, by omega, HS1, hb1⟩
  case round =>
    obtain ⟨s, pl, rr, hs1, hsN, rfl, hpl, HS, hbr⟩ := hrel
    clear HS1 hb1
    by_cases hlt : s ≤ N
    · have k1 : decide ((s : Int) ≤ (N : Int)) = true := decide_eq_true (by omega)
      have hoB := (Below.refl wr.heap.size wr).alloc (Nat.le_refl _) (.cells #[.int .u8 (s : Int)] 5)
      have hBs := Bs.made wr #[.int .u8 (s : Int)] 5 [s] 1 rfl rfl (by simp; omega)
      have HP := Lib.hid (packed_any 1 s 0 1 (s : Int) 0 rfl rfl rfl _ [s] _ hBs (pkt1_ok (by omega) (by omega) (by omega) (by simp) (by omega)))
      clear hBs
      go_wp2_with fail
      refine HP.out.mono ?_
      rintro ex w2 ⟨A2, c2, rfl, ho2, hs2, hb2⟩
      have hx2 := nxt hoB hb2
      have hS2 := HS.out.below hx2
      have hb2' := nxt hbr hx2
      have hlk := lk1 (F := F) (j := s - 1) (pl := pl) hF (by omega) hpl
      rw [show s - 1 + 1 = s by omega] at hlk
      have HR1 := Lib.hid (recvs_any hS2 _ _ hs2 (pkb_short (by simp)) hb2'.size hlk)
      have HS2 := Lib.hid hS2
      clear hS2 ho2 hs2 hb2 hoB hlk HP k1 HS hbr hx2
      go_wp2_with fail
      refine HR1.out.mono ?_
      rintro ex w3 ⟨⟨A3, c3, rfl, hx3⟩, r3, hs3, hk3, hw3⟩
      have hb3 := hb2'.trans (HS2.out.belowOf hk3)
      have ho3 := (Below.refl w3.heap.size w3).alloc (Nat.le_refl _) (.cells #[.int .i64 (s : Int), .slice A3 ([s] : List Nat).length c3] 27)
      have HS3 := Lib.hid (hs3.below ho3)
      have hb4 := hb3.alloc hb3.size (.cells #[.int .i64 (s : Int), .slice A3 ([s] : List Nat).length c3] 27)
      clear hs3 hk3 hw3 ho3 hb3 hx3 HR1 HS2 hb2'
      go_wp2_with fail
      refine (accept_any HS3.out (s : Int) (by show s - 1 < _; omega)).mono ?_
      rintro ex w5 ⟨rfl, hs5, hk5⟩
      have hb5 := hb4.trans (HS3.out.belowOf hk5)
      have hsc : (s : Int) = (((lk F (s - 1) 0 1).acc : Nat) : Int) + 1 := by show (s : Int) = ((s - 1 : Nat) : Int) + 1; omega
      have hst : (lk F (s - 1) 0 1).accept (s : Int) = lk F s 0 1 := by
        unfold Se.accept
        rw [if_pos hsc]
        unfold lk
        simp
        omega
      rw [if_pos hsc]
      rw [hst] at hs5
      have HS5 := Lib.hid hs5
      clear hs5 hk5 hsc hst HS3 hb4
      go_wp2_with fail
      go_roundw
      case rel => exact ⟨s + 1, 1, r3, by omega, by omega, by go_num, by omega, HS5, hb5⟩
      case measure => simp [intOf]; omega
    · obtain rfl : s = N + 1 := by omega
      rw [show N + 1 - 1 = N by omega] at HS
      have k1 : decide ((((N + 1 : Nat)) : Int) ≤ (N : Int)) = false := decide_eq_false (by omega)
      have k2 : decide ((N : Int) + 1 ≤ (N : Int)) = false := decide_eq_false (by omega)
      go_upto_region 12 with fail
      clear k1 k2
      go_cut [80] (fun v wx => v = .bool false ∧ Hid (SeAt wx w.heap.size q rr (lk F N K pl)) ∧ Below w.heap.size w wx)
      case first =>
        by_cases hK0 : K = 0
        · subst hK0
          rw [show (((0 : Nat)) : Int) = 0 from rfl]
          go_wp2_with fail
          go_meet
          exact ⟨rfl, HS, hbr⟩
        · have d1 : decide ((K : Int) > 0) = true := decide_eq_true (by omega)
          have d2 : decide ((0 : Int) < (K : Int)) = true := decide_eq_true (by omega)
          have d3 : decide (0 < K) = true := decide_eq_true (by omega)
          go_wp2_with fail
          refine (done_any HS.out (K : Int)).mono ?_
          rintro ex w5 ⟨rfl, hs5, hk5⟩
          have hb5 := hbr.trans (HS.out.belowOf hk5)
          have hsc : (((lk F N 0 pl).done : Nat) : Int) < (K : Int) ∧ (K : Int) ≤ (((lk F N 0 pl).acc : Nat) : Int) := by show (0 : Int) < (K : Int) ∧ (K : Int) ≤ (N : Int); omega
          have hst : (lk F N 0 pl).setDone (K : Int) = lk F N K pl := by
            unfold Se.setDone
            rw [if_pos hsc]
            unfold lk
            simp
          rw [if_pos hsc]
          rw [hst] at hs5
          have HS5 := Lib.hid hs5
          clear hs5 hk5 hsc hst d1 d2 d3
          go_wp2_with fail
          go_meet
          exact ⟨rfl, HS5, hb5⟩
      case rest =>
      obtain ⟨rfl, HSc, hbc⟩ := hcut
      clear HS hbr
      go_wp2_with fail
      refine (link_any HSc.out).mono ?_
      rintro ex w6 ⟨A6, c6, L6, rfl, ho6, hi6, hf6, hb6⟩
      have HS6 := Lib.hid (HSc.out.below hb6)
      have hb6' := nxt hbc hb6
      have HRN := Lib.hid (renew_any HSc.out.ok hi6 ho6 (by show F.length ≤ _; omega) (by show K ≤ _; omega) 0 1 5 0 1 5 rfl rfl rfl (by omega) (by omega) (by omega))
      clear ho6 hi6 hf6 hb6 hbc HSc
      go_wp2_with fail
      refine HRN.out.mono ?_
      rintro ex w7 ⟨qt, rt, rfl, hst7, hb7⟩
      have hD7 : Duo w7 w.heap.size q rr (lk F N K pl) qt rt (tk F K K 0) := ⟨HS6.out.below hb7, hst7.mono hb6'.size, fun e => by have := HS6.out.lt; have := hst7.low; omega, fun g e1 e2 => by
        have := (HS6.out.row_lt e1).2
        have := (hst7.row_lt e2).1
        omega⟩
      have HD7 := Lib.hid hD7
      have hb7' := nxt hb6' hb7
      clear hst7 hD7 hb7 HRN HS6 hb6'
      have k1 : ((F.length : Int) != (F.length : Int)) = false := by simp
      go_wp2_with fail
      refine (waiting_any HD7.out.b).mono ?_
      rintro ex wx ⟨rfl, rfl⟩
      go_wp2_with fail
      refine (waiting_any HD7.out.a).mono ?_
      rintro ex wx ⟨rfl, rfl⟩
      rw [show (((tk F K K 0).ds.length : Nat) : Int) = (F.length : Int) from rfl, show (((lk F N K pl).ds.length : Nat) : Int) = (F.length : Int) from rfl]
      go_wp2_with fail
      refine (link_any HD7.out.b).mono ?_
      rintro ex w8 ⟨A8, c8, L8, rfl, ho8, hi8, -, hb8⟩
      have HD8 := Lib.hid (HD7.out.below hb8)
      have hb8' := nxt hb7' hb8
      have HO8 := Lib.hid ho8
      have HI8 := Lib.hid hi8
      clear ho8 hi8 hb8 HD7 hb7' k1
      go_wp2_with fail
      refine (link_any HD8.out.a).mono ?_
      rintro ex w9 ⟨A9, c9, L9, rfl, ho9, hi9, -, hb9⟩
      have HD9 := Lib.hid (HD8.out.below hb9)
      have hb9' := nxt hb8' hb9
      have HA8 := Lib.hid ((LAt.of_row rfl HO8.out).below hb9)
      have HI8' := Lib.hid (HI8.out.below hb9)
      have HO9 := Lib.hid ho9
      have HI9 := Lib.hid hi9
      clear ho9 hi9 hb9 HD8 hb8' HO8 HI8
      go_wp2_with fail
      refine (samelink_any (F.length : Int) (K : Int) A8 A9 F.length c8 c9 L8 L9 _ HI8'.out.len (by omega) (its_eq HI8'.out HI9.out) HA8.out (LAt.of_row rfl HO9.out) HI8'.out.bs HI9.out.bs).mono ?_
      rintro ex w10 ⟨rfl, hb10⟩
      have HD10 := Lib.hid (HD9.out.below hb10)
      have hb10' := nxt hb9' hb10
      clear hb10 HD9 hb9' HA8 HI8' HO9 HI9
      go_wp2_with fail
      refine (packets_any HD10.out.a).mono ?_
      rintro ex w11 ⟨v11, rfl, hl11, hb11⟩
      obtain ⟨P, hP⟩ : ∃ P, Hid ((lk F N K pl).items.length = P) := ⟨_, Lib.hid rfl⟩
      have hPl : ((lk F N K pl).items.map fun x => pkb ((lk F N K pl).pkt x.1 x.2)).length = P := by rw [List.length_map, hP.out]
      have hPt : ((tk F K K 0).items.map fun x => pkb ((tk F K K 0).pkt x.1 x.2)).length = P := by rw [List.length_map, lk_items F N K pl, hP.out]
      have hP8 : P ≤ 8 := by rw [← hP.out, Se.items_len]; omega
      rw [Se.packets_items] at hl11
      obtain ⟨A11, c11, rfl, -, -⟩ := hl11.slice
      rw [hPl] at hl11 ⊢
      have HD11 := Lib.hid (HD10.out.below hb11)
      have HL11 := Lib.hid hl11
      have hb11' := nxt hb10' hb11
      have HPt := Lib.hid hPt
      clear hl11 hb11 hPl hPt HD10 hb10'
      go_wp2_with fail
      refine (packets_any HD11.out.b).mono ?_
      rintro ex w12 ⟨v12, rfl, hl12, hb12⟩
      rw [Se.packets_items] at hl12
      obtain ⟨A12, c12, rfl, -, -⟩ := hl12.slice
      rw [HPt.out] at hl12 ⊢
      have HST := Lib.hid (HD11.out.below hb12).b
      have HLa := Lib.hid (HL11.out.below hb12)
      have HLb := Lib.hid hl12
      have hb12' := nxt hb11' hb12
      have k1 : ((P : Int) != (P : Int)) = false := by simp
      clear hl12 hb12 HD11 HL11 hb11'
      go_wp2_with fail
      clear k1
      go_loopw [20] (fun vk wz => ∃ k : Nat, k ≤ P ∧ vk = .int .i64 (k : Int) ∧ Below w12.heap.size w12 wz) (fun i _ => P - (intOf i).toNat)
      case atStart => exact ⟨0, by omega, rfl, Below.refl _ _⟩
      case round =>
        obtain ⟨k, hk, rfl, hbz⟩ := hrel
        by_cases hkP : k < P
        · have hki : k < (lk F N K pl).items.length := by have := hP.out; omega
          obtain ⟨x, hx⟩ : ∃ x, Hid ((lk F N K pl).items[k]? = some x) := ⟨_, Lib.hid (List.getElem?_eq_getElem hki)⟩
          obtain ⟨z1, z2, z3⟩ := okL hF (by omega) HFs.out hx.out
          have hxa : ((lk F N K pl).items.map fun x => pkb ((lk F N K pl).pkt x.1 x.2))[k]? = some (pkb ((lk F N K pl).pkt x.1 x.2)) := by rw [List.getElem?_map, hx.out]; rfl
          have hxb : ((tk F K K 0).items.map fun x => pkb ((tk F K K 0).pkt x.1 x.2))[k]? = some (pkb ((tk F K K 0).pkt x.1 x.2)) := by rw [List.getElem?_map, lk_items F N K pl, hx.out]; rfl
          have oka : pright ((lk F N K pl).pkt x.1 x.2) = true := pkt_ok (by simp [Se.pkt, lk]) (by simp [Se.pkt, lk]) (by show x.1 ≤ _; omega) (by show K ≤ _; omega) (by show x.2.length ≤ _; omega) z3
          have okb : pright ((tk F K K 0).pkt x.1 x.2) = true := pkt_ok (by simp [Se.pkt, tk]) (by simp [Se.pkt, tk]) (by show x.1 ≤ _; omega) (by show K ≤ _; omega) (by show x.2.length ≤ _; omega) z3
          obtain ⟨ga, Aa, ca, hAa, hga, ya, hya⟩ := (HLa.out.below hbz).cell hxa
          have HUa := Lib.hid (unpk_any _ _ _ hya.bs oka)
          have HXB := Lib.hid hxb
          have HOB := Lib.hid okb
          clear hki hxa hxb hya oka okb z1 z2 z3
          subst hAa
          go_wp2_with fail
          refine HUa.out.mono ?_
          rintro ex w13 ⟨A13, c13, rfl, hx13, hb13⟩
          rw [show ((((lk F N K pl).pkt x.1 x.2).f : Nat) : Int) = 0 from rfl, show ((((lk F N K pl).pkt x.1 x.2).l : Nat) : Int) = 4 from rfl, show ((((lk F N K pl).pkt x.1 x.2).a : Nat) : Int) = (K : Int) from rfl, show ((lk F N K pl).pkt x.1 x.2).s = x.1 from rfl, show ((lk F N K pl).pkt x.1 x.2).d = x.2 from rfl]
          rw [show ((lk F N K pl).pkt x.1 x.2).d = x.2 from rfl] at hx13
          have ho13 := (Below.refl w13.heap.size w13).alloc (Nat.le_refl _) (.cells #[.int .i64 0, .int .i64 4, .int .i64 (x.1 : Int), .int .i64 (K : Int), .slice A13 x.2.length c13] 34)
          have q21 := heap_new w13 (.cells #[.int .i64 0, .int .i64 4, .int .i64 (x.1 : Int), .int .i64 (K : Int), .slice A13 x.2.length c13] 34)
          have hX13 := hx13.below ho13
          have hb14 := nxt (nxt hbz hb13) ho13
          obtain ⟨V, hV⟩ : ∃ V, V = w13.alloc (.cells #[.int .i64 0, .int .i64 4, .int .i64 (x.1 : Int), .int .i64 (K : Int), .slice A13 x.2.length c13] 34) := ⟨_, rfl⟩
          obtain ⟨G, hG⟩ : ∃ G, G = w13.heap.size := ⟨_, rfl⟩
          have hG12 : w12.heap.size ≤ G := by rw [hG]; have := hbz.size; have := hb13.size; omega
          rw [← hV] at hX13 hb14 q21
          rw [← hG] at q21
          obtain ⟨gb', Ab, cb, hAb, hgb, yb, hyb⟩ := (HLb.out.below hb14).cell HXB.out
          have HUb := Lib.hid (unpk_any _ _ _ hyb.bs HOB.out)
          have Q21 := Lib.hid q21
          have HX13 := Lib.hid hX13
          clear ya hx13 hb13 ho13 hbz HUa hyb q21 hX13
          subst hAb
          go_upto_region 24 with fail
          rw [← hV, ← hG]
          clear hV hG
          go_wp2_with fail
          refine HUb.out.mono ?_
          rintro ex w15 ⟨A15, c15, rfl, hx15, hb15⟩
          rw [show ((((tk F K K 0).pkt x.1 x.2).f : Nat) : Int) = 0 from rfl, show ((((tk F K K 0).pkt x.1 x.2).l : Nat) : Int) = 5 from rfl, show ((((tk F K K 0).pkt x.1 x.2).a : Nat) : Int) = (K : Int) from rfl, show ((tk F K K 0).pkt x.1 x.2).s = x.1 from rfl, show ((tk F K K 0).pkt x.1 x.2).d = x.2 from rfl]
          rw [show ((tk F K K 0).pkt x.1 x.2).d = x.2 from rfl] at hx15
          have ho15 := (Below.refl w15.heap.size w15).alloc (Nat.le_refl _) (.cells #[.int .i64 0, .int .i64 5, .int .i64 (x.1 : Int), .int .i64 (K : Int), .slice A15 x.2.length c15] 34)
          have q23 := heap_new w15 (.cells #[.int .i64 0, .int .i64 5, .int .i64 (x.1 : Int), .int .i64 (K : Int), .slice A15 x.2.length c15] 34)
          have q22 := heap_below (heap_below Q21.out hb15) ho15
          have hX15 := hx15.below ho15
          have hX16 := (HX13.out.below hb15).below ho15
          have hb16 := nxt (nxt hb14 hb15) ho15
          obtain ⟨V2, hV2⟩ : ∃ V, V = w15.alloc (.cells #[.int .i64 0, .int .i64 5, .int .i64 (x.1 : Int), .int .i64 (K : Int), .slice A15 x.2.length c15] 34) := ⟨_, rfl⟩
          obtain ⟨G2, hG2⟩ : ∃ G, G = w15.heap.size := ⟨_, rfl⟩
          have hGG : G < G2 := by rw [hG2]; exact lt_heap (heap_below Q21.out hb15)
          rw [← hV2] at hX15 hX16 hb16 q22 q23
          rw [← hG2] at q23
          go_upto_region 25 with fail
          rw [← hV2, ← hG2]
          clear hV2 hG2 hx15 hb15 ho15 HUb hb14 yb Q21 HX13
          have f1 := free_block q22 1
          obtain ⟨e0, e1, e2, e3, e4⟩ := box5f q22
          have q22' := heap_set q22 1 (.int .i64 5)
          have q23' := heap_set_ne q23 (show G2 ≠ G by omega) 1 (.int .i64 5)
          have hk6 : Kp G V2 (V2.setCell ⟨G, 1, none⟩ (.int .i64 5)) := (Kp.refl G V2).set rfl _
          have hb17 := hb16.setCell (p := ⟨G, 1, none⟩) hG12 (.int .i64 5)
          have HY1 := Lib.hid (hX15.kp hk6 q22 (by decide))
          have HY2 := Lib.hid (hX16.kp hk6 q22 (by decide))
          obtain ⟨V3, hV3⟩ : ∃ V, V = V2.setCell ⟨G, 1, none⟩ (.int .i64 5) := ⟨_, rfl⟩
          rw [← hV3] at q22' q23' hb17 HY1 HY2
          have Q22 := Lib.hid q22'
          have Q23 := Lib.hid q23'
          clear q22 q23 q22' q23' hk6 hX15 hX16 hb16
          go_upto_region 26 with fail
          rw [← hV3]
          clear hV3 e0 e1 e2 e3 e4 f1
          obtain ⟨e0, e1, e2, e3, e4⟩ := box5f Q22.out
          obtain ⟨g0, g1, g2, g3, g4⟩ := box5f Q23.out
          go_wp2_with fail
          refine (samep_any 0 5 (x.1 : Int) (K : Int) 0 5 (x.1 : Int) (K : Int) x.2 x.2 A13 A15 c13 c15 _ HY2.out.bs HY1.out.bs).mono ?_
          rintro ex w18 ⟨rfl, hb18⟩
          rw [show decide ((0 : Int) = 0 ∧ (5 : Int) = 5 ∧ (x.1 : Int) = (x.1 : Int) ∧ (K : Int) = (K : Int) ∧ x.2 = x.2) = true by simp]
          have hbe := nxt hb17 hb18
          obtain ⟨-, -, -, j3, -⟩ := box5f (heap_below Q23.out hb18)
          have k1 : ((K : Int) != (K : Int)) = false := by simp
          clear e0 e1 e2 e3 e4 g0 g1 g2 g3 g4 hb18 hb17
          go_wp2_with fail
          go_roundw
          case rel => exact ⟨k + 1, by omega, by go_num, hbe⟩
          case measure => simp [intOf]; omega
        · obtain rfl : k = P := by omega
          have HSE := Lib.hid (HST.out.below hbz)
          have hbE := nxt hb12' hbz
          clear HLa HLb HST hb12' hbz
          go_wp2_with fail
          go_loopw [25] (fun vi wr => ∃ (s pl : Nat) (r : Option Nat), 1 ≤ s ∧ s ≤ N + 1 ∧ vi = .int .i64 (s : Int) ∧ pl ≤ 1 ∧ Hid (SeAt wr w.heap.size qt r (tk F K (max K (s - 1)) pl)) ∧ Below w.heap.size w wr) (fun i _ => 12 - (intOf i).toNat)
          case atStart => exact ⟨1, 0, rt, by omega, by omega, rfl, by omega, Lib.hid (by rw [show max K (1 - 1) = K by omega]; exact HSE.out), hbE⟩
          case round =>
            obtain ⟨s, pl3, r3, hs1, hsN, rfl, hpl3, HS3, hb3⟩ := hrel
            clear HSE hbE
            by_cases hlt : s ≤ N
            · have k1 : decide ((s : Int) ≤ (N : Int)) = true := decide_eq_true (by omega)
              go_wp2_with fail
              refine (packed_any 1 s 0 1 (s : Int) 0 rfl rfl rfl _ [] _ (Bs.nil _) (pkt1_ok (by omega) (by omega) (by omega) (by simp) (by simp))).mono ?_
              rintro ex w2 ⟨A2, c2, rfl, ho2, hs2, hb2⟩
              have hS2 := HS3.out.below hb2
              have hb2' := nxt hb3 hb2
              by_cases hsK : K < s
              · have htk := tk1 (F := F) (k := K) (a := max K (s - 1)) (i := s) (pl := pl3) hF (by omega) hpl3 true (decide_eq_true (by omega))
                rw [if_pos rfl] at htk
                have HR1 := Lib.hid (recvs_any hS2 _ _ hs2 (pkb_short (by simp)) hb2'.size htk)
                have HS2 := Lib.hid hS2
                have k2 : decide ((s : Int) > (K : Int)) = true := decide_eq_true (by omega)
                have k3 : decide ((K : Int) < (s : Int)) = true := decide_eq_true (by omega)
                have k4 : decide (K < s) = true := decide_eq_true hsK
                clear hS2 ho2 hs2 hb2 htk k1 HS3 hb3
                go_wp2_with fail
                refine HR1.out.mono ?_
                rintro ex w3 ⟨⟨A3, c3, rfl, hx3⟩, r4, hs3, hk3, hw3⟩
                rw [show ([] : List Nat).length = 0 from rfl] at hx3 ⊢
                have hb3 := hb2'.trans (HS2.out.belowOf hk3)
                have ho3 := (Below.refl w3.heap.size w3).alloc (Nat.le_refl _) (.cells #[.int .i64 (s : Int), .slice A3 0 c3] 27)
                have HS3 := Lib.hid (hs3.below ho3)
                have hb4 := hb3.alloc hb3.size (.cells #[.int .i64 (s : Int), .slice A3 0 c3] 27)
                clear hs3 hk3 hw3 ho3 hb3 hx3 HR1 HS2 hb2'
                go_wp2_with fail
                refine (accept_any HS3.out (s : Int) (by show max K (s - 1) < _; omega)).mono ?_
                rintro ex w5 ⟨rfl, hs5, hk5⟩
                have hb5 := hb4.trans (HS3.out.belowOf hk5)
                have hsc : (s : Int) = (((tk F K (max K (s - 1)) 1).acc : Nat) : Int) + 1 := by show (s : Int) = ((max K (s - 1) : Nat) : Int) + 1; omega
                have hst : (tk F K (max K (s - 1)) 1).accept (s : Int) = tk F K (max K (s + 1 - 1)) 1 := by
                  unfold Se.accept
                  rw [if_pos hsc]
                  unfold tk
                  simp
                  omega
                rw [if_pos hsc]
                rw [hst] at hs5
                have HS5 := Lib.hid hs5
                clear hs5 hk5 hsc hst HS3 hb4 k2 k3 k4
                go_wp2_with fail
                go_roundw
                case rel => exact ⟨s + 1, 1, r4, by omega, by omega, by go_num, by omega, HS5, hb5⟩
                case measure => simp [intOf]; omega
              · have htk := tk1 (F := F) (k := K) (a := max K (s - 1)) (i := s) (pl := pl3) hF (by omega) hpl3 false (decide_eq_false (by omega))
                rw [if_neg (by simp)] at htk
                have HR1 := Lib.hid (recvn_any hS2 _ _ hs2 (pkb_short (by simp)) hb2'.size htk)
                have HS2 := Lib.hid hS2
                have k2 : decide ((s : Int) > (K : Int)) = false := decide_eq_false (by omega)
                have k3 : decide ((K : Int) < (s : Int)) = false := decide_eq_false (by omega)
                have k4 : decide (K < s) = false := decide_eq_false hsK
                clear hS2 ho2 hs2 hb2 htk k1 HS3 hb3
                go_wp2_with fail
                refine HR1.out.mono ?_
                rintro ex w3 ⟨rfl, r4, hs3, hk3, hw3⟩
                rw [show (((0 : Nat)) : Int) = 0 from rfl]
                have hb3 := hb2'.trans (HS2.out.belowOf hk3)
                have ho3 := (Below.refl w3.heap.size w3).alloc (Nat.le_refl _) (.cells #[.int .i64 0, .slice none 0 0] 27)
                have HS3 := Lib.hid (hs3.below ho3)
                have hb4 := hb3.alloc hb3.size (.cells #[.int .i64 0, .slice none 0 0] 27)
                clear hs3 hk3 hw3 ho3 hb3 HR1 HS2 hb2'
                go_wp2_with fail
                go_roundw
                case rel => exact ⟨s + 1, 1, r4, by omega, by omega, by go_num, by omega, Lib.hid (by rw [show max K (s + 1 - 1) = max K (s - 1) by omega]; exact HS3.out), hb4⟩
                case measure => simp [intOf]; omega
            · obtain rfl : s = N + 1 := by omega
              have k1 : decide ((((N + 1 : Nat)) : Int) ≤ (N : Int)) = false := decide_eq_false (by omega)
              have k2 : decide ((N : Int) + 1 ≤ (N : Int)) = false := decide_eq_false (by omega)
              go_wp2_with fail
              refine (awake07_any _).mono ?_
              rintro ex u5 ⟨rfl, hb5⟩
              go_wp2_with fail
              go_ret
              exact ⟨rfl, nxt hb3 hb5⟩

set_option maxRecDepth 100000 in
theorem lifted (os : Os) (started : os.Started) (H : Type) (enc : TypeId × Value → H) :
    ReturnsInHanded {} Try.checked os 9 .any (Rows.sessionLinksSpec.pre6 enc Try.prog Try.f9 Rows.sessionLinksRow.domain false) (Rows.sessionLinksSpec.post enc Try.prog Try.f9 false true false false) := by
  refine returnsInHanded_of_change (C := Try.checked) knob_own started (by kernel_rfl) Try.func9
    (ChangeSpec.witness6 (enc := enc) (C := Try.checked) false ⟨#[], #[.slice none 0 0, .int .u8 0, .int .u8 0], []⟩ 8 (by kernel_rfl) (by kernel_rfl) (by kernel_rfl) (by kernel_rfl)) ?_
  intro W base args ds gs before hval0 hW hcnd _
  have hval : ∀ (j : Nat) t v, Try.f9.params[j]? = some t → args[j]? = some v → Value.okWide Try.prog W .any base t v := hval0
  have hW' := hW
  obtain ⟨p, q, hA0, hV, rfl, hfz, hnd⟩ := hW
  have hA : DataW.TrodAll enc Try.prog W 0 (fun _ => true) true Try.f9.params.toList args.toList ds p := hA0
  rw [Try.params9] at hA hval
  obtain ⟨v0, vs0, d0, ds0, p0, q0, hargs, rfl, rfl, h0, r0⟩ := trodAll_cons hA
  obtain ⟨v1, vs1, d1, ds1, p1, q1, rfl, rfl, rfl, h1, r1⟩ := trodAll_cons r0
  obtain ⟨v2, vs2, d2, ds2, p2, q2, rfl, rfl, rfl, h2, r2⟩ := trodAll_cons r1
  obtain ⟨rfl, rfl, rfl⟩ := trodAll_nil r2
  obtain rfl : args = #[v0, v1, v2] := by cases args; simp_all
  obtain ⟨rfl, rfl⟩ := trodVars_none hV
  obtain ⟨a0, n0, c0, rfl⟩ := okWide_slice Try.underlying48 (hval 0 48 v0 rfl rfl)
  have k0 := h0
  have lt0 : ∀ x ∈ p0, x.block < W.heap.size := by obtain ⟨m, hm⟩ := k0; exact DataW.trod_lt m _ _ _ hm
  have w0 := brows_open h0
  have lt1 : ∀ x ∈ p1, x.block < W.heap.size := by obtain ⟨m, hm⟩ := h1; exact DataW.trod_lt m _ _ _ hm
  have k1 := h1
  obtain ⟨a1, rfl, _, _, w1⟩ := open_int Try.underlying5 (hval 1 5 v1 rfl rfl) h1
  have lt2 : ∀ x ∈ p2, x.block < W.heap.size := by obtain ⟨m, hm⟩ := h2; exact DataW.trod_lt m _ _ _ hm
  have k2 := h2
  obtain ⟨a2, rfl, _, _, w2⟩ := open_int Try.underlying5 (hval 2 5 v2 rfl rfl) h2
  clear hA0 hval0
  refine (walk W a0 n0 c0 a1 a2 w0 w1 w2).mono fun e W' ⟨he, bel⟩ => ?_
  subst he
  exact ⟨_, rfl, _, _, _, [], _, [], hW', trodAll_mk1 (shut_bool Try.underlying4 _), (trodAll_cons_mk (Below.trod laid_out (by kernel_rfl) (of_decide_eq_true (by kernel_rfl)) k0 bel lt0) (trodAll_cons_mk (Below.trod laid_out (by kernel_rfl) (of_decide_eq_true (by kernel_rfl)) k1 bel lt1) (trodAll_cons_mk (Below.trod laid_out (by kernel_rfl) (of_decide_eq_true (by kernel_rfl)) k2 bel lt2) (trodAll_mk0)))), rfl, bel.frame _, fun h => by cases h⟩

theorem over : Rows.sessionLinksRow.holds Try.pinned (OpenSpec.ofChange Rows.sessionLinksSpec) :=
  OpenClaim.holds_of_wide 9 Try.f9 rfl rfl rfl rfl rfl rfl rfl ⟨rfl, rfl, rfl, rfl, rfl⟩ rfl rfl rfl rfl rfl (by kernel_rfl) Try.func9 (by kernel_rfl)
    (of_decide_eq_true (by kernel_rfl)) (by unfold Func.isWrapper; first | (rw [if_pos (by decide +kernel)]; kernel_rfl) | (rw [if_neg (by decide +kernel)]; exact ⟨rfl, rfl⟩))
    (fun os started H enc _ => lifted os started H enc)

theorem proved : Rows.SessionLinksSaid := over
end Go.Proofs.Ytmkpaippkajhmaa.sessionLinks
