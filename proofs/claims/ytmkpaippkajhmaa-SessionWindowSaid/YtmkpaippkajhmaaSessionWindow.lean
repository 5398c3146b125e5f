/- droverlaw07.SessionWindow returns true whatever its arguments: of what waits the first eight are sent, in order, till they are acknowledged. For every input, without conditions. -/
import Derived.Test.YtmkpaippkajhmaaRow
import Derived.Test.YtmkpaippkajhmaaBrw
import Derived.Test.YtmkpaippkajhmaaSm
import Derived.Test.YtmkpaippkajhmaaSp
import Derived.RegionTactic
import Derived.BigRegion
namespace Go.Proofs.Ytmkpaippkajhmaa.sessionWindow
open Go.ChangeShapes Go.WideShapes Go.ChangeAt Go.RowKit
set_option linter.unusedVariables false

/-- The session's states: F was sent, of which f are acknowledged. -/
def sW (F : List (List Nat)) (f pl : Nat) : Se := ⟨0, 1, 3, F.length, 0, 0, pl, F.drop f⟩
def kW (n : Nat) : Pk := ⟨1, 1, 0, n, []⟩
theorem kW_ok {n : Nat} (hn : n ≤ 1000) : pright (kW n) = true := pkt1_ok (by omega) (by omega) (by omega) (by simp) (fun _ => rfl)
theorem sW_first {F : List (List Nat)} {f pl : Nat} (hf : f ≤ F.length) : (sW F f pl).first = f := by
  unfold Se.first sW
  simp
  omega
theorem rw1 {F : List (List Nat)} {f pl n : Nat} (hf : f ≤ F.length) (hn : n ≤ F.length) (hF : F.length ≤ 40) (hp : pl ≤ 1) : (sW F f pl).recv (pkb (kW n)) = (sW F (max f n) 1, none, 0) := by
  rw [Se.recv_pkb _ (kW_ok (by omega))]
  unfold Se.recvK
  rw [if_neg (by simp [kW, sW]), if_neg (by simp [kW, sW]; omega), if_neg (by simp [kW, sW]; omega), sW_first hf]
  simp [kW, sW, List.drop_drop]
  congr 1
  omega
/-- What the k-th packet says. -/
theorem itW {F : List (List Nat)} {f pl k : Nat} {x : Nat × List Nat} (hf : f ≤ F.length) (hx : (sW F f pl).items[k]? = some x) : (F.length ≤ f + k ∧ x = (0, [])) ∨ (f + k < F.length ∧ x.1 = f + 1 + k ∧ F[f + k]? = some x.2) := by
  rcases Se.items_at hx with ⟨h1, h2, h3⟩ | ⟨h1, h2, h3⟩
  · left
    have : (F.drop f).length = 0 := by rw [show F.drop f = [] from h1]; rfl
    rw [List.length_drop] at this
    exact ⟨by omega, h3⟩
  · right
    rw [sW_first hf] at h2
    have h4 : F[f + k]? = some x.2 := by
      rw [show (sW F f pl).ds = F.drop f from rfl, List.getElem?_drop] at h3
      exact h3
    exact ⟨(List.getElem?_eq_some_iff.1 h4).1, h2, h4⟩
theorem okW {F : List (List Nat)} {f pl k : Nat} {x : Nat × List Nat} (hf : f ≤ F.length) (hF : F.length ≤ 40) (hs : ∀ d ∈ F, d.length ≤ 20) (hx : (sW F f pl).items[k]? = some x) : pright ((sW F f pl).pkt x.1 x.2) = true := by
  rcases itW hf hx with ⟨h1, rfl⟩ | ⟨h1, h2, h3⟩
  · exact pkt_ok (by simp [Se.pkt, sW]) (by simp [Se.pkt, sW]) (by simp [Se.pkt]) (by simp [Se.pkt, sW]) (by simp [Se.pkt]) (by simp [Se.pkt])
  · have h4 := hs _ (List.mem_of_getElem? h3)
    refine pkt_ok (by simp [Se.pkt, sW]) (by simp [Se.pkt, sW]) (by show x.1 ≤ _; omega) (by simp [Se.pkt, sW]) (by show x.2.length ≤ _; omega) (fun h => ?_)
    have : x.1 = 0 := h
    omega
/-- What stands in want. -/
def WantP (w : World) (G : Nat) (x : Nat × List Nat) : Prop := ∃ A c, w.heap[G]? = some (.cells #[.int .i64 0, .int .i64 3, .int .i64 (x.1 : Int), .int .i64 0, .slice A x.2.length c] 34 (0, 0)) ∧ Bx w 0 (.slice A x.2.length c) x.2

set_option maxRecDepth 100000 in
set_option maxHeartbeats 8000000 in
theorem walk (w : World) (a0 : Option Addr) (n0 c0 : Nat) (a1 : Option Addr) (n1 c1 : Nat) (w0 : ∃ ll : List (List Nat), BRows w a0 n0 c0 ll) (w1 : ∃ l : List Nat, l.length = n1 ∧ n1 ≤ c1 ∧ At w w.heap.size a1 (bv l) ∧ (∀ x ∈ l, x < 256)) :
    Calls Try.prog 6 #[.slice a0 n0 c0, .slice a1 n1 c1] w fun e w' => e = .returned (.bool true) ∧ Below w.heap.size w w' := by
  obtain ⟨ll, hrows⟩ := w0
  obtain ⟨l1, hl1, hc1, hat1, h81⟩ := w1
  have HA1 := Lib.hid hat1
  have HL1 := Lib.hid hl1
  have H81 := Lib.hid h81
  have hF := flt_len ll
  have hFs := flt_short ll
  have HR := Lib.hid hrows
  clear hrows hat1 hl1 h81
  go_enter Try.func6, Try.ntmps6
  go_wp2_with fail
  refine (filled_any 3 3 rfl (by omega) a0 n0 c0 ll w HR.out).mono ?_
  rintro e u1 ⟨q, r, A1, c1', rfl, hs1, hrb1, hb1⟩
  obtain ⟨F, hFF⟩ : ∃ F, Hid (F = flt ll) := ⟨_, Lib.hid rfl⟩
  rw [← hFF.out] at hs1 hrb1 hF hFs ⊢
  have HS1 : Hid (SeAt u1 w.heap.size q r (sW F 0 0)) := Lib.hid hs1
  have HRB1 := Lib.hid hrb1
  have HFs := Lib.hid hFs
  clear hs1 hrb1 hFs
  go_wp2_with fail
  go_loopw [8, 9] (fun vf vi wr => ∃ (j f pl : Nat) (r : Option Nat), j ≤ n1 + 1 ∧ j ≤ 21 ∧ vi = .int .i64 (j : Int) ∧ vf = .int .i64 (f : Int) ∧ f ≤ F.length ∧ pl ≤ 1 ∧ Hid (SeAt wr w.heap.size q r (sW F f pl)) ∧ Hid (RB wr w.heap.size (.slice A1 F.length c1') F) ∧ Below w.heap.size w wr) (fun _ i _ => 22 - (intOf i).toNat)
  case atStart => exact ⟨0, 0, 0, r, by omega, by omega, rfl, rfl, by omega, by omega, HS1, HRB1, hb1⟩
  case round =>
    obtain ⟨j, f, pl, rr, hj, hj21, rfl, rfl, hf, hpl, HS, HRB, hbr⟩ := hrel
    clear HS1 HRB1 hb1
    by_cases hlt : j ≤ n1
    · by_cases h20 : j ≤ 20
      · have k1 : decide ((j : Int) ≤ (n1 : Int)) = true := decide_eq_true (by omega)
        have k2 : decide ((j : Int) ≤ 20) = true := decide_eq_true (by omega)
        go_wp2_with fail
        refine (packets_any HS.out).mono ?_
        rintro e w2 ⟨v2, rfl, hl2, hb2⟩
        have HS2 := Lib.hid (HS.out.below hb2)
        have HRB2 := Lib.hid (HRB.out.below hb2)
        have hb2' := nxt hbr hb2
        have hbs := hbr.size
        replace hl2 := hl2.mono hbs
        rw [Se.packets_items] at hl2
        obtain ⟨A2, c2, rfl, hc2, hcm2⟩ := hl2.slice
        obtain ⟨m, hm⟩ : ∃ m, Hid (m = F.length - f) := ⟨_, Lib.hid rfl⟩
        obtain ⟨K, hK⟩ : ∃ K, Hid (K = max (min m 8) 1) := ⟨_, Lib.hid rfl⟩
        have hKl : ((sW F f pl).items.map fun x => pkb ((sW F f pl).pkt x.1 x.2)).length = K := by
          rw [List.length_map, Se.items_len, hK.out, hm.out]
          unfold sW
          simp
        rw [hKl] at hl2 hc2 ⊢
        have hKK := Lib.hid hKl
        have HLL2 := Lib.hid hl2
        clear hl2 hb2 HS HRB hbr k1 k2 hKl
        go_wp2_with fail
        refine (packets_any HS2.out).mono ?_
        rintro e w3 ⟨v3, rfl, hl3, hb3⟩
        rw [Se.packets_items] at hl3
        obtain ⟨A3, c3, rfl, hc3, hcm3⟩ := hl3.slice
        rw [hKK.out] at hl3 hc3 ⊢
        have HS3 := Lib.hid (HS2.out.below hb3)
        have HRB3 := Lib.hid (HRB2.out.below hb3)
        have hb3' := nxt hb2' hb3
        have HL3 := Lib.hid (HLL2.out.below hb3)
        have HM3 := Lib.hid hl3
        have hK9 : K ≤ 8 ∧ 1 ≤ K := by have := hK.out; omega
        clear hl3 hb3 hb2' HS2 HRB2 HLL2 hc2 hc3
        go_wp2_with fail
        refine (waiting_any HS3.out).mono ?_
        rintro e wx ⟨rfl, rfl⟩
        rw [show (((sW F f pl).ds.length : Nat) : Int) = (m : Int) by rw [hm.out]; unfold sW; simp]
        have t1 : ((F.length : Int) - (f : Int)) = (m : Int) := by have := hm.out; omega
        have t3 : ((m : Int) != (m : Int)) = false := by simp
        go_wp2_with fail
        refine (packets7_any A2 A3 K c2 c3 _ _ hKK.out (by omega) HL3.out.bat HM3.out.bat).mono ?_
        rintro e w4 ⟨rfl, hb4⟩
        have HS4 := Lib.hid (HS3.out.below hb4)
        have HRB4 := Lib.hid (HRB3.out.below hb4)
        have HL4 := Lib.hid (HL3.out.below hb4)
        have hb4' := nxt hb3' hb4
        clear HS3 HRB3 HL3 HM3 hb3' hb4 t3
        have t2 : max (min (m : Int) 8) 1 = (K : Int) := by have := hK.out; omega
        have t4 : ((K : Int) != (K : Int)) = false := by simp
        go_wp2_with fail
        clear t1 t2 t4
        have hx0 : Hid (∀ (k : Nat) (x : Nat × List Nat), (sW F f pl).items[k]? = some x → pright ((sW F f pl).pkt x.1 x.2) = true) := Lib.hid (fun k x hx => okW hf hF HFs.out hx)
        have hkl : Hid ((sW F f pl).items.length = K) := Lib.hid (by have := hKK.out; rwa [List.length_map] at this)
        go_loopw [12] (fun vk wz => ∃ k : Nat, k ≤ K ∧ vk = .int .i64 (k : Int) ∧ Below w4.heap.size w4 wz) (fun i _ => K - (intOf i).toNat)
        case atStart => exact ⟨0, by omega, rfl, Below.refl _ _⟩
        case round =>
          obtain ⟨k, hk, rfl, hbz⟩ := hrel
          by_cases hkK : k < K
          · have hki : k < (sW F f pl).items.length := by have := hkl.out; omega
            obtain ⟨x, hx⟩ : ∃ x, Hid ((sW F f pl).items[k]? = some x) := ⟨_, Lib.hid (List.getElem?_eq_getElem hki)⟩
            have hxm : (((sW F f pl).items.map fun x => pkb ((sW F f pl).pkt x.1 x.2)))[k]? = some (pkb ((sW F f pl).pkt x.1 x.2)) := by rw [List.getElem?_map, hx.out]; rfl
            obtain ⟨g2, Ax, cx, hA2, hg2, y0, hyx⟩ := (HL4.out.below hbz).cell hxm
            have HU := Lib.hid (unpk_any _ _ _ hyx.bs (hx0.out k x hx.out))
            have HG2 := Lib.hid hA2
            clear hki hxm hyx hA2
            have hA2' := HG2.out
            subst hA2'
            go_wp2_with fail
            refine HU.out.mono ?_
            rintro ex w5 ⟨A5, c5, rfl, hx5, hb5⟩
            rw [show ((((sW F f pl).pkt x.1 x.2).f : Nat) : Int) = 0 from rfl, show ((((sW F f pl).pkt x.1 x.2).l : Nat) : Int) = 3 from rfl, show ((((sW F f pl).pkt x.1 x.2).a : Nat) : Int) = 0 from rfl, show ((sW F f pl).pkt x.1 x.2).s = x.1 from rfl, show ((sW F f pl).pkt x.1 x.2).d = x.2 from rfl]
            rw [show ((sW F f pl).pkt x.1 x.2).d = x.2 from rfl] at hx5
            have ho5 := two w5 (.cells #[.int .i64 0, .int .i64 3, .int .i64 (x.1 : Int), .int .i64 0, .slice A5 x.2.length c5] 34) (.cells #[.int .i64 0, .int .i64 3, .int .i64 0, .int .i64 0, .slice none 0 0] 34)
            have q13 := heap_old (heap_new w5 (.cells #[.int .i64 0, .int .i64 3, .int .i64 (x.1 : Int), .int .i64 0, .slice A5 x.2.length c5] 34)) (.cells #[.int .i64 0, .int .i64 3, .int .i64 0, .int .i64 0, .slice none 0 0] 34)
            have q15 := heap_new' (w5.alloc (.cells #[.int .i64 0, .int .i64 3, .int .i64 (x.1 : Int), .int .i64 0, .slice A5 x.2.length c5] 34)) (.cells #[.int .i64 0, .int .i64 3, .int .i64 0, .int .i64 0, .slice none 0 0] 34) (w5.heap.size + 1) (by simp)
            obtain ⟨V, hV⟩ : ∃ V, V = (w5.alloc (.cells #[.int .i64 0, .int .i64 3, .int .i64 (x.1 : Int), .int .i64 0, .slice A5 x.2.length c5] 34)).alloc (.cells #[.int .i64 0, .int .i64 3, .int .i64 0, .int .i64 0, .slice none 0 0] 34) := ⟨_, rfl⟩
            obtain ⟨G, hG⟩ : ∃ G, G = w5.heap.size := ⟨_, rfl⟩
            clear y0
            go_upto_if 86 with (fail)
            rw [← hV] at ho5 q13 q15 ⊢
            rw [← hG] at q13 q15 ⊢
            have hbV : Below w4.heap.size w4 V := nxt (nxt hbz hb5) ho5
            have hG5 : w4.heap.size ≤ G := by rw [hG]; have := hbz.size; have := hb5.size; omega
            have HX5 := Lib.hid (hx5.below ho5)
            have Q13 := Lib.hid q13
            have Q15 := Lib.hid q15
            clear q13 q15 ho5 hb5 hV hx5 HU hbz hG
            go_cut [] (fun wx => Hid (WantP wx (G + 1) x) ∧ Hid (wx.heap[G]? = some (.cells #[.int .i64 0, .int .i64 3, .int .i64 (x.1 : Int), .int .i64 0, .slice A5 x.2.length c5] 34 (0, 0))) ∧ Hid (Bx wx 0 (.slice A5 x.2.length c5) x.2) ∧ Below w4.heap.size w4 wx)
            case first =>
              rcases itW hf hx.out with ⟨h1, rfl⟩ | ⟨h1, h2, h3⟩
              · have d1 : decide ((f : Int) + (k : Int) < (F.length : Int)) = false := decide_eq_false (by omega)
                go_wp2_with fail
                go_meet
                exact ⟨Lib.hid ⟨none, 0, Q15.out, Bx.nil⟩, Q13, HX5, hbV⟩
              · have d1 : decide ((f : Int) + (k : Int) < (F.length : Int)) = true := decide_eq_true (by omega)
                obtain ⟨g1, A7, c7, hA7, hg1, y7, hx7⟩ := (HRB4.out.below hbV).cell (i := f + k) h3
                obtain ⟨e0, e1, e2, e3, e4⟩ := box5f Q15.out
                have f2 := free_block Q15.out 2
                have f4 := free_block Q15.out 4
                have H2 := Lib.hid h2
                have HX7 := Lib.hid hx7
                have hn1 : g1 ≠ G + 1 := fun e => (HRB4.out.below hbV).ne Q15.out (by decide) (by rw [hA7, e]; rfl)
                have hn2 : G + 1 ≠ g1 := fun e => hn1 e.symm
                clear h2 h3 hx7
                subst hA7
                go_wp2_with fail
                go_region
                go_wp2_with fail
                have q16 := heap_set (heap_set Q15.out 2 (.int .i64 ((f : Int) + (k : Int) + 1))) 4 (.slice A7 x.2.length c7)
                have hk6 : Kp (G + 1) V ((V.setCell ⟨G + 1, 2, none⟩ (.int .i64 ((f : Int) + (k : Int) + 1))).setCell ⟨G + 1, 4, none⟩ (.slice A7 x.2.length c7)) := ((Kp.refl (G + 1) V).set rfl _).set rfl _
                have ex1 : ((x.1 : Nat) : Int) = (f : Int) + (k : Int) + 1 := by have := H2.out; omega
                have hb6 := (hbV.setCell (p := ⟨G + 1, 2, none⟩) (Nat.le_succ_of_le hG5) (.int .i64 ((f : Int) + (k : Int) + 1))).setCell (p := ⟨G + 1, 4, none⟩) (Nat.le_succ_of_le hG5) (.slice A7 x.2.length c7)
                go_meet
                refine ⟨Lib.hid ⟨A7, c7, ?_, HX7.out.kp hk6.drew Q15.out (by decide)⟩, Lib.hid (hk6.drew.heap Q13.out (by omega)), Lib.hid (HX5.out.kp hk6.drew Q15.out (by decide)), bel_drew' hb6⟩
                rw [ex1]
                exact q16
            case rest =>
            obtain ⟨HW1, HW2, HW3, hbc⟩ := hcut
            obtain ⟨A6, c6, q6, hx6⟩ := HW1.out
            obtain ⟨e0, e1, e2, e3, e4⟩ := box5f HW2.out
            obtain ⟨g0, g1, g2, g3, g4⟩ := box5f q6
            have HX6 := Lib.hid hx6
            clear q6 hx6 HW1
            go_wp2_with fail
            refine (samep_any 0 3 (x.1 : Int) 0 0 3 (x.1 : Int) 0 x.2 x.2 A5 A6 c5 c6 _ HW3.out.bs HX6.out.bs).mono ?_
            rintro ex w8 ⟨rfl, hb8⟩
            rw [show decide ((0 : Int) = 0 ∧ (3 : Int) = 3 ∧ (x.1 : Int) = (x.1 : Int) ∧ (0 : Int) = 0 ∧ x.2 = x.2) = true by simp]
            have hbe := nxt hbc hb8
            clear e0 e1 e2 e3 e4 g0 g1 g2 g3 g4 hb8 hbc
            go_wp2_with fail
            go_roundw
            case rel => exact ⟨k + 1, by omega, by go_num, hbe⟩
            case measure => simp [intOf]; omega
          · obtain rfl : k = K := by omega
            have hbE := nxt hb4' hbz
            have HSE := Lib.hid (HS4.out.below hbz)
            have HRBE := Lib.hid (HRB4.out.below hbz)
            clear hx0 hkl hbz HS4 HRB4 HL4 hb4' hKK hk
            by_cases hj1 : j < n1
            · by_cases hj2 : j < 20
              · have hjl : j < l1.length := by have := HL1.out; omega
                obtain ⟨b1, o1, hab1, hbl1, hcell1⟩ := HA1.out.byte (fun h => by rw [h] at hjl; simp at hjl)
                have t1 := (hbE.cell (p := ⟨b1, o1 + j, none⟩) hbl1).trans (hcell1 j hjl)
                have hY8 : l1.getD j 0 < 256 := H81.out _ (by rw [List.getD_eq_getElem?_getD, List.getElem?_eq_getElem hjl]; exact List.getElem_mem hjl)
                obtain ⟨Y, hY⟩ : ∃ Y, Hid (Y = l1.getD j 0) := ⟨_, Lib.hid rfl⟩
                rw [← hY.out] at t1 hY8
                clear hcell1 hjl
                subst hab1
                go_upto_region 23 with fail
                obtain ⟨M, hM, hMF⟩ : ∃ M : Nat, Hid ((Y : Int) % ((F.length : Int) + 1) = (M : Int)) ∧ M ≤ F.length := by
                  have hlt' := Nat.mod_lt Y (show 0 < F.length + 1 by omega)
                  refine ⟨Y % (F.length + 1), Lib.hid ?_, by omega⟩
                  have e1 : ((F.length : Int) + 1) = ((F.length + 1 : Nat) : Int) := by omega
                  rw [e1, ← Int.natCast_emod]
                rw [hM.out]
                clear t1 hM
                go_wp2_with fail
                refine (packed_any 1 0 M 1 0 _ rfl rfl rfl _ [] _ (Bs.nil _) (kW_ok (by omega))).mono ?_
                rintro ex x2 ⟨A2', c2', rfl, ho2, hs2, hb2⟩
                have hS2 := HSE.out.below hb2
                have hbF := nxt hbE hb2
                have HR1 := Lib.hid (recvn_any hS2 _ _ hs2 (pkb_short (by simp)) hbF.size (rw1 hf hMF hF hpl))
                have HS2 := Lib.hid hS2
                have HRBF := Lib.hid (HRBE.out.below hb2)
                clear hS2 ho2 hs2 hb2 HSE HRBE hbE
                go_wp2_with fail
                refine HR1.out.mono ?_
                rintro ex x3 ⟨rfl, r3, hs3, hk3, hw3⟩
                rw [show (((0 : Nat)) : Int) = 0 from rfl]
                have hb3 := hbF.trans (HS2.out.belowOf hk3)
                have hRB3 := HRBF.out.other HS2.out hk3
                have ho3 := (Below.refl x3.heap.size x3).alloc (Nat.le_refl _) (.cells #[.int .i64 0, .slice none 0 0] 27)
                have q3 := heap_new x3 (.cells #[.int .i64 0, .slice none 0 0] 27)
                have e0 := cell_block q3 0
                have e1 := cell_block q3 1
                have HS3 := Lib.hid (hs3.below ho3)
                have HRB3 := Lib.hid (hRB3.below ho3)
                have hb4 := hb3.alloc hb3.size (.cells #[.int .i64 0, .slice none 0 0] 27)
                clear hs3 hk3 hw3 hRB3 ho3 q3 hb3 HS2 HRBF hbF HR1
                go_wp2_with fail
                refine (sameitem_any 0 0 _ _ [] [] _ (Bs.nil _) (Bs.nil _) true (by simp)).mono ?_
                rintro ex x5 ⟨rfl, hb5⟩
                have HS5 := Lib.hid (HS3.out.below hb5)
                have HRB5 := Lib.hid (HRB3.out.below hb5)
                have hb6 := nxt hb4 hb5
                have hmx : max (f : Int) (M : Int) = ((max f M : Nat) : Int) := by omega
                clear e0 e1 HS3 HRB3 hb4 hb5
                go_wp2_with fail
                go_roundw
                case rel => exact ⟨j + 1, max f M, 1, r3, by omega, by omega, by go_num, by first | rfl | rw [hmx], by omega, by omega, HS5, HRB5, hb6⟩
                case measure => simp [intOf]; omega
              · have d1 : decide ((j : Int) < (n1 : Int)) = true := decide_eq_true (by omega)
                have d2 : decide ((j : Int) < 20) = false := decide_eq_false (by omega)
                go_wp2_with fail
                go_roundw
                case rel => exact ⟨j + 1, f, pl, rr, by omega, by omega, by go_num, rfl, hf, hpl, HSE, HRBE, hbE⟩
                case measure => simp [intOf]; omega
            · have d1 : decide ((j : Int) < (n1 : Int)) = false := decide_eq_false (by omega)
              go_wp2_with fail
              go_roundw
              case rel => exact ⟨j + 1, f, pl, rr, by omega, by omega, by go_num, rfl, hf, hpl, HSE, HRBE, hbE⟩
              case measure => simp [intOf]; omega
      · obtain rfl : j = 21 := by omega
        rw [show ((21 : Nat) : Int) = 21 from rfl]
        have k1 : decide ((21 : Int) ≤ (n1 : Int)) = true := decide_eq_true (by omega)
        clear h20
        go_wp2_with fail
        refine (awake07_any _).mono ?_
        rintro e u5 ⟨rfl, hb5⟩
        go_wp2_with fail
        go_ret
        exact ⟨rfl, nxt hbr hb5⟩
    · obtain rfl : j = n1 + 1 := by omega
      have k1 : decide ((((n1 + 1 : Nat)) : Int) ≤ (n1 : Int)) = false := decide_eq_false (by omega)
      have k2 : decide ((n1 : Int) + 1 ≤ (n1 : Int)) = false := decide_eq_false (by omega)
      go_wp2_with fail
      refine (awake07_any _).mono ?_
      rintro e u5 ⟨rfl, hb5⟩
      go_wp2_with fail
      go_ret
      exact ⟨rfl, nxt hbr hb5⟩

set_option maxRecDepth 100000 in
theorem lifted (os : Os) (started : os.Started) (H : Type) (enc : TypeId × Value → H) :
    ReturnsInHanded {} Try.checked os 6 .any (Rows.sessionWindowSpec.pre6 enc Try.prog Try.f6 Rows.sessionWindowRow.domain false) (Rows.sessionWindowSpec.post enc Try.prog Try.f6 false true false false) := by
  refine returnsInHanded_of_change (C := Try.checked) knob_own started (by kernel_rfl) Try.func6
    (ChangeSpec.witness6 (enc := enc) (C := Try.checked) false ⟨#[], #[.slice none 0 0, .slice none 0 0], []⟩ 8 (by kernel_rfl) (by kernel_rfl) (by kernel_rfl) (by kernel_rfl)) ?_
  intro W base args ds gs before hval0 hW hcnd _
  have hval : ∀ (j : Nat) t v, Try.f6.params[j]? = some t → args[j]? = some v → Value.okWide Try.prog W .any base t v := hval0
  have hW' := hW
  obtain ⟨p, q, hA0, hV, rfl, hfz, hnd⟩ := hW
  have hA : DataW.TrodAll enc Try.prog W 0 (fun _ => true) true Try.f6.params.toList args.toList ds p := hA0
  rw [Try.params6] at hA hval
  obtain ⟨v0, vs0, d0, ds0, p0, q0, hargs, rfl, rfl, h0, r0⟩ := trodAll_cons hA
  obtain ⟨v1, vs1, d1, ds1, p1, q1, rfl, rfl, rfl, h1, r1⟩ := trodAll_cons r0
  obtain ⟨rfl, rfl, rfl⟩ := trodAll_nil r1
  obtain rfl : args = #[v0, v1] := by cases args; simp_all
  obtain ⟨rfl, rfl⟩ := trodVars_none hV
  obtain ⟨a0, n0, c0, rfl⟩ := okWide_slice Try.underlying48 (hval 0 48 v0 rfl rfl)
  have k0 := h0
  have lt0 : ∀ x ∈ p0, x.block < W.heap.size := by obtain ⟨m, hm⟩ := k0; exact DataW.trod_lt m _ _ _ hm
  have w0 := brows_open h0
  obtain ⟨a1, n1, c1, rfl⟩ := okWide_slice Try.underlying25 (hval 1 25 v1 rfl rfl)
  have k1 := h1
  have lt1 : ∀ x ∈ p1, x.block < W.heap.size := by obtain ⟨m, hm⟩ := k1; exact DataW.trod_lt m _ _ _ hm
  have z1 : ∃ zs, Ints .u8 W a1 n1 c1 zs := by
    obtain ⟨fuel, hf⟩ := h1
    rcases open_ints Try.underlying25 Try.underlying5 (by kernel_rfl) hf with ⟨hcs, _⟩ | ⟨x, l, c, zs, hcs, _, hl, hm, hz, _, hcell, hwz⟩
    · simp [Value.cells] at hcs
      obtain ⟨rfl, rfl, rfl⟩ := hcs
      exact ⟨[], ints_nil _ _⟩
    · simp [Value.cells] at hcs
      obtain ⟨rfl, rfl, rfl⟩ := hcs
      exact ⟨_, ints_some .u8 W x _ _ zs hl hm (by simpa using hz) hcell hwz⟩
  have w1 := z1.elim fun _ h => h.bytes
  clear hA0 hval0
  refine (walk W a0 n0 c0 a1 n1 c1 w0 w1).mono fun e W' ⟨he, bel⟩ => ?_
  subst he
  exact ⟨_, rfl, _, _, _, [], _, [], hW', trodAll_mk1 (shut_bool Try.underlying4 _), (trodAll_cons_mk (Below.trod laid_out (by kernel_rfl) (of_decide_eq_true (by kernel_rfl)) k0 bel lt0) (trodAll_cons_mk (Below.trod laid_out (by kernel_rfl) (of_decide_eq_true (by kernel_rfl)) k1 bel lt1) (trodAll_mk0))), rfl, bel.frame _, fun h => by cases h⟩

theorem over : Rows.sessionWindowRow.holds Try.pinned (OpenSpec.ofChange Rows.sessionWindowSpec) :=
  OpenClaim.holds_of_wide 6 Try.f6 rfl rfl rfl rfl rfl rfl rfl ⟨rfl, rfl, rfl, rfl, rfl⟩ rfl rfl rfl rfl rfl (by kernel_rfl) Try.func6 (by kernel_rfl)
    (of_decide_eq_true (by kernel_rfl)) (by unfold Func.isWrapper; first | (rw [if_pos (by decide +kernel)]; kernel_rfl) | (rw [if_neg (by decide +kernel)]; exact ⟨rfl, rfl⟩))
    (fun os started H enc _ => lifted os started H enc)

theorem proved : Rows.SessionWindowSaid := over
end Go.Proofs.Ytmkpaippkajhmaa.sessionWindow
