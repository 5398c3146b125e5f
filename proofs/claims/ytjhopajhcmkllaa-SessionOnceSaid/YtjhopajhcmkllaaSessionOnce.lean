/- droverlaw07.SessionOnce returns true whatever its arguments: what one end has done is what the other one sent, in order, each once; and all is done at last. For every input, without conditions. -/
import Derived.Test.YtjhopajhcmkllaaRow
import Derived.Test.YtjhopajhcmkllaaBrw
import Derived.Test.YtjhopajhcmkllaaSm
import Derived.Test.YtjhopajhcmkllaaOij
namespace Go.Proofs.Ytjhopajhcmkllaa.sessionOnce
open Go.ChangeShapes Go.WideShapes Go.ChangeAt Go.RowKit
set_option linter.unusedVariables false



set_option maxRecDepth 100000 in
set_option maxHeartbeats 8000000 in
theorem walk (w : World) (a0 : Option Addr) (n0 c0 : Nat) (a1 : Option Addr) (n1 c1 : Nat) (w0 : ∃ zs : List Int, Ints .i64 w a0 n0 c0 zs) (w1 : ∃ ll : List (List Nat), BRows w a1 n1 c1 ll) :
    Calls Try.prog 4 #[.slice a0 n0 c0, .slice a1 n1 c1] w fun e w' => e = .returned (.bool true) ∧ Below w.heap.size w w' := by
  obtain ⟨zs, hz⟩ := w0
  obtain ⟨ll, hrows⟩ := w1
  have hzl := hz.len
  have HR := Lib.hid hrows
  have HZ : Hid (∀ w' : World, Below w.heap.size w w' → ∀ j, j < n0 → ∃ b o, a0 = some ⟨b, o, none⟩ ∧ w'.cell? ⟨b, o + j, none⟩ = some (.int .i64 (zs.getD j 0))) := by
    intro w' hb j hj
    obtain ⟨b, o, e, hlt, hc⟩ := ints_cell hz (by omega)
    exact ⟨b, o, e, (hb.cell (p := ⟨b, o + j, none⟩) hlt).trans (hc j hj)⟩
  clear hz hrows hzl
  go_enter Try.func4, Try.ntmps4
  go_wp2_with fail
  refine (new_any 2 w).mono ?_
  rintro e u1 (⟨h, -, -⟩ | ⟨N, hN, -, -, rfl, hn1, hb1⟩)
  · omega
  obtain rfl : N = 2 := by omega
  clear hN
  have hq0 := heap_new u1 (.cells #[.pointer none, .int .i64 0, .slice none 0 0, .slice none 0 0, .slice none 0 0, .pointer none, .int .i64 0, .slice none 0 0, .slice none 0 0, .slice none 0 0] 60)
  have hb0 := (Below.refl u1.heap.size u1).alloc (Nat.le_refl _) (.cells #[.pointer none, .int .i64 0, .slice none 0 0, .slice none 0 0, .slice none 0 0, .pointer none, .int .i64 0, .slice none 0 0, .slice none 0 0, .slice none 0 0] 60)
  obtain ⟨g, hg⟩ : ∃ g, g = u1.heap.size := ⟨_, rfl⟩
  obtain ⟨h, hh⟩ : ∃ h, h = w.heap.size := ⟨_, rfl⟩
  have hs1 := hb1.size
  have HF0 : Hid (FillI w h g (.int .i64 0) (u1.alloc (.cells #[.pointer none, .int .i64 0, .slice none 0 0, .slice none 0 0, .slice none 0 0, .pointer none, .int .i64 0, .slice none 0 0, .slice none 0 0, .slice none 0 0] 60))) := Lib.hid ⟨by rw [hh]; exact hn1.below hb0, hb1.trans (hb0.mono hs1), by omega, .inl ⟨rfl, by rw [hg]; exact hq0⟩⟩
  go_wp2_with fail
  rw [← hh, ← hg]
  clear hb0 hb1 hn1 hq0 hh hg hs1
  go_loopw [8] (fun i wr => Hid (FillI w h g i wr)) (fun i _ => 2 - (intOf i).toNat)
  case atStart => exact HF0
  case round =>
    have hrel' := hrel.out
    obtain ⟨hn, hb, hgl, ⟨rfl, hx⟩ | ⟨rfl, q, r, hs, hx⟩ | ⟨rfl, -⟩⟩ := hrel'
    · have HN := Lib.hid hn
      have HB := Lib.hid hb
      have HX := Lib.hid hx
      clear hn hb hrel hx HF0
      go_wp2_with fail
      refine (new0_any 0 1 1 _ _ _ rfl rfl rfl _ (by omega) (by omega) (by omega)).mono ?_
      rintro e w1 ⟨q1, r1, rfl, hs1', hb1⟩
      have HX1 := Lib.hid (heap_below HX.out hb1)
      have HS1 := Lib.hid hs1'
      have HB1 := Lib.hid hb1
      have y0 := cell_block HX1.out 0
      have z0 := free_block HX1.out 0
      have y1 := cell_block HX1.out 1
      have z1 := free_block HX1.out 1
      have y2 := cell_block HX1.out 2
      have z2 := free_block HX1.out 2
      have y3 := cell_block HX1.out 3
      have z3 := free_block HX1.out 3
      have y4 := cell_block HX1.out 4
      have z4 := free_block HX1.out 4
      clear hs1' hb1
      go_wp2_with fail
      go_roundw
      case rel => exact Lib.hid (FillI.one HN.out HB.out hgl HX1.out HS1.out HB1.out)
      case measure => decide
    · have HN := Lib.hid hn
      have HB := Lib.hid hb
      have HX := Lib.hid hx
      have HS := Lib.hid hs
      clear hn hb hrel hx HF0 hs
      go_wp2_with fail
      refine (new0_any 1 0 1 _ _ _ rfl rfl rfl _ (by omega) (by omega) (by omega)).mono ?_
      rintro e w1 ⟨q1, r1, rfl, hs1', hb1⟩
      have HX1 := Lib.hid (heap_below HX.out hb1)
      have HS1 := Lib.hid hs1'
      have HB1 := Lib.hid hb1
      have y0 := cell_block HX1.out 5
      have z0 := free_block HX1.out 5
      have y1 := cell_block HX1.out 6
      have z1 := free_block HX1.out 6
      have y2 := cell_block HX1.out 7
      have z2 := free_block HX1.out 7
      have y3 := cell_block HX1.out 8
      have z3 := free_block HX1.out 8
      have y4 := cell_block HX1.out 9
      have z4 := free_block HX1.out 9
      clear hs1' hb1
      go_wp2_with fail
      go_roundw
      case rel => exact Lib.hid (FillI.two HN.out HB.out hgl HS.out HX1.out HS1.out HB1.out)
      case measure => decide
    · have HI := Lib.hid hrel.out.done
      clear hrel HF0
      go_wp2_with fail
      go_loopw [11] (fun i wr => ∃ j : Nat, j ≤ n0 ∧ j ≤ 150 ∧ i = .int .i64 (j : Int) ∧ Hid (OnceI w.heap.size h g j w wr)) (fun i _ => 150 - (intOf i).toNat)
      case atStart => exact ⟨0, by omega, by omega, rfl, HI⟩
      case round =>
        obtain ⟨j, hj0, hj150, rfl, HJ⟩ := hrel
        clear HI
        by_cases hlt : j < n0 ∧ j < 150
        · obtain ⟨hlt0, hlt1⟩ := hlt
          have d1 : decide ((j : Int) < (n0 : Int)) = true := decide_eq_true (by omega)
          have d2 : decide ((j : Int) < 150) = true := decide_eq_true (by omega)
          have HLT := Lib.hid (And.intro hlt0 hlt1)
          obtain ⟨x0, y0, rn0, L0, -, hbr⟩ := id HJ.out
          obtain ⟨b', o', rfl, c1⟩ := HZ.out _ hbr j hlt0
          generalize zs.getD j 0 = z at *
          obtain ⟨a, ha⟩ : ∃ a : Nat, Hid (z % 1000003 = (a : Int) ∧ a < 1000003) := ⟨(z % 1000003).toNat, Lib.hid (by omega)⟩
          go_wp2_with fail
          refine (pick_any z 1000003 _ (by omega) (by omega)).mono ?_
          rintro e wx ⟨rfl, rfl⟩
          rw [ha.out.1]
          have q1 : (a : Int).tmod 2 = ((a % 2 : Nat) : Int) := by rw [Int.tmod_eq_emod_of_nonneg (by omega)]; omega
          have q2 : (a : Int).tdiv 2 = ((a / 2 : Nat) : Int) := by rw [Int.tdiv_eq_ediv_of_nonneg (by omega)]; omega
          have q3 : (a : Int).tdiv 16 = ((a / 16 : Nat) : Int) := by rw [Int.tdiv_eq_ediv_of_nonneg (by omega)]; omega
          have q4 : (((a / 2 : Nat) : Int)).tmod 8 = ((a / 2 % 8 : Nat) : Int) := by rw [Int.tmod_eq_emod_of_nonneg (by omega)]; omega
          obtain ⟨k, hk⟩ : ∃ k, Hid (a % 2 = k ∧ k ≤ 1) := ⟨a % 2, Lib.hid (by omega)⟩
          obtain ⟨sw, hsw⟩ : ∃ sw, Hid (a / 2 % 8 = sw ∧ sw ≤ 7) := ⟨a / 2 % 8, Lib.hid (by omega)⟩
          obtain ⟨rest, hrest⟩ : ∃ rest, Hid (a / 16 = rest ∧ rest ≤ 100000) := ⟨a / 16, Lib.hid (by have := ha.out.2; omega)⟩
          rw [hk.out.1] at q1
          rw [hsw.out.1] at q4
          rw [hrest.out.1] at q3
          have w3 : wrap64 (rest : Int) = (rest : Int) := IntWalk.wrap64_in _ ⟨by omega, by have := hrest.out.2; omega⟩
          have w2 : (wrap64 ((a : Int) / 2)).tmod 8 = (sw : Int) := by
            rw [IntWalk.wrap64_in _ ⟨by omega, by have := ha.out.2; omega⟩, Int.tmod_eq_emod_of_nonneg (by omega)]
            have := hsw.out.1
            omega
          clear c1 d1 d2
          have W2 := Lib.hid w2
          have W3 := Lib.hid w3
          clear w2 w3
          go_upto_block 4 with fail
          rw [W2.out, W3.out]
          clear W2 W3
          go_cut [15] (fun s wx => s = .bool true ∧ Hid (OnceI w.heap.size h g (j + 1) w wx))
          case first =>
            clear q1 q2 q3 q4
            have HJ150 := HLT.out.2
            rcases (show sw = 0 ∨ sw = 1 ∨ sw = 2 ∨ sw = 3 ∨ sw = 4 ∨ sw = 5 ∨ sw = 6 ∨ sw = 7 by have := hsw.out.2; omega) with rfl | rfl | rfl | rfl | rfl | rfl | rfl | rfl
            · rw [show (((0 : Nat)) : Int) = 0 from rfl]
              rcases (show k = 0 ∨ k = 1 by have := hk.out.2; omega) with rfl | rfl
              · as_aux_lemma =>
                rw [show (((0 : Nat)) : Int) = 0 from rfl]
                obtain ⟨x, y, rn, L, h2, hb2⟩ := HJ.out.at (k := 0) (by omega)
                have H2 := Lib.hid h2
                have HB2 := Lib.hid hb2
                clear h2 hb2
                have qb := heap_new wr (.cells #[.int .u8 (j : Int)] 5)
                have hk1 := Bs.made' wr #[.int .u8 (j : Int)] 5 [j] 1 wr.heap.size rfl rfl rfl (by simp; omega)
                have bb := (Below.refl wr.heap.size wr).alloc (Nat.le_refl _) (.cells #[.int .u8 (j : Int)] 5)
                obtain ⟨V, hV⟩ : ∃ V, V = wr.alloc (.cells #[.int .u8 (j : Int)] 5) := ⟨_, rfl⟩
                obtain ⟨G, hG⟩ : ∃ G, G = wr.heap.size := ⟨_, rfl⟩
                go_upto_region 20 with fail
                rw [← hV] at qb bb hk1 ⊢
                rw [← hG] at qb hk1 ⊢
                have HX1 := Lib.hid (Bx.of_blk7 (base := w.heap.size) hk1 qb)
                have HBB := Lib.hid bb
                have HBV := Lib.hid (HB2.out.trans (bb.mono HB2.out.size))
                clear hV hk1 qb bb hG
                go_cut [88] from 77 to 88 (fun s wx => wx = V ∧ ∃ bb : Bool, s = .bool bb ∧ Hid (bb = true → j < n1 ∧ ∃ b1 o1 A k, a1 = some ⟨b1, o1, none⟩ ∧ V.cell? ⟨b1, o1 + j, none⟩ = some (.slice A (ll.getD j []).length k) ∧ (ll.getD j []).length ≤ 20 ∧ Bx V w.heap.size (.slice A (ll.getD j []).length k) (ll.getD j [])))
                case first =>
                  by_cases hjn : j < n1
                  · obtain ⟨b1, o1, A, k, rfl, hlt1, hc1, hbx0⟩ := BRows.bx HR.out hjn
                    have hbx1 := Bx.below hbx0 HBV.out
                    have hc2 := (HBV.out.cell (p := ⟨b1, o1 + j, none⟩) hlt1).trans hc1
                    generalize ll.getD j [] = d at *
                    have hdl := hbx1.bs.parts.1
                    have HX2 := Lib.hid hbx1
                    have d1 : decide ((j : Int) < (n1 : Int)) = true := decide_eq_true (by omega)
                    obtain ⟨bb, hbb⟩ : ∃ bb, decide ((d.length : Int) ≤ 20) = bb := ⟨_, rfl⟩
                    have HBB2 := Lib.hid hbb
                    clear hc1 hbx0 hbx1 hdl
                    go_wp2_with fail
                    go_meet
                    refine ⟨rfl, bb, rfl, Lib.hid (fun hb => ⟨hjn, b1, o1, A, k, rfl, hc2, ?_, HX2.out⟩)⟩
                    have := of_decide_eq_true (HBB2.out.trans hb)
                    omega
                  · have d1 : decide ((j : Int) < (n1 : Int)) = false := decide_eq_false (by omega)
                    go_wp2_with fail
                    go_meet
                    exact ⟨rfl, false, rfl, Lib.hid (fun h => by cases h)⟩
                case rest =>
                  obtain ⟨rfl, bb, rfl, HBT⟩ := hcut
                  go_upto_if 88 with (fail)
                  go_cut [16] (fun s wx => Hid (CutB w.heap.size s wx) ∧ wx = wc)
                  case first =>
                    cases bb with
                    | false =>
                      go_wp2_with fail
                      go_meet
                      exact ⟨Lib.hid ⟨[j], by simp, by simp; omega, HX1.out⟩, rfl⟩
                    | true =>
                      obtain ⟨hjn, b1, o1, A, k, rfl, hc2, hdl, hbx⟩ := HBT.out rfl
                      generalize ll.getD j [] = d at *
                      have HX2 := Lib.hid hbx
                      have d1 : decide ((j : Int) < (n1 : Int)) = true := decide_eq_true (by omega)
                      clear hbx
                      go_wp2_with fail
                      go_meet
                      exact ⟨Lib.hid ⟨d, hdl, HX2.out.bs.parts.2.2.2, HX2.out⟩, rfl⟩
                  case rest =>
                    obtain ⟨HCB, rfl⟩ := hcut
                    obtain ⟨d, hd20, hd8, hbx⟩ := HCB.out
                    obtain ⟨⟨Ad, cd, rfl, -, -⟩, -⟩ := id hbx
                    have hB0 : w.heap.size ≤ wc.heap.size := HBV.out.size
                    have H3 := Lib.hid (H2.out.below HBB.out)
                    have HSN := Lib.hid (H3.out.sent (by have := HJ150; omega) hd20 hB0 hbx)
                    obtain ⟨t0, -, -, -, -⟩ := H3.out.A.cells
                    have u0 : wc.cell? ⟨g, 0, none⟩ = some (.pointer (some ⟨x.q, 0, none⟩)) := t0
                    have HBX := Lib.hid hbx
                    have HD := Lib.hid (And.intro hd20 hd8)
                    clear t0 hbx hd20 hd8
                    go_wp2_with fail
                    refine HSN.out.mono ?_
                    rintro e w1 ⟨⟨n, rfl⟩, x1, hs1⟩
                    obtain ⟨AS, cS, hvS, -, -⟩ := H3.out.A.a.rS.slice
                    obtain ⟨nS, hnS⟩ : ∃ nS, Hid (x.e.S.length = nS) := ⟨_, Lib.hid rfl⟩
                    rw [hnS.out] at hvS
                    obtain ⟨-, -, c2, -, -⟩ := hs1.A.cells
                    rw [hs1.vS, hvS] at c2
                    have HVS := Lib.hid hvS
                    have HS1 := Lib.hid hs1
                    clear hs1 hvS u0
                    have hbw1 : Bx w1 w.heap.size (.slice Ad d.length cd) d := Fr.bx H3.out.A HS1.out.F HBX.out
                    have HBS1 := Lib.hid (hbw1.bs)
                    have hgl1 : g < w1.heap.size := HS1.out.A.lt
                    clear hbw1
                    go_upto_region 24 with fail
                    go_region_law
                      (first
                        | (refine step_bapp (w := (w2.alloc (.cells #[.slice A2 d.length k2] 25))) (y := d) (v := .slice AS nS cS) (ll := x.e.S) rfl (.tmp 108) (.tmp 111) rfl rfl HRB2.out rfl (At.made w2 #[.slice A2 d.length k2] 25) HX2.out (by rw [hnS.out]; have := H2.out.s; have := hnS.out; omega) (by simp; omega) ?_
                           intro v3 w3 hv3 hg3 hr3
                           have hgb := hg3.block g HS2.out.A.lt (fun e => by obtain ⟨C, hC, _⟩ := HS2.out.A.X; exact HRB2.out.ne hC (by decide) e.symm)
                           obtain ⟨-, -, y3, -, -⟩ := HS2.out.A.cells
                           have z3 : w3.cell? ⟨g, 0 + 2, none⟩ = _ := (cell_heap (o := 0 + 2) hgb).trans y3
                           have f3 : w3.frozen? ⟨g, 0 + 2, none⟩ = false := by obtain ⟨C, hC, _⟩ := HS2.out.A.X; exact free_block (hgb.trans hC) _
                           rw [HS2.out.vS, HVS.out] at z3
                           obtain ⟨A3, k3, rfl, -, -⟩ := hv3.slice
                           rw [show (x.e.S ++ [d]).length = nS + 1 by rw [List.length_append, hnS.out]; rfl] at hv3 hr3 ⊢
                           have HV3 := Lib.hid hv3
                           have HG3 := Lib.hid hg3
                           have HR3 := Lib.hid hr3
                           clear hv3 hg3 hr3 hgb y3 y2)
                        | (go_simp
                           go_at_call 24
                           refine (copy_bs _ d _ HBS1.out.drew (by have := HD.out.1; omega)).mono ?_
                           rintro e w2 ⟨u2, rfl, ho2, hs2, hb2⟩
                           obtain ⟨A2, k2, rfl, -⟩ := ho2.form
                           have hb2' := of_drew hb2
                           have HS2 := Lib.hid ((HS1.out.below hb2').below ((Below.refl w2.heap.size w2).alloc (Nat.le_refl _) (.cells #[.slice A2 d.length k2] 25)))
                           have hrb2 := HS2.out.A.a.rS
                           rw [HS2.out.vS, HVS.out, show x1.e.S = x.e.S by rw [HS2.out.e]] at hrb2
                           have HRB2 := Lib.hid hrb2
                           have HX2 := Lib.hid (show Bx (w2.alloc (.cells #[.slice A2 d.length k2] 25)) 0 (.slice A2 d.length k2) d from Bx.below (Bx.of_own ho2 hs2.2) ((Below.refl w2.heap.size w2).alloc (Nat.le_refl _) (.cells #[.slice A2 d.length k2] 25)))
                           have y2 := (hb2.cell (p := ⟨g, 0 + 2, none⟩) hgl1).trans c2
                           have hsz2 := hb2'.size
                           have hgl2 : g < w2.heap.size := by omega
                           have hgn2 : g ≠ w2.heap.size := by omega
                           have hgn3 : w2.heap.size ≠ g := by omega
                           clear hs2 hb2 hrb2 ho2)
                        | (fail))
                    all_goals
                      go_wp2_with fail
                      go_meet
                      refine ⟨rfl, Lib.hid (Once.putS H3.out HBV.out HD.out HS2.out HV3.out ?_ ?_)⟩
                      · rw [HVS.out]; exact HG3.out
                      · rw [HVS.out]; exact HR3.out
              · as_aux_lemma =>
                rw [show (((1 : Nat)) : Int) = 1 from rfl]
                obtain ⟨x, y, rn, L, h2, hb2⟩ := HJ.out.at (k := 1) (by omega)
                have H2 := Lib.hid h2
                have HB2 := Lib.hid hb2
                clear h2 hb2
                have qb := heap_new wr (.cells #[.int .u8 (j : Int)] 5)
                have hk1 := Bs.made' wr #[.int .u8 (j : Int)] 5 [j] 1 wr.heap.size rfl rfl rfl (by simp; omega)
                have bb := (Below.refl wr.heap.size wr).alloc (Nat.le_refl _) (.cells #[.int .u8 (j : Int)] 5)
                obtain ⟨V, hV⟩ : ∃ V, V = wr.alloc (.cells #[.int .u8 (j : Int)] 5) := ⟨_, rfl⟩
                obtain ⟨G, hG⟩ : ∃ G, G = wr.heap.size := ⟨_, rfl⟩
                go_upto_region 20 with fail
                rw [← hV] at qb bb hk1 ⊢
                rw [← hG] at qb hk1 ⊢
                have HX1 := Lib.hid (Bx.of_blk7 (base := w.heap.size) hk1 qb)
                have HBB := Lib.hid bb
                have HBV := Lib.hid (HB2.out.trans (bb.mono HB2.out.size))
                clear hV hk1 qb bb hG
                go_cut [88] from 77 to 88 (fun s wx => wx = V ∧ ∃ bb : Bool, s = .bool bb ∧ Hid (bb = true → j < n1 ∧ ∃ b1 o1 A k, a1 = some ⟨b1, o1, none⟩ ∧ V.cell? ⟨b1, o1 + j, none⟩ = some (.slice A (ll.getD j []).length k) ∧ (ll.getD j []).length ≤ 20 ∧ Bx V w.heap.size (.slice A (ll.getD j []).length k) (ll.getD j [])))
                case first =>
                  by_cases hjn : j < n1
                  · obtain ⟨b1, o1, A, k, rfl, hlt1, hc1, hbx0⟩ := BRows.bx HR.out hjn
                    have hbx1 := Bx.below hbx0 HBV.out
                    have hc2 := (HBV.out.cell (p := ⟨b1, o1 + j, none⟩) hlt1).trans hc1
                    generalize ll.getD j [] = d at *
                    have hdl := hbx1.bs.parts.1
                    have HX2 := Lib.hid hbx1
                    have d1 : decide ((j : Int) < (n1 : Int)) = true := decide_eq_true (by omega)
                    obtain ⟨bb, hbb⟩ : ∃ bb, decide ((d.length : Int) ≤ 20) = bb := ⟨_, rfl⟩
                    have HBB2 := Lib.hid hbb
                    clear hc1 hbx0 hbx1 hdl
                    go_wp2_with fail
                    go_meet
                    refine ⟨rfl, bb, rfl, Lib.hid (fun hb => ⟨hjn, b1, o1, A, k, rfl, hc2, ?_, HX2.out⟩)⟩
                    have := of_decide_eq_true (HBB2.out.trans hb)
                    omega
                  · have d1 : decide ((j : Int) < (n1 : Int)) = false := decide_eq_false (by omega)
                    go_wp2_with fail
                    go_meet
                    exact ⟨rfl, false, rfl, Lib.hid (fun h => by cases h)⟩
                case rest =>
                  obtain ⟨rfl, bb, rfl, HBT⟩ := hcut
                  go_upto_if 88 with (fail)
                  go_cut [16] (fun s wx => Hid (CutB w.heap.size s wx) ∧ wx = wc)
                  case first =>
                    cases bb with
                    | false =>
                      go_wp2_with fail
                      go_meet
                      exact ⟨Lib.hid ⟨[j], by simp, by simp; omega, HX1.out⟩, rfl⟩
                    | true =>
                      obtain ⟨hjn, b1, o1, A, k, rfl, hc2, hdl, hbx⟩ := HBT.out rfl
                      generalize ll.getD j [] = d at *
                      have HX2 := Lib.hid hbx
                      have d1 : decide ((j : Int) < (n1 : Int)) = true := decide_eq_true (by omega)
                      clear hbx
                      go_wp2_with fail
                      go_meet
                      exact ⟨Lib.hid ⟨d, hdl, HX2.out.bs.parts.2.2.2, HX2.out⟩, rfl⟩
                  case rest =>
                    obtain ⟨HCB, rfl⟩ := hcut
                    obtain ⟨d, hd20, hd8, hbx⟩ := HCB.out
                    obtain ⟨⟨Ad, cd, rfl, -, -⟩, -⟩ := id hbx
                    have hB0 : w.heap.size ≤ wc.heap.size := HBV.out.size
                    have H3 := Lib.hid (H2.out.below HBB.out)
                    have HSN := Lib.hid (H3.out.sent (by have := HJ150; omega) hd20 hB0 hbx)
                    obtain ⟨t0, -, -, -, -⟩ := H3.out.A.cells
                    have u0 : wc.cell? ⟨g, 5, none⟩ = some (.pointer (some ⟨x.q, 0, none⟩)) := t0
                    have HBX := Lib.hid hbx
                    have HD := Lib.hid (And.intro hd20 hd8)
                    clear t0 hbx hd20 hd8
                    go_wp2_with fail
                    refine HSN.out.mono ?_
                    rintro e w1 ⟨⟨n, rfl⟩, x1, hs1⟩
                    obtain ⟨AS, cS, hvS, -, -⟩ := H3.out.A.a.rS.slice
                    obtain ⟨nS, hnS⟩ : ∃ nS, Hid (x.e.S.length = nS) := ⟨_, Lib.hid rfl⟩
                    rw [hnS.out] at hvS
                    obtain ⟨-, -, c2, -, -⟩ := hs1.A.cells
                    rw [hs1.vS, hvS] at c2
                    have HVS := Lib.hid hvS
                    have HS1 := Lib.hid hs1
                    clear hs1 hvS u0
                    have hbw1 : Bx w1 w.heap.size (.slice Ad d.length cd) d := Fr.bx H3.out.A HS1.out.F HBX.out
                    have HBS1 := Lib.hid (hbw1.bs)
                    have hgl1 : g < w1.heap.size := HS1.out.A.lt
                    clear hbw1
                    go_upto_region 24 with fail
                    go_region_law
                      (first
                        | (refine step_bapp (w := (w2.alloc (.cells #[.slice A2 d.length k2] 25))) (y := d) (v := .slice AS nS cS) (ll := x.e.S) rfl (.tmp 108) (.tmp 111) rfl rfl HRB2.out rfl (At.made w2 #[.slice A2 d.length k2] 25) HX2.out (by rw [hnS.out]; have := H2.out.s; have := hnS.out; omega) (by simp; omega) ?_
                           intro v3 w3 hv3 hg3 hr3
                           have hgb := hg3.block g HS2.out.A.lt (fun e => by obtain ⟨C, hC, _⟩ := HS2.out.A.X; exact HRB2.out.ne hC (by decide) e.symm)
                           obtain ⟨-, -, y3, -, -⟩ := HS2.out.A.cells
                           have z3 : w3.cell? ⟨g, 5 + 2, none⟩ = _ := (cell_heap (o := 5 + 2) hgb).trans y3
                           have f3 : w3.frozen? ⟨g, 5 + 2, none⟩ = false := by obtain ⟨C, hC, _⟩ := HS2.out.A.X; exact free_block (hgb.trans hC) _
                           rw [HS2.out.vS, HVS.out] at z3
                           obtain ⟨A3, k3, rfl, -, -⟩ := hv3.slice
                           rw [show (x.e.S ++ [d]).length = nS + 1 by rw [List.length_append, hnS.out]; rfl] at hv3 hr3 ⊢
                           have HV3 := Lib.hid hv3
                           have HG3 := Lib.hid hg3
                           have HR3 := Lib.hid hr3
                           clear hv3 hg3 hr3 hgb y3 y2)
                        | (go_simp
                           go_at_call 24
                           refine (copy_bs _ d _ HBS1.out.drew (by have := HD.out.1; omega)).mono ?_
                           rintro e w2 ⟨u2, rfl, ho2, hs2, hb2⟩
                           obtain ⟨A2, k2, rfl, -⟩ := ho2.form
                           have hb2' := of_drew hb2
                           have HS2 := Lib.hid ((HS1.out.below hb2').below ((Below.refl w2.heap.size w2).alloc (Nat.le_refl _) (.cells #[.slice A2 d.length k2] 25)))
                           have hrb2 := HS2.out.A.a.rS
                           rw [HS2.out.vS, HVS.out, show x1.e.S = x.e.S by rw [HS2.out.e]] at hrb2
                           have HRB2 := Lib.hid hrb2
                           have HX2 := Lib.hid (show Bx (w2.alloc (.cells #[.slice A2 d.length k2] 25)) 0 (.slice A2 d.length k2) d from Bx.below (Bx.of_own ho2 hs2.2) ((Below.refl w2.heap.size w2).alloc (Nat.le_refl _) (.cells #[.slice A2 d.length k2] 25)))
                           have y2 := (hb2.cell (p := ⟨g, 5 + 2, none⟩) hgl1).trans c2
                           have hsz2 := hb2'.size
                           have hgl2 : g < w2.heap.size := by omega
                           have hgn2 : g ≠ w2.heap.size := by omega
                           have hgn3 : w2.heap.size ≠ g := by omega
                           clear hs2 hb2 hrb2 ho2)
                        | (fail))
                    all_goals
                      go_wp2_with fail
                      go_meet
                      refine ⟨rfl, Lib.hid (Once.putS H3.out HBV.out HD.out HS2.out HV3.out ?_ ?_)⟩
                      · rw [HVS.out]; exact HG3.out
                      · rw [HVS.out]; exact HR3.out
            · rw [show (((1 : Nat)) : Int) = 1 from rfl]
              rcases (show k = 0 ∨ k = 1 by have := hk.out.2; omega) with rfl | rfl
              · as_aux_lemma =>
                rw [show (((0 : Nat)) : Int) = 0 from rfl]
                obtain ⟨x, y, rn, L, h2, hb2⟩ := HJ.out.at (k := 0) (by omega)
                have H2 := Lib.hid h2
                have HB2 := Lib.hid hb2
                clear h2 hb2
                have qb := heap_new wr (.cells #[.int .u8 (j : Int)] 5)
                have hk1 := Bs.made' wr #[.int .u8 (j : Int)] 5 [j] 1 wr.heap.size rfl rfl rfl (by simp; omega)
                have bb := (Below.refl wr.heap.size wr).alloc (Nat.le_refl _) (.cells #[.int .u8 (j : Int)] 5)
                obtain ⟨V, hV⟩ : ∃ V, V = wr.alloc (.cells #[.int .u8 (j : Int)] 5) := ⟨_, rfl⟩
                obtain ⟨G, hG⟩ : ∃ G, G = wr.heap.size := ⟨_, rfl⟩
                go_upto_region 20 with fail
                rw [← hV] at qb bb hk1 ⊢
                rw [← hG] at qb hk1 ⊢
                have HX1 := Lib.hid (Bx.of_blk7 (base := w.heap.size) hk1 qb)
                have HBB := Lib.hid bb
                have HBV := Lib.hid (HB2.out.trans (bb.mono HB2.out.size))
                clear hV hk1 qb bb hG
                go_cut [88] from 77 to 88 (fun s wx => wx = V ∧ ∃ bb : Bool, s = .bool bb ∧ Hid (bb = true → j < n1 ∧ ∃ b1 o1 A k, a1 = some ⟨b1, o1, none⟩ ∧ V.cell? ⟨b1, o1 + j, none⟩ = some (.slice A (ll.getD j []).length k) ∧ (ll.getD j []).length ≤ 20 ∧ Bx V w.heap.size (.slice A (ll.getD j []).length k) (ll.getD j [])))
                case first =>
                  by_cases hjn : j < n1
                  · obtain ⟨b1, o1, A, k, rfl, hlt1, hc1, hbx0⟩ := BRows.bx HR.out hjn
                    have hbx1 := Bx.below hbx0 HBV.out
                    have hc2 := (HBV.out.cell (p := ⟨b1, o1 + j, none⟩) hlt1).trans hc1
                    generalize ll.getD j [] = d at *
                    have hdl := hbx1.bs.parts.1
                    have HX2 := Lib.hid hbx1
                    have d1 : decide ((j : Int) < (n1 : Int)) = true := decide_eq_true (by omega)
                    obtain ⟨bb, hbb⟩ : ∃ bb, decide ((d.length : Int) ≤ 20) = bb := ⟨_, rfl⟩
                    have HBB2 := Lib.hid hbb
                    clear hc1 hbx0 hbx1 hdl
                    go_wp2_with fail
                    go_meet
                    refine ⟨rfl, bb, rfl, Lib.hid (fun hb => ⟨hjn, b1, o1, A, k, rfl, hc2, ?_, HX2.out⟩)⟩
                    have := of_decide_eq_true (HBB2.out.trans hb)
                    omega
                  · have d1 : decide ((j : Int) < (n1 : Int)) = false := decide_eq_false (by omega)
                    go_wp2_with fail
                    go_meet
                    exact ⟨rfl, false, rfl, Lib.hid (fun h => by cases h)⟩
                case rest =>
                  obtain ⟨rfl, bb, rfl, HBT⟩ := hcut
                  go_upto_if 88 with (fail)
                  go_cut [16] (fun s wx => Hid (CutB w.heap.size s wx) ∧ wx = wc)
                  case first =>
                    cases bb with
                    | false =>
                      go_wp2_with fail
                      go_meet
                      exact ⟨Lib.hid ⟨[j], by simp, by simp; omega, HX1.out⟩, rfl⟩
                    | true =>
                      obtain ⟨hjn, b1, o1, A, k, rfl, hc2, hdl, hbx⟩ := HBT.out rfl
                      generalize ll.getD j [] = d at *
                      have HX2 := Lib.hid hbx
                      have d1 : decide ((j : Int) < (n1 : Int)) = true := decide_eq_true (by omega)
                      clear hbx
                      go_wp2_with fail
                      go_meet
                      exact ⟨Lib.hid ⟨d, hdl, HX2.out.bs.parts.2.2.2, HX2.out⟩, rfl⟩
                  case rest =>
                    obtain ⟨HCB, rfl⟩ := hcut
                    obtain ⟨d, hd20, hd8, hbx⟩ := HCB.out
                    obtain ⟨⟨Ad, cd, rfl, -, -⟩, -⟩ := id hbx
                    have hB0 : w.heap.size ≤ wc.heap.size := HBV.out.size
                    have H3 := Lib.hid (H2.out.below HBB.out)
                    have HSN := Lib.hid (H3.out.sent (by have := HJ150; omega) hd20 hB0 hbx)
                    obtain ⟨t0, -, -, -, -⟩ := H3.out.A.cells
                    have u0 : wc.cell? ⟨g, 0, none⟩ = some (.pointer (some ⟨x.q, 0, none⟩)) := t0
                    have HBX := Lib.hid hbx
                    have HD := Lib.hid (And.intro hd20 hd8)
                    clear t0 hbx hd20 hd8
                    go_wp2_with fail
                    refine HSN.out.mono ?_
                    rintro e w1 ⟨⟨n, rfl⟩, x1, hs1⟩
                    obtain ⟨AS, cS, hvS, -, -⟩ := H3.out.A.a.rS.slice
                    obtain ⟨nS, hnS⟩ : ∃ nS, Hid (x.e.S.length = nS) := ⟨_, Lib.hid rfl⟩
                    rw [hnS.out] at hvS
                    obtain ⟨-, -, c2, -, -⟩ := hs1.A.cells
                    rw [hs1.vS, hvS] at c2
                    have HVS := Lib.hid hvS
                    have HS1 := Lib.hid hs1
                    clear hs1 hvS u0
                    have hbw1 : Bx w1 w.heap.size (.slice Ad d.length cd) d := Fr.bx H3.out.A HS1.out.F HBX.out
                    have HBS1 := Lib.hid (hbw1.bs)
                    have hgl1 : g < w1.heap.size := HS1.out.A.lt
                    clear hbw1
                    go_upto_region 24 with fail
                    go_region_law
                      (first
                        | (refine step_bapp (w := (w2.alloc (.cells #[.slice A2 d.length k2] 25))) (y := d) (v := .slice AS nS cS) (ll := x.e.S) rfl (.tmp 108) (.tmp 111) rfl rfl HRB2.out rfl (At.made w2 #[.slice A2 d.length k2] 25) HX2.out (by rw [hnS.out]; have := H2.out.s; have := hnS.out; omega) (by simp; omega) ?_
                           intro v3 w3 hv3 hg3 hr3
                           have hgb := hg3.block g HS2.out.A.lt (fun e => by obtain ⟨C, hC, _⟩ := HS2.out.A.X; exact HRB2.out.ne hC (by decide) e.symm)
                           obtain ⟨-, -, y3, -, -⟩ := HS2.out.A.cells
                           have z3 : w3.cell? ⟨g, 0 + 2, none⟩ = _ := (cell_heap (o := 0 + 2) hgb).trans y3
                           have f3 : w3.frozen? ⟨g, 0 + 2, none⟩ = false := by obtain ⟨C, hC, _⟩ := HS2.out.A.X; exact free_block (hgb.trans hC) _
                           rw [HS2.out.vS, HVS.out] at z3
                           obtain ⟨A3, k3, rfl, -, -⟩ := hv3.slice
                           rw [show (x.e.S ++ [d]).length = nS + 1 by rw [List.length_append, hnS.out]; rfl] at hv3 hr3 ⊢
                           have HV3 := Lib.hid hv3
                           have HG3 := Lib.hid hg3
                           have HR3 := Lib.hid hr3
                           clear hv3 hg3 hr3 hgb y3 y2)
                        | (go_simp
                           go_at_call 24
                           refine (copy_bs _ d _ HBS1.out.drew (by have := HD.out.1; omega)).mono ?_
                           rintro e w2 ⟨u2, rfl, ho2, hs2, hb2⟩
                           obtain ⟨A2, k2, rfl, -⟩ := ho2.form
                           have hb2' := of_drew hb2
                           have HS2 := Lib.hid ((HS1.out.below hb2').below ((Below.refl w2.heap.size w2).alloc (Nat.le_refl _) (.cells #[.slice A2 d.length k2] 25)))
                           have hrb2 := HS2.out.A.a.rS
                           rw [HS2.out.vS, HVS.out, show x1.e.S = x.e.S by rw [HS2.out.e]] at hrb2
                           have HRB2 := Lib.hid hrb2
                           have HX2 := Lib.hid (show Bx (w2.alloc (.cells #[.slice A2 d.length k2] 25)) 0 (.slice A2 d.length k2) d from Bx.below (Bx.of_own ho2 hs2.2) ((Below.refl w2.heap.size w2).alloc (Nat.le_refl _) (.cells #[.slice A2 d.length k2] 25)))
                           have y2 := (hb2.cell (p := ⟨g, 0 + 2, none⟩) hgl1).trans c2
                           have hsz2 := hb2'.size
                           have hgl2 : g < w2.heap.size := by omega
                           have hgn2 : g ≠ w2.heap.size := by omega
                           have hgn3 : w2.heap.size ≠ g := by omega
                           clear hs2 hb2 hrb2 ho2)
                        | (fail))
                    all_goals
                      go_wp2_with fail
                      go_meet
                      refine ⟨rfl, Lib.hid (Once.putS H3.out HBV.out HD.out HS2.out HV3.out ?_ ?_)⟩
                      · rw [HVS.out]; exact HG3.out
                      · rw [HVS.out]; exact HR3.out
              · as_aux_lemma =>
                rw [show (((1 : Nat)) : Int) = 1 from rfl]
                obtain ⟨x, y, rn, L, h2, hb2⟩ := HJ.out.at (k := 1) (by omega)
                have H2 := Lib.hid h2
                have HB2 := Lib.hid hb2
                clear h2 hb2
                have qb := heap_new wr (.cells #[.int .u8 (j : Int)] 5)
                have hk1 := Bs.made' wr #[.int .u8 (j : Int)] 5 [j] 1 wr.heap.size rfl rfl rfl (by simp; omega)
                have bb := (Below.refl wr.heap.size wr).alloc (Nat.le_refl _) (.cells #[.int .u8 (j : Int)] 5)
                obtain ⟨V, hV⟩ : ∃ V, V = wr.alloc (.cells #[.int .u8 (j : Int)] 5) := ⟨_, rfl⟩
                obtain ⟨G, hG⟩ : ∃ G, G = wr.heap.size := ⟨_, rfl⟩
                go_upto_region 20 with fail
                rw [← hV] at qb bb hk1 ⊢
                rw [← hG] at qb hk1 ⊢
                have HX1 := Lib.hid (Bx.of_blk7 (base := w.heap.size) hk1 qb)
                have HBB := Lib.hid bb
                have HBV := Lib.hid (HB2.out.trans (bb.mono HB2.out.size))
                clear hV hk1 qb bb hG
                go_cut [88] from 77 to 88 (fun s wx => wx = V ∧ ∃ bb : Bool, s = .bool bb ∧ Hid (bb = true → j < n1 ∧ ∃ b1 o1 A k, a1 = some ⟨b1, o1, none⟩ ∧ V.cell? ⟨b1, o1 + j, none⟩ = some (.slice A (ll.getD j []).length k) ∧ (ll.getD j []).length ≤ 20 ∧ Bx V w.heap.size (.slice A (ll.getD j []).length k) (ll.getD j [])))
                case first =>
                  by_cases hjn : j < n1
                  · obtain ⟨b1, o1, A, k, rfl, hlt1, hc1, hbx0⟩ := BRows.bx HR.out hjn
                    have hbx1 := Bx.below hbx0 HBV.out
                    have hc2 := (HBV.out.cell (p := ⟨b1, o1 + j, none⟩) hlt1).trans hc1
                    generalize ll.getD j [] = d at *
                    have hdl := hbx1.bs.parts.1
                    have HX2 := Lib.hid hbx1
                    have d1 : decide ((j : Int) < (n1 : Int)) = true := decide_eq_true (by omega)
                    obtain ⟨bb, hbb⟩ : ∃ bb, decide ((d.length : Int) ≤ 20) = bb := ⟨_, rfl⟩
                    have HBB2 := Lib.hid hbb
                    clear hc1 hbx0 hbx1 hdl
                    go_wp2_with fail
                    go_meet
                    refine ⟨rfl, bb, rfl, Lib.hid (fun hb => ⟨hjn, b1, o1, A, k, rfl, hc2, ?_, HX2.out⟩)⟩
                    have := of_decide_eq_true (HBB2.out.trans hb)
                    omega
                  · have d1 : decide ((j : Int) < (n1 : Int)) = false := decide_eq_false (by omega)
                    go_wp2_with fail
                    go_meet
                    exact ⟨rfl, false, rfl, Lib.hid (fun h => by cases h)⟩
                case rest =>
                  obtain ⟨rfl, bb, rfl, HBT⟩ := hcut
                  go_upto_if 88 with (fail)
                  go_cut [16] (fun s wx => Hid (CutB w.heap.size s wx) ∧ wx = wc)
                  case first =>
                    cases bb with
                    | false =>
                      go_wp2_with fail
                      go_meet
                      exact ⟨Lib.hid ⟨[j], by simp, by simp; omega, HX1.out⟩, rfl⟩
                    | true =>
                      obtain ⟨hjn, b1, o1, A, k, rfl, hc2, hdl, hbx⟩ := HBT.out rfl
                      generalize ll.getD j [] = d at *
                      have HX2 := Lib.hid hbx
                      have d1 : decide ((j : Int) < (n1 : Int)) = true := decide_eq_true (by omega)
                      clear hbx
                      go_wp2_with fail
                      go_meet
                      exact ⟨Lib.hid ⟨d, hdl, HX2.out.bs.parts.2.2.2, HX2.out⟩, rfl⟩
                  case rest =>
                    obtain ⟨HCB, rfl⟩ := hcut
                    obtain ⟨d, hd20, hd8, hbx⟩ := HCB.out
                    obtain ⟨⟨Ad, cd, rfl, -, -⟩, -⟩ := id hbx
                    have hB0 : w.heap.size ≤ wc.heap.size := HBV.out.size
                    have H3 := Lib.hid (H2.out.below HBB.out)
                    have HSN := Lib.hid (H3.out.sent (by have := HJ150; omega) hd20 hB0 hbx)
                    obtain ⟨t0, -, -, -, -⟩ := H3.out.A.cells
                    have u0 : wc.cell? ⟨g, 5, none⟩ = some (.pointer (some ⟨x.q, 0, none⟩)) := t0
                    have HBX := Lib.hid hbx
                    have HD := Lib.hid (And.intro hd20 hd8)
                    clear t0 hbx hd20 hd8
                    go_wp2_with fail
                    refine HSN.out.mono ?_
                    rintro e w1 ⟨⟨n, rfl⟩, x1, hs1⟩
                    obtain ⟨AS, cS, hvS, -, -⟩ := H3.out.A.a.rS.slice
                    obtain ⟨nS, hnS⟩ : ∃ nS, Hid (x.e.S.length = nS) := ⟨_, Lib.hid rfl⟩
                    rw [hnS.out] at hvS
                    obtain ⟨-, -, c2, -, -⟩ := hs1.A.cells
                    rw [hs1.vS, hvS] at c2
                    have HVS := Lib.hid hvS
                    have HS1 := Lib.hid hs1
                    clear hs1 hvS u0
                    have hbw1 : Bx w1 w.heap.size (.slice Ad d.length cd) d := Fr.bx H3.out.A HS1.out.F HBX.out
                    have HBS1 := Lib.hid (hbw1.bs)
                    have hgl1 : g < w1.heap.size := HS1.out.A.lt
                    clear hbw1
                    go_upto_region 24 with fail
                    go_region_law
                      (first
                        | (refine step_bapp (w := (w2.alloc (.cells #[.slice A2 d.length k2] 25))) (y := d) (v := .slice AS nS cS) (ll := x.e.S) rfl (.tmp 108) (.tmp 111) rfl rfl HRB2.out rfl (At.made w2 #[.slice A2 d.length k2] 25) HX2.out (by rw [hnS.out]; have := H2.out.s; have := hnS.out; omega) (by simp; omega) ?_
                           intro v3 w3 hv3 hg3 hr3
                           have hgb := hg3.block g HS2.out.A.lt (fun e => by obtain ⟨C, hC, _⟩ := HS2.out.A.X; exact HRB2.out.ne hC (by decide) e.symm)
                           obtain ⟨-, -, y3, -, -⟩ := HS2.out.A.cells
                           have z3 : w3.cell? ⟨g, 5 + 2, none⟩ = _ := (cell_heap (o := 5 + 2) hgb).trans y3
                           have f3 : w3.frozen? ⟨g, 5 + 2, none⟩ = false := by obtain ⟨C, hC, _⟩ := HS2.out.A.X; exact free_block (hgb.trans hC) _
                           rw [HS2.out.vS, HVS.out] at z3
                           obtain ⟨A3, k3, rfl, -, -⟩ := hv3.slice
                           rw [show (x.e.S ++ [d]).length = nS + 1 by rw [List.length_append, hnS.out]; rfl] at hv3 hr3 ⊢
                           have HV3 := Lib.hid hv3
                           have HG3 := Lib.hid hg3
                           have HR3 := Lib.hid hr3
                           clear hv3 hg3 hr3 hgb y3 y2)
                        | (go_simp
                           go_at_call 24
                           refine (copy_bs _ d _ HBS1.out.drew (by have := HD.out.1; omega)).mono ?_
                           rintro e w2 ⟨u2, rfl, ho2, hs2, hb2⟩
                           obtain ⟨A2, k2, rfl, -⟩ := ho2.form
                           have hb2' := of_drew hb2
                           have HS2 := Lib.hid ((HS1.out.below hb2').below ((Below.refl w2.heap.size w2).alloc (Nat.le_refl _) (.cells #[.slice A2 d.length k2] 25)))
                           have hrb2 := HS2.out.A.a.rS
                           rw [HS2.out.vS, HVS.out, show x1.e.S = x.e.S by rw [HS2.out.e]] at hrb2
                           have HRB2 := Lib.hid hrb2
                           have HX2 := Lib.hid (show Bx (w2.alloc (.cells #[.slice A2 d.length k2] 25)) 0 (.slice A2 d.length k2) d from Bx.below (Bx.of_own ho2 hs2.2) ((Below.refl w2.heap.size w2).alloc (Nat.le_refl _) (.cells #[.slice A2 d.length k2] 25)))
                           have y2 := (hb2.cell (p := ⟨g, 5 + 2, none⟩) hgl1).trans c2
                           have hsz2 := hb2'.size
                           have hgl2 : g < w2.heap.size := by omega
                           have hgn2 : g ≠ w2.heap.size := by omega
                           have hgn3 : w2.heap.size ≠ g := by omega
                           clear hs2 hb2 hrb2 ho2)
                        | (fail))
                    all_goals
                      go_wp2_with fail
                      go_meet
                      refine ⟨rfl, Lib.hid (Once.putS H3.out HBV.out HD.out HS2.out HV3.out ?_ ?_)⟩
                      · rw [HVS.out]; exact HG3.out
                      · rw [HVS.out]; exact HR3.out
            · rw [show (((2 : Nat)) : Int) = 2 from rfl]
              rcases (show k = 0 ∨ k = 1 by have := hk.out.2; omega) with rfl | rfl
              · as_aux_lemma =>
                rw [show (((0 : Nat)) : Int) = 0 from rfl]
                obtain ⟨x, y, rn, L, h2, hb2⟩ := HJ.out.at (k := 0) (by omega)
                obtain ⟨t0, -, -, -, -⟩ := h2.A.cells
                have u0 : wr.cell? ⟨g, 0, none⟩ = some (.pointer (some ⟨x.q, 0, none⟩)) := t0
                have H2 := Lib.hid h2
                have HB2 := Lib.hid hb2
                clear h2 hb2 t0
                go_wp2_with fail
                refine (packets_any H2.out.A.a.s).mono ?_
                rintro e w1 ⟨v, rfl, hv1, hb1⟩
                obtain ⟨A1, c1, rfl, -, -⟩ := hv1.slice
                have HS := Lib.hid (OnceJ.start H2.out HB2.out (Nat.le_refl _) hv1 hb1)
                obtain ⟨m, hm⟩ : ∃ m, Hid (x.e.p.packets.length = m) := ⟨_, Lib.hid rfl⟩
                have hmi : Hid (x.e.p.items.length = m) := Lib.hid (by have := hm.out; rwa [Se.packets_items, List.length_map] at this)
                have hm8 : m ≤ 9 := by have := hmi.out; have := Se.items_len x.e.p; omega
                rw [hm.out] at HS ⊢
                clear hv1 hb1 u0
                go_wp2_with fail
                go_loopw [123] (fun i wz => ∃ t : Nat, t ≤ m ∧ i = .int .i64 (t : Int) ∧ Hid (OnceJ w.heap.size h g j 0 x y (.slice A1 m c1) w wz)) (fun i _ => m - (intOf i).toNat)
                case atStart => exact ⟨0, by omega, rfl, HS⟩
                case round =>
                  obtain ⟨t, ht, rfl, hJ⟩ := hrel
                  by_cases htm : t < m
                  · obtain ⟨g2, Ax, l, cx, hA, hg2, hc2, htk⟩ := hJ.out.send (t := t) (by have := hmi.out; omega)
                    have HT := Lib.hid htk
                    have HTM := Lib.hid htm
                    clear htk
                    subst hA
                    go_wp2_with fail
                    refine HT.out.mono ?_
                    rintro e w2 ⟨⟨E1, rfl⟩, hJ2⟩
                    have HJ2 := Lib.hid hJ2
                    clear hJ2 hc2
                    go_wp2_with fail
                    go_roundw
                    case rel => exact ⟨t + 1, HTM.out, by have := HTM.out; go_num, HJ2⟩
                    case measure => have := HTM.out; simp [intOf]; omega
                  · obtain rfl : t = m := by omega
                    have HF := Lib.hid hJ.out.to.next
                    go_wp2_with fail
                    go_meet
                    exact ⟨rfl, HF⟩
              · as_aux_lemma =>
                rw [show (((1 : Nat)) : Int) = 1 from rfl]
                obtain ⟨x, y, rn, L, h2, hb2⟩ := HJ.out.at (k := 1) (by omega)
                obtain ⟨t0, -, -, -, -⟩ := h2.A.cells
                have u0 : wr.cell? ⟨g, 5, none⟩ = some (.pointer (some ⟨x.q, 0, none⟩)) := t0
                have H2 := Lib.hid h2
                have HB2 := Lib.hid hb2
                clear h2 hb2 t0
                go_wp2_with fail
                refine (packets_any H2.out.A.a.s).mono ?_
                rintro e w1 ⟨v, rfl, hv1, hb1⟩
                obtain ⟨A1, c1, rfl, -, -⟩ := hv1.slice
                have HS := Lib.hid (OnceJ.start H2.out HB2.out (Nat.le_refl _) hv1 hb1)
                obtain ⟨m, hm⟩ : ∃ m, Hid (x.e.p.packets.length = m) := ⟨_, Lib.hid rfl⟩
                have hmi : Hid (x.e.p.items.length = m) := Lib.hid (by have := hm.out; rwa [Se.packets_items, List.length_map] at this)
                have hm8 : m ≤ 9 := by have := hmi.out; have := Se.items_len x.e.p; omega
                rw [hm.out] at HS ⊢
                clear hv1 hb1 u0
                go_wp2_with fail
                go_loopw [123] (fun i wz => ∃ t : Nat, t ≤ m ∧ i = .int .i64 (t : Int) ∧ Hid (OnceJ w.heap.size h g j 5 x y (.slice A1 m c1) w wz)) (fun i _ => m - (intOf i).toNat)
                case atStart => exact ⟨0, by omega, rfl, HS⟩
                case round =>
                  obtain ⟨t, ht, rfl, hJ⟩ := hrel
                  by_cases htm : t < m
                  · obtain ⟨g2, Ax, l, cx, hA, hg2, hc2, htk⟩ := hJ.out.send (t := t) (by have := hmi.out; omega)
                    have HT := Lib.hid htk
                    have HTM := Lib.hid htm
                    clear htk
                    subst hA
                    go_wp2_with fail
                    refine HT.out.mono ?_
                    rintro e w2 ⟨⟨E1, rfl⟩, hJ2⟩
                    have HJ2 := Lib.hid hJ2
                    clear hJ2 hc2
                    go_wp2_with fail
                    go_roundw
                    case rel => exact ⟨t + 1, HTM.out, by have := HTM.out; go_num, HJ2⟩
                    case measure => have := HTM.out; simp [intOf]; omega
                  · obtain rfl : t = m := by omega
                    have HF := Lib.hid hJ.out.to.next
                    go_wp2_with fail
                    go_meet
                    exact ⟨rfl, HF⟩
            · as_aux_lemma =>
              rw [show (((3 : Nat)) : Int) = 3 from rfl]
              obtain ⟨x, y, rn, L, h2, hb2⟩ := id HJ.out
              have H2 := Lib.hid h2
              have HB2 := Lib.hid hb2
              obtain ⟨m, hm⟩ : ∃ m, Hid (L.length = m) := ⟨_, Lib.hid rfl⟩
              clear h2 hb2
              go_wp2_with fail
              refine (flying_any H2.out.N).mono ?_
              rintro e wx ⟨rfl, rfl⟩
              rw [hm.out]
              by_cases hm0 : 0 < m
              · have d1 : decide ((0 : Int) < (m : Int)) = true := decide_eq_true (by omega)
                have d3 : ((m : Int) == 0) = false := beq_eq_false_iff_ne.2 (by omega)
                have q5 : (rest : Int).tmod (m : Int) = ((rest % m : Nat) : Int) := by rw [Int.tmod_eq_emod_of_nonneg (by omega)]; exact (Int.natCast_emod _ _).symm
                have q6 : (rest : Int).tmod 5 = ((rest % 5 : Nat) : Int) := by rw [Int.tmod_eq_emod_of_nonneg (by omega)]; omega
                have HT := Lib.hid (H2.out.netTake HB2.out (by omega) (Nat.le_refl _) (rest % m) (by rw [hm.out]; exact Nat.mod_lt _ hm0))
                go_wp2_with fail
                refine (flying_any H2.out.N).mono ?_
                rintro e wx ⟨rfl, rfl⟩
                rw [hm.out]
                go_wp2_with fail
                rw [show ((rest : Int) % (m : Int)) = ((rest % m : Nat) : Int) from (Int.natCast_emod _ _).symm]
                refine HT.out.mono ?_
                rintro e w1 ⟨fr, kk, l, A, c, hkk, rfl, htk⟩
                have HTK := Lib.hid htk
                clear htk d1 d3 q5
                rcases (show kk = 0 ∨ kk = 1 by omega) with rfl | rfl
                · rw [show (((0 : Nat)) : Int) = 0 from rfl]
                  have q7 := heap_new w1 (.cells #[.int .i64 fr, .int .i64 0, .slice A l c] 65)
                  have b7 := (Below.refl w1.heap.size w1).alloc (Nat.le_refl _) (.cells #[.int .i64 fr, .int .i64 0, .slice A l c] 65)
                  obtain ⟨V, hV⟩ : ∃ V, V = w1.alloc (.cells #[.int .i64 fr, .int .i64 0, .slice A l c] 65) := ⟨_, rfl⟩
                  obtain ⟨G, hG⟩ : ∃ G, G = w1.heap.size := ⟨_, rfl⟩
                  go_upto_region 35 with fail
                  rw [← hV] at q7 b7 ⊢
                  rw [← hG] at q7 ⊢
                  have HTV := Lib.hid (fun acc => HTK.out _ b7.drew acc)
                  have y1 := cell_block q7 1
                  have y2 := cell_block q7 2
                  have Q7 := Lib.hid q7
                  clear hV hG q7 b7
                  go_region_held3 (fun w' => w'.cell? ⟨G, 1, none⟩ = some (.int .i64 0) ∧ w'.cell? ⟨G, 2, none⟩ = some (.slice A l c)) (go_keep)
                    (first
                      | (go_at_call 28
                         refine (HTV.out _).mono ?_
                         rintro e w2 ⟨rfl, h3, hk3⟩
                         have q8 := (hk3 G _ Q7.out).trans Q7.out
                         have y3 := cell_block q8 1
                         have y4 := cell_block q8 2
                         have H3 := Lib.hid h3.next
                         clear h3 hk3 q8)
                      | (fail))
                  all_goals
                    clear y1 y2 y3 y4
                    go_wp2_with fail
                    go_meet
                    exact ⟨rfl, H3⟩
                · rw [show (((1 : Nat)) : Int) = 1 from rfl]
                  have q7 := heap_new w1 (.cells #[.int .i64 fr, .int .i64 1, .slice A l c] 65)
                  have b7 := (Below.refl w1.heap.size w1).alloc (Nat.le_refl _) (.cells #[.int .i64 fr, .int .i64 1, .slice A l c] 65)
                  obtain ⟨V, hV⟩ : ∃ V, V = w1.alloc (.cells #[.int .i64 fr, .int .i64 1, .slice A l c] 65) := ⟨_, rfl⟩
                  obtain ⟨G, hG⟩ : ∃ G, G = w1.heap.size := ⟨_, rfl⟩
                  go_upto_region 35 with fail
                  rw [← hV] at q7 b7 ⊢
                  rw [← hG] at q7 ⊢
                  have HTV := Lib.hid (fun acc => HTK.out _ b7.drew acc)
                  have y1 := cell_block q7 1
                  have y2 := cell_block q7 2
                  have Q7 := Lib.hid q7
                  clear hV hG q7 b7
                  go_region_held3 (fun w' => w'.cell? ⟨G, 1, none⟩ = some (.int .i64 1) ∧ w'.cell? ⟨G, 2, none⟩ = some (.slice A l c)) (go_keep)
                    (first
                      | (go_at_call 28
                         refine (HTV.out _).mono ?_
                         rintro e w2 ⟨rfl, h3, hk3⟩
                         have q8 := (hk3 G _ Q7.out).trans Q7.out
                         have y3 := cell_block q8 1
                         have y4 := cell_block q8 2
                         have H3 := Lib.hid h3.next
                         clear h3 hk3 q8)
                      | (fail))
                  all_goals
                    clear y1 y2 y3 y4
                    go_wp2_with fail
                    go_meet
                    exact ⟨rfl, H3⟩
              · have d1 : decide ((0 : Int) < (m : Int)) = false := decide_eq_false (by omega)
                go_wp2_with fail
                go_meet
                exact ⟨rfl, Lib.hid HJ.out.next⟩
            · as_aux_lemma =>
              rw [show (((4 : Nat)) : Int) = 4 from rfl]
              obtain ⟨x, y, rn, L, h2, hb2⟩ := id HJ.out
              have H2 := Lib.hid h2
              have HB2 := Lib.hid hb2
              obtain ⟨m, hm⟩ : ∃ m, Hid (L.length = m) := ⟨_, Lib.hid rfl⟩
              clear h2 hb2
              go_wp2_with fail
              refine (flying_any H2.out.N).mono ?_
              rintro e wx ⟨rfl, rfl⟩
              rw [hm.out]
              by_cases hm0 : 0 < m
              · have d1 : decide ((0 : Int) < (m : Int)) = true := decide_eq_true (by omega)
                have d3 : ((m : Int) == 0) = false := beq_eq_false_iff_ne.2 (by omega)
                have q5 : (rest : Int).tmod (m : Int) = ((rest % m : Nat) : Int) := by rw [Int.tmod_eq_emod_of_nonneg (by omega)]; exact (Int.natCast_emod _ _).symm
                have q6 : (rest : Int).tmod 5 = ((rest % 5 : Nat) : Int) := by rw [Int.tmod_eq_emod_of_nonneg (by omega)]; omega
                have HT := Lib.hid (H2.out.netTake HB2.out (by omega) (Nat.le_refl _) (rest % m) (by rw [hm.out]; exact Nat.mod_lt _ hm0))
                go_wp2_with fail
                refine (flying_any H2.out.N).mono ?_
                rintro e wx ⟨rfl, rfl⟩
                rw [hm.out]
                go_wp2_with fail
                rw [show ((rest : Int) % (m : Int)) = ((rest % m : Nat) : Int) from (Int.natCast_emod _ _).symm]
                refine HT.out.mono ?_
                rintro e w1 ⟨fr, kk, l, A, c, hkk, rfl, htk⟩
                have HTK := Lib.hid htk
                clear htk d1 d3 q5
                rcases (show kk = 0 ∨ kk = 1 by omega) with rfl | rfl
                · rw [show (((0 : Nat)) : Int) = 0 from rfl]
                  have q7 := heap_new w1 (.cells #[.int .i64 fr, .int .i64 0, .slice A l c] 65)
                  have b7 := (Below.refl w1.heap.size w1).alloc (Nat.le_refl _) (.cells #[.int .i64 fr, .int .i64 0, .slice A l c] 65)
                  obtain ⟨V, hV⟩ : ∃ V, V = w1.alloc (.cells #[.int .i64 fr, .int .i64 0, .slice A l c] 65) := ⟨_, rfl⟩
                  obtain ⟨G, hG⟩ : ∃ G, G = w1.heap.size := ⟨_, rfl⟩
                  go_upto_region 35 with fail
                  rw [← hV] at q7 b7 ⊢
                  rw [← hG] at q7 ⊢
                  have HTV := Lib.hid (fun acc => HTK.out _ b7.drew acc)
                  have y1 := cell_block q7 1
                  have y2 := cell_block q7 2
                  have Q7 := Lib.hid q7
                  clear hV hG q7 b7
                  go_region_held3 (fun w' => w'.cell? ⟨G, 1, none⟩ = some (.int .i64 0) ∧ w'.cell? ⟨G, 2, none⟩ = some (.slice A l c)) (go_keep)
                    (first
                      | (go_at_call 28
                         refine (HTV.out _).mono ?_
                         rintro e w2 ⟨rfl, h3, hk3⟩
                         have q8 := (hk3 G _ Q7.out).trans Q7.out
                         have y3 := cell_block q8 1
                         have y4 := cell_block q8 2
                         have H3 := Lib.hid h3.next
                         clear h3 hk3 q8)
                      | (fail))
                  all_goals
                    clear y1 y2 y3 y4
                    go_wp2_with fail
                    go_meet
                    exact ⟨rfl, H3⟩
                · rw [show (((1 : Nat)) : Int) = 1 from rfl]
                  have q7 := heap_new w1 (.cells #[.int .i64 fr, .int .i64 1, .slice A l c] 65)
                  have b7 := (Below.refl w1.heap.size w1).alloc (Nat.le_refl _) (.cells #[.int .i64 fr, .int .i64 1, .slice A l c] 65)
                  obtain ⟨V, hV⟩ : ∃ V, V = w1.alloc (.cells #[.int .i64 fr, .int .i64 1, .slice A l c] 65) := ⟨_, rfl⟩
                  obtain ⟨G, hG⟩ : ∃ G, G = w1.heap.size := ⟨_, rfl⟩
                  go_upto_region 35 with fail
                  rw [← hV] at q7 b7 ⊢
                  rw [← hG] at q7 ⊢
                  have HTV := Lib.hid (fun acc => HTK.out _ b7.drew acc)
                  have y1 := cell_block q7 1
                  have y2 := cell_block q7 2
                  have Q7 := Lib.hid q7
                  clear hV hG q7 b7
                  go_region_held3 (fun w' => w'.cell? ⟨G, 1, none⟩ = some (.int .i64 1) ∧ w'.cell? ⟨G, 2, none⟩ = some (.slice A l c)) (go_keep)
                    (first
                      | (go_at_call 28
                         refine (HTV.out _).mono ?_
                         rintro e w2 ⟨rfl, h3, hk3⟩
                         have q8 := (hk3 G _ Q7.out).trans Q7.out
                         have y3 := cell_block q8 1
                         have y4 := cell_block q8 2
                         have H3 := Lib.hid h3.next
                         clear h3 hk3 q8)
                      | (fail))
                  all_goals
                    clear y1 y2 y3 y4
                    go_wp2_with fail
                    go_meet
                    exact ⟨rfl, H3⟩
              · have d1 : decide ((0 : Int) < (m : Int)) = false := decide_eq_false (by omega)
                go_wp2_with fail
                go_meet
                exact ⟨rfl, Lib.hid HJ.out.next⟩
            · as_aux_lemma =>
              rw [show (((5 : Nat)) : Int) = 5 from rfl]
              obtain ⟨x, y, rn, L, h2, hb2⟩ := id HJ.out
              have H2 := Lib.hid h2
              have HB2 := Lib.hid hb2
              obtain ⟨m, hm⟩ : ∃ m, Hid (L.length = m) := ⟨_, Lib.hid rfl⟩
              clear h2 hb2
              go_wp2_with fail
              refine (flying_any H2.out.N).mono ?_
              rintro e wx ⟨rfl, rfl⟩
              rw [hm.out]
              by_cases hm0 : 0 < m
              · have d1 : decide ((0 : Int) < (m : Int)) = true := decide_eq_true (by omega)
                have d3 : ((m : Int) == 0) = false := beq_eq_false_iff_ne.2 (by omega)
                go_wp2_with fail
                refine (flying_any H2.out.N).mono ?_
                rintro e wx ⟨rfl, rfl⟩
                rw [hm.out]
                go_wp2_with fail
                refine (H2.out.netCopy _).mono ?_
                rintro e w1 ⟨⟨E1, rfl⟩, rn1, L1, hl1, h3, hb3⟩
                have H3 := Lib.hid h3
                have HB3 := Lib.hid (HB2.out.trans hb3)
                obtain ⟨m1, hm1⟩ : ∃ m, Hid (L1.length = m) := ⟨_, Lib.hid rfl⟩
                have hm1p : 0 < m1 := by have := hm1.out; have := hm.out; omega
                have d4 : ((m1 : Int) == 0) = false := beq_eq_false_iff_ne.2 (by have := hm1.out; have := hm.out; omega)
                clear h3 hb3 hl1 d1 d3
                go_wp2_with fail
                refine (flying_any H3.out.N).mono ?_
                rintro e wx ⟨rfl, rfl⟩
                rw [hm1.out]
                go_wp2_with fail
                refine (H3.out.netDrop HB3.out _).mono ?_
                rintro e w2 ⟨⟨b1, rfl⟩, h4⟩
                have H4 := Lib.hid h4.next
                clear h4 d4
                go_wp2_with fail
                go_meet
                exact ⟨rfl, H4⟩
              · have d1 : decide ((0 : Int) < (m : Int)) = false := decide_eq_false (by omega)
                go_wp2_with fail
                go_meet
                exact ⟨rfl, Lib.hid HJ.out.next⟩
            · rw [show (((6 : Nat)) : Int) = 6 from rfl]
              rcases (show k = 0 ∨ k = 1 by have := hk.out.2; omega) with rfl | rfl
              · as_aux_lemma =>
                rw [show (((0 : Nat)) : Int) = 0 from rfl]
                go_wp2_with fail
                refine (HJ.out.finish (k := 0) (by omega) (by omega) (Nat.le_refl _)).mono ?_
                rintro e w2 ⟨rfl, h2⟩
                have H2 := Lib.hid h2.next
                clear h2
                go_wp2_with fail
                go_meet
                exact ⟨rfl, H2⟩
              · as_aux_lemma =>
                rw [show (((1 : Nat)) : Int) = 1 from rfl]
                go_wp2_with fail
                refine (HJ.out.finish (k := 1) (by omega) (by omega) (Nat.le_refl _)).mono ?_
                rintro e w2 ⟨rfl, h2⟩
                have H2 := Lib.hid h2.next
                clear h2
                go_wp2_with fail
                go_meet
                exact ⟨rfl, H2⟩
            · rw [show (((7 : Nat)) : Int) = 7 from rfl]
              rcases (show k = 0 ∨ k = 1 by have := hk.out.2; omega) with rfl | rfl
              · as_aux_lemma =>
                rw [show (((0 : Nat)) : Int) = 0 from rfl]
                have q5 : (rest : Int).tmod 2 = ((rest % 2 : Nat) : Int) := by rw [Int.tmod_eq_emod_of_nonneg (by omega)]; omega
                rcases (show rest % 2 = 0 ∨ rest % 2 = 1 by omega) with hr | hr
                · rw [hr] at q5
                  go_wp2_with fail
                  go_meet
                  exact ⟨rfl, Lib.hid HJ.out.next⟩
                · rw [hr] at q5
                  go_wp2_with fail
                  refine (HJ.out.again (k := 0) (by omega) (by omega) (Nat.le_refl _)).mono ?_
                  rintro e w2 ⟨rfl, h2⟩
                  have H2 := Lib.hid h2
                  clear h2
                  go_wp2_with fail
                  go_meet
                  exact ⟨rfl, H2⟩
              · as_aux_lemma =>
                rw [show (((1 : Nat)) : Int) = 1 from rfl]
                have q5 : (rest : Int).tmod 2 = ((rest % 2 : Nat) : Int) := by rw [Int.tmod_eq_emod_of_nonneg (by omega)]; omega
                rcases (show rest % 2 = 0 ∨ rest % 2 = 1 by omega) with hr | hr
                · rw [hr] at q5
                  go_wp2_with fail
                  go_meet
                  exact ⟨rfl, Lib.hid HJ.out.next⟩
                · rw [hr] at q5
                  go_wp2_with fail
                  refine (HJ.out.again (k := 1) (by omega) (by omega) (Nat.le_refl _)).mono ?_
                  rintro e w2 ⟨rfl, h2⟩
                  have H2 := Lib.hid h2
                  clear h2
                  go_wp2_with fail
                  go_meet
                  exact ⟨rfl, H2⟩
          case rest =>
            as_aux_lemma =>
            obtain ⟨rfl, HJ1⟩ := hcut
            clear HJ hbr
            obtain ⟨x, y, rn, L, h2, hb2⟩ := id HJ1.out
            obtain ⟨A1, m1, k1, A2, m2, k2, e1, e2, hm1, hm2, hk2, hk2', b1, b2, bp⟩ := h2.rows
            obtain ⟨A3, m3, k3, A4, m4, k4, e3, e4, hm3, hm4, hk4, hk4', b3, b4, bp'⟩ := h2.symm.rows
            have hs1 := h2.s
            have hs2 := h2.s'
            have HBA : Hid (∀ wv : World, Below wc.heap.size wc wv → Calls Try.prog 33 #[.slice A1 m1 k1, .slice A2 m2 k2] wv fun e w' => e = .returned (.bool true) ∧ Below wv.heap.size wv w') := Lib.hid (fun wv hbv => begins_any A1 A2 m1 m2 k1 k2 _ _ wv hm1.symm hm2.symm bp (by omega) hk2 hk2' (b1.below hbv).bat (b2.below hbv).bat)
            have HBB : Hid (∀ wv : World, Below wc.heap.size wc wv → Calls Try.prog 33 #[.slice A3 m3 k3, .slice A4 m4 k4] wv fun e w' => e = .returned (.bool true) ∧ Below wv.heap.size wv w') := Lib.hid (fun wv hbv => begins_any A3 A4 m3 m4 k3 k4 _ _ wv hm3.symm hm4.symm bp' (by omega) hk4 hk4' (b3.below hbv).bat (b4.below hbv).bat)
            obtain ⟨t0, -, t2, t3, -⟩ := h2.A.cells
            obtain ⟨t5, -, t7, t8, -⟩ := h2.A.symm.cells
            have hgs : g < wc.heap.size := h2.A.lt
            rw [e4] at t2
            rw [e1] at t3
            rw [e2] at t7
            rw [e3] at t8
            have u2 : wc.cell? ⟨g, 2, none⟩ = some (.slice A4 m4 k4) := t2
            have u3 : wc.cell? ⟨g, 3, none⟩ = some (.slice A1 m1 k1) := t3
            have u7 : wc.cell? ⟨g, 7, none⟩ = some (.slice A2 m2 k2) := t7
            have u8 : wc.cell? ⟨g, 8, none⟩ = some (.slice A3 m3 k3) := t8
            clear t0 t2 t3 t5 t7 t8 e1 e2 e3 e4 hm1 hm2 hm3 hm4 hk2 hk2' hk4 hk4' b1 b2 b3 b4 bp bp' h2 hs1 hs2 q1 q2 q3 q4
            go_wp2_with fail
            refine (HBA.out _ (Below.refl _ _)).mono ?_
            rintro e w7 ⟨rfl, hb7⟩
            have v2 := (hb7.cell (p := ⟨g, 2, none⟩) hgs).trans u2
            have v3 := (hb7.cell (p := ⟨g, 3, none⟩) hgs).trans u3
            have v7 := (hb7.cell (p := ⟨g, 7, none⟩) hgs).trans u7
            have v8 := (hb7.cell (p := ⟨g, 8, none⟩) hgs).trans u8
            have HB7 := Lib.hid hb7
            clear hb7 u2 u3 u7 u8
            go_wp2_with fail
            refine (HBB.out _ HB7.out).mono ?_
            rintro e w8 ⟨rfl, hb8⟩
            have HJ8 := Lib.hid (HJ1.out.below (nxt HB7.out hb8) (Nat.le_refl _))
            clear hb8 v2 v3 v7 v8
            go_wp2_with fail
            go_roundw
            case rel => exact ⟨j + 1, by have := HLT.out; omega, by have := HLT.out; omega, by go_num, HJ8⟩
            case measure => have := HLT.out; simp [intOf]; omega
        · as_aux_lemma =>
          obtain ⟨x, y, rn, L, h2, hb2⟩ := id HJ.out
          have hv1 := h2.v
          have hv2 := h2.v'
          have hs1 := h2.s
          have hs2 := h2.s'
          have HFR := Lib.hid (fair_any h2.A h2.e h2.f (by omega) (by omega) (by omega) (by omega) hb2.size)
          have HHS := Lib.hid (And.intro (show x.e.S.length ≤ 1000 by omega) (And.intro (show y.e.S.length ≤ 1000 by omega) hb2))
          clear hv1 hv2 hs1 hs2 h2 hb2 HJ
          by_cases h150 : j < 150
          · have hn0 : ¬ j < n0 := fun h => hlt ⟨h, h150⟩
            have e1 : decide ((j : Int) < (n0 : Int)) = false := decide_eq_false (by omega)
            clear hlt
            go_wp2_with fail
            refine HFR.out.mono ?_
            rintro e w2 ⟨rfl, x2, y2, hA2, hE2, hE2', hS2, hS2', -, -, hP2, hb2⟩
            obtain ⟨p1, p2, p3, p4⟩ := prog_end hE2 hE2' hP2 (by rw [hS2]; exact HHS.out.1) (by rw [hS2']; exact HHS.out.2.1)
            have hEnd := Lib.hid (And.intro hA2 (And.intro p3 (And.intro p4 (HHS.out.2.2.trans hb2))))
            have hl1 : y2.e.S.length ≤ 1000 := by rw [hS2']; exact HHS.out.2.1
            have hl2 : x2.e.S.length ≤ 1000 := by rw [hS2]; exact HHS.out.1
            have b1 := hA2.a.rD
            have b2 := hA2.b.rS
            have b3 := hA2.b.rD
            have b4 := hA2.a.rS
            rw [p1] at b1
            rw [p2] at b3
            obtain ⟨A1, k1, i1, -, -⟩ := b1.slice
            obtain ⟨A2, k2, i2, -, -⟩ := b2.slice
            obtain ⟨A3, k3, i3, -, -⟩ := b3.slice
            obtain ⟨A4, k4, i4, -, -⟩ := b4.slice
            obtain ⟨t0, -, t2, t3, -⟩ := hA2.cells
            obtain ⟨t5, -, t7, t8, -⟩ := hA2.symm.cells
            have hgs : g < w2.heap.size := hA2.lt
            rw [i4] at t2 b4
            rw [i1] at t3 b1
            rw [i2] at t7 b2
            rw [i3] at t8 b3
            obtain ⟨m1, hm1⟩ : ∃ m, Hid (y2.e.S.length = m) := ⟨_, Lib.hid rfl⟩
            obtain ⟨m2, hm2⟩ : ∃ m, Hid (x2.e.S.length = m) := ⟨_, Lib.hid rfl⟩
            rw [hm1.out] at t3 t7 b1 b2 hl1
            rw [hm2.out] at t2 t8 b3 b4 hl2
            have HBA : Hid (∀ wv : World, Below w2.heap.size w2 wv → Calls Try.prog 35 #[.slice A1 m1 k1, .slice A2 m1 k2] wv fun e w' => e = .returned (.bool true) ∧ Below wv.heap.size wv w') := Lib.hid (fun wv hbv => packets7_any A1 A2 m1 k1 k2 _ wv hm1.out (by omega) (b1.below hbv).bat (b2.below hbv).bat)
            have HBB : Hid (∀ wv : World, Below w2.heap.size w2 wv → Calls Try.prog 35 #[.slice A3 m2 k3, .slice A4 m2 k4] wv fun e w' => e = .returned (.bool true) ∧ Below wv.heap.size wv w') := Lib.hid (fun wv hbv => packets7_any A3 A4 m2 k3 k4 _ wv hm2.out (by omega) (b3.below hbv).bat (b4.below hbv).bat)
            have u0 : w2.cell? ⟨g, 0, none⟩ = some (.pointer (some ⟨x2.q, 0, none⟩)) := t0
            have u2 : w2.cell? ⟨g, 2, none⟩ = some (.slice A4 m2 k4) := t2
            have u3 : w2.cell? ⟨g, 3, none⟩ = some (.slice A1 m1 k1) := t3
            have u5 : w2.cell? ⟨g, 5, none⟩ = some (.pointer (some ⟨y2.q, 0, none⟩)) := t5
            have u7 : w2.cell? ⟨g, 7, none⟩ = some (.slice A2 m1 k2) := t7
            have u8 : w2.cell? ⟨g, 8, none⟩ = some (.slice A3 m2 k3) := t8
            clear t0 t2 t3 t5 t7 t8 b1 b2 b3 b4 i1 i2 i3 i4 hl1 hl2 hA2 hE2 hE2' hS2 hS2' hP2 hb2 p1 p2 p3 p4
            go_wp2_with fail
            refine (HBA.out _ (Below.refl _ _)).mono ?_
            rintro e w7 ⟨rfl, hb7⟩
            have v0 := (hb7.cell (p := ⟨g, 0, none⟩) hgs).trans u0
            have v2 := (hb7.cell (p := ⟨g, 2, none⟩) hgs).trans u2
            have v5 := (hb7.cell (p := ⟨g, 5, none⟩) hgs).trans u5
            have v8 := (hb7.cell (p := ⟨g, 8, none⟩) hgs).trans u8
            have HB7 := Lib.hid hb7
            clear hb7 u0 u2 u3 u5 u7 u8
            go_wp2_with fail
            refine (HBB.out _ HB7.out).mono ?_
            rintro e w8 ⟨rfl, hb8⟩
            have hb8' := nxt HB7.out hb8
            have z0 := (hb8.cell (p := ⟨g, 0, none⟩) (Nat.lt_of_lt_of_le hgs HB7.out.size)).trans v0
            have z5 := (hb8.cell (p := ⟨g, 5, none⟩) (Nat.lt_of_lt_of_le hgs HB7.out.size)).trans v5
            have HA8 := Lib.hid (hEnd.out.1.below hb8')
            have HB8 := Lib.hid (hEnd.out.2.2.2.trans (hb8'.mono hEnd.out.2.2.2.size))
            clear hb8 hb8' v0 v2 v5 v8
            go_wp2_with fail
            refine (waiting_any HA8.out.a.s).mono ?_
            rintro e wx ⟨rfl, rfl⟩
            rw [show ((x2.e.p.ds.length : Nat) : Int) = 0 by rw [hEnd.out.2.1]; rfl]
            go_wp2_with fail
            refine (waiting_any HA8.out.b.s).mono ?_
            rintro e wx ⟨rfl, rfl⟩
            rw [show ((y2.e.p.ds.length : Nat) : Int) = 0 by rw [hEnd.out.2.2.1]; rfl]
            go_wp2_with fail
            refine (awake07_any _).mono ?_
            rintro e w9 ⟨rfl, hb9⟩
            go_wp2_with fail
            go_ret
            exact ⟨rfl, HB8.out.trans (hb9.mono HB8.out.size)⟩
          · obtain rfl : j = 150 := by omega
            rw [show (((150 : Nat)) : Int) = 150 from rfl]
            have e2 : decide ((150 : Int) < 150) = false := by decide
            clear hlt h150
            by_cases hn0 : 150 < n0
            · have e1 : decide ((150 : Int) < (n0 : Int)) = true := decide_eq_true (by omega)
              go_wp2_with fail
              refine HFR.out.mono ?_
              rintro e w2 ⟨rfl, x2, y2, hA2, hE2, hE2', hS2, hS2', -, -, hP2, hb2⟩
              obtain ⟨p1, p2, p3, p4⟩ := prog_end hE2 hE2' hP2 (by rw [hS2]; exact HHS.out.1) (by rw [hS2']; exact HHS.out.2.1)
              have hEnd := Lib.hid (And.intro hA2 (And.intro p3 (And.intro p4 (HHS.out.2.2.trans hb2))))
              have hl1 : y2.e.S.length ≤ 1000 := by rw [hS2']; exact HHS.out.2.1
              have hl2 : x2.e.S.length ≤ 1000 := by rw [hS2]; exact HHS.out.1
              have b1 := hA2.a.rD
              have b2 := hA2.b.rS
              have b3 := hA2.b.rD
              have b4 := hA2.a.rS
              rw [p1] at b1
              rw [p2] at b3
              obtain ⟨A1, k1, i1, -, -⟩ := b1.slice
              obtain ⟨A2, k2, i2, -, -⟩ := b2.slice
              obtain ⟨A3, k3, i3, -, -⟩ := b3.slice
              obtain ⟨A4, k4, i4, -, -⟩ := b4.slice
              obtain ⟨t0, -, t2, t3, -⟩ := hA2.cells
              obtain ⟨t5, -, t7, t8, -⟩ := hA2.symm.cells
              have hgs : g < w2.heap.size := hA2.lt
              rw [i4] at t2 b4
              rw [i1] at t3 b1
              rw [i2] at t7 b2
              rw [i3] at t8 b3
              obtain ⟨m1, hm1⟩ : ∃ m, Hid (y2.e.S.length = m) := ⟨_, Lib.hid rfl⟩
              obtain ⟨m2, hm2⟩ : ∃ m, Hid (x2.e.S.length = m) := ⟨_, Lib.hid rfl⟩
              rw [hm1.out] at t3 t7 b1 b2 hl1
              rw [hm2.out] at t2 t8 b3 b4 hl2
              have HBA : Hid (∀ wv : World, Below w2.heap.size w2 wv → Calls Try.prog 35 #[.slice A1 m1 k1, .slice A2 m1 k2] wv fun e w' => e = .returned (.bool true) ∧ Below wv.heap.size wv w') := Lib.hid (fun wv hbv => packets7_any A1 A2 m1 k1 k2 _ wv hm1.out (by omega) (b1.below hbv).bat (b2.below hbv).bat)
              have HBB : Hid (∀ wv : World, Below w2.heap.size w2 wv → Calls Try.prog 35 #[.slice A3 m2 k3, .slice A4 m2 k4] wv fun e w' => e = .returned (.bool true) ∧ Below wv.heap.size wv w') := Lib.hid (fun wv hbv => packets7_any A3 A4 m2 k3 k4 _ wv hm2.out (by omega) (b3.below hbv).bat (b4.below hbv).bat)
              have u0 : w2.cell? ⟨g, 0, none⟩ = some (.pointer (some ⟨x2.q, 0, none⟩)) := t0
              have u2 : w2.cell? ⟨g, 2, none⟩ = some (.slice A4 m2 k4) := t2
              have u3 : w2.cell? ⟨g, 3, none⟩ = some (.slice A1 m1 k1) := t3
              have u5 : w2.cell? ⟨g, 5, none⟩ = some (.pointer (some ⟨y2.q, 0, none⟩)) := t5
              have u7 : w2.cell? ⟨g, 7, none⟩ = some (.slice A2 m1 k2) := t7
              have u8 : w2.cell? ⟨g, 8, none⟩ = some (.slice A3 m2 k3) := t8
              clear t0 t2 t3 t5 t7 t8 b1 b2 b3 b4 i1 i2 i3 i4 hl1 hl2 hA2 hE2 hE2' hS2 hS2' hP2 hb2 p1 p2 p3 p4
              go_wp2_with fail
              refine (HBA.out _ (Below.refl _ _)).mono ?_
              rintro e w7 ⟨rfl, hb7⟩
              have v0 := (hb7.cell (p := ⟨g, 0, none⟩) hgs).trans u0
              have v2 := (hb7.cell (p := ⟨g, 2, none⟩) hgs).trans u2
              have v5 := (hb7.cell (p := ⟨g, 5, none⟩) hgs).trans u5
              have v8 := (hb7.cell (p := ⟨g, 8, none⟩) hgs).trans u8
              have HB7 := Lib.hid hb7
              clear hb7 u0 u2 u3 u5 u7 u8
              go_wp2_with fail
              refine (HBB.out _ HB7.out).mono ?_
              rintro e w8 ⟨rfl, hb8⟩
              have hb8' := nxt HB7.out hb8
              have z0 := (hb8.cell (p := ⟨g, 0, none⟩) (Nat.lt_of_lt_of_le hgs HB7.out.size)).trans v0
              have z5 := (hb8.cell (p := ⟨g, 5, none⟩) (Nat.lt_of_lt_of_le hgs HB7.out.size)).trans v5
              have HA8 := Lib.hid (hEnd.out.1.below hb8')
              have HB8 := Lib.hid (hEnd.out.2.2.2.trans (hb8'.mono hEnd.out.2.2.2.size))
              clear hb8 hb8' v0 v2 v5 v8
              go_wp2_with fail
              refine (waiting_any HA8.out.a.s).mono ?_
              rintro e wx ⟨rfl, rfl⟩
              rw [show ((x2.e.p.ds.length : Nat) : Int) = 0 by rw [hEnd.out.2.1]; rfl]
              go_wp2_with fail
              refine (waiting_any HA8.out.b.s).mono ?_
              rintro e wx ⟨rfl, rfl⟩
              rw [show ((y2.e.p.ds.length : Nat) : Int) = 0 by rw [hEnd.out.2.2.1]; rfl]
              go_wp2_with fail
              refine (awake07_any _).mono ?_
              rintro e w9 ⟨rfl, hb9⟩
              go_wp2_with fail
              go_ret
              exact ⟨rfl, HB8.out.trans (hb9.mono HB8.out.size)⟩
            · have e1 : decide ((150 : Int) < (n0 : Int)) = false := decide_eq_false (by omega)
              go_wp2_with fail
              refine HFR.out.mono ?_
              rintro e w2 ⟨rfl, x2, y2, hA2, hE2, hE2', hS2, hS2', -, -, hP2, hb2⟩
              obtain ⟨p1, p2, p3, p4⟩ := prog_end hE2 hE2' hP2 (by rw [hS2]; exact HHS.out.1) (by rw [hS2']; exact HHS.out.2.1)
              have hEnd := Lib.hid (And.intro hA2 (And.intro p3 (And.intro p4 (HHS.out.2.2.trans hb2))))
              have hl1 : y2.e.S.length ≤ 1000 := by rw [hS2']; exact HHS.out.2.1
              have hl2 : x2.e.S.length ≤ 1000 := by rw [hS2]; exact HHS.out.1
              have b1 := hA2.a.rD
              have b2 := hA2.b.rS
              have b3 := hA2.b.rD
              have b4 := hA2.a.rS
              rw [p1] at b1
              rw [p2] at b3
              obtain ⟨A1, k1, i1, -, -⟩ := b1.slice
              obtain ⟨A2, k2, i2, -, -⟩ := b2.slice
              obtain ⟨A3, k3, i3, -, -⟩ := b3.slice
              obtain ⟨A4, k4, i4, -, -⟩ := b4.slice
              obtain ⟨t0, -, t2, t3, -⟩ := hA2.cells
              obtain ⟨t5, -, t7, t8, -⟩ := hA2.symm.cells
              have hgs : g < w2.heap.size := hA2.lt
              rw [i4] at t2 b4
              rw [i1] at t3 b1
              rw [i2] at t7 b2
              rw [i3] at t8 b3
              obtain ⟨m1, hm1⟩ : ∃ m, Hid (y2.e.S.length = m) := ⟨_, Lib.hid rfl⟩
              obtain ⟨m2, hm2⟩ : ∃ m, Hid (x2.e.S.length = m) := ⟨_, Lib.hid rfl⟩
              rw [hm1.out] at t3 t7 b1 b2 hl1
              rw [hm2.out] at t2 t8 b3 b4 hl2
              have HBA : Hid (∀ wv : World, Below w2.heap.size w2 wv → Calls Try.prog 35 #[.slice A1 m1 k1, .slice A2 m1 k2] wv fun e w' => e = .returned (.bool true) ∧ Below wv.heap.size wv w') := Lib.hid (fun wv hbv => packets7_any A1 A2 m1 k1 k2 _ wv hm1.out (by omega) (b1.below hbv).bat (b2.below hbv).bat)
              have HBB : Hid (∀ wv : World, Below w2.heap.size w2 wv → Calls Try.prog 35 #[.slice A3 m2 k3, .slice A4 m2 k4] wv fun e w' => e = .returned (.bool true) ∧ Below wv.heap.size wv w') := Lib.hid (fun wv hbv => packets7_any A3 A4 m2 k3 k4 _ wv hm2.out (by omega) (b3.below hbv).bat (b4.below hbv).bat)
              have u0 : w2.cell? ⟨g, 0, none⟩ = some (.pointer (some ⟨x2.q, 0, none⟩)) := t0
              have u2 : w2.cell? ⟨g, 2, none⟩ = some (.slice A4 m2 k4) := t2
              have u3 : w2.cell? ⟨g, 3, none⟩ = some (.slice A1 m1 k1) := t3
              have u5 : w2.cell? ⟨g, 5, none⟩ = some (.pointer (some ⟨y2.q, 0, none⟩)) := t5
              have u7 : w2.cell? ⟨g, 7, none⟩ = some (.slice A2 m1 k2) := t7
              have u8 : w2.cell? ⟨g, 8, none⟩ = some (.slice A3 m2 k3) := t8
              clear t0 t2 t3 t5 t7 t8 b1 b2 b3 b4 i1 i2 i3 i4 hl1 hl2 hA2 hE2 hE2' hS2 hS2' hP2 hb2 p1 p2 p3 p4
              go_wp2_with fail
              refine (HBA.out _ (Below.refl _ _)).mono ?_
              rintro e w7 ⟨rfl, hb7⟩
              have v0 := (hb7.cell (p := ⟨g, 0, none⟩) hgs).trans u0
              have v2 := (hb7.cell (p := ⟨g, 2, none⟩) hgs).trans u2
              have v5 := (hb7.cell (p := ⟨g, 5, none⟩) hgs).trans u5
              have v8 := (hb7.cell (p := ⟨g, 8, none⟩) hgs).trans u8
              have HB7 := Lib.hid hb7
              clear hb7 u0 u2 u3 u5 u7 u8
              go_wp2_with fail
              refine (HBB.out _ HB7.out).mono ?_
              rintro e w8 ⟨rfl, hb8⟩
              have hb8' := nxt HB7.out hb8
              have z0 := (hb8.cell (p := ⟨g, 0, none⟩) (Nat.lt_of_lt_of_le hgs HB7.out.size)).trans v0
              have z5 := (hb8.cell (p := ⟨g, 5, none⟩) (Nat.lt_of_lt_of_le hgs HB7.out.size)).trans v5
              have HA8 := Lib.hid (hEnd.out.1.below hb8')
              have HB8 := Lib.hid (hEnd.out.2.2.2.trans (hb8'.mono hEnd.out.2.2.2.size))
              clear hb8 hb8' v0 v2 v5 v8
              go_wp2_with fail
              refine (waiting_any HA8.out.a.s).mono ?_
              rintro e wx ⟨rfl, rfl⟩
              rw [show ((x2.e.p.ds.length : Nat) : Int) = 0 by rw [hEnd.out.2.1]; rfl]
              go_wp2_with fail
              refine (waiting_any HA8.out.b.s).mono ?_
              rintro e wx ⟨rfl, rfl⟩
              rw [show ((y2.e.p.ds.length : Nat) : Int) = 0 by rw [hEnd.out.2.2.1]; rfl]
              go_wp2_with fail
              refine (awake07_any _).mono ?_
              rintro e w9 ⟨rfl, hb9⟩
              go_wp2_with fail
              go_ret
              exact ⟨rfl, HB8.out.trans (hb9.mono HB8.out.size)⟩

set_option maxRecDepth 100000 in
theorem lifted (os : Os) (started : os.Started) (H : Type) (enc : TypeId × Value → H) :
    ReturnsInHanded {} Try.checked os 4 .any (Rows.sessionOnceSpec.pre6 enc Try.prog Try.f4 Rows.sessionOnceRow.domain false) (Rows.sessionOnceSpec.post enc Try.prog Try.f4 false true false false) := by
  refine returnsInHanded_of_change (C := Try.checked) knob_own started (by kernel_rfl) Try.func4
    (ChangeSpec.witness6 (enc := enc) (C := Try.checked) false ⟨#[], #[.slice none 0 0, .slice none 0 0], []⟩ 8 (by kernel_rfl) (by kernel_rfl) (by kernel_rfl) (by kernel_rfl)) ?_
  intro W base args ds gs before hval0 hW hcnd _
  have hval : ∀ (j : Nat) t v, Try.f4.params[j]? = some t → args[j]? = some v → Value.okWide Try.prog W .any base t v := hval0
  have hW' := hW
  obtain ⟨p, q, hA0, hV, rfl, hfz, hnd⟩ := hW
  have hA : DataW.TrodAll enc Try.prog W 0 (fun _ => true) true Try.f4.params.toList args.toList ds p := hA0
  rw [Try.params4] at hA hval
  obtain ⟨v0, vs0, d0, ds0, p0, q0, hargs, rfl, rfl, h0, r0⟩ := trodAll_cons hA
  obtain ⟨v1, vs1, d1, ds1, p1, q1, rfl, rfl, rfl, h1, r1⟩ := trodAll_cons r0
  obtain ⟨rfl, rfl, rfl⟩ := trodAll_nil r1
  obtain rfl : args = #[v0, v1] := by cases args; simp_all
  obtain ⟨rfl, rfl⟩ := trodVars_none hV
  obtain ⟨a0, n0, c0, rfl⟩ := okWide_slice Try.underlying54 (hval 0 54 v0 rfl rfl)
  have k0 := h0
  have lt0 : ∀ x ∈ p0, x.block < W.heap.size := by obtain ⟨m, hm⟩ := k0; exact DataW.trod_lt m _ _ _ hm
  have z0 : ∃ zs, Ints .i64 W a0 n0 c0 zs := by
    obtain ⟨fuel, hf⟩ := h0
    rcases open_ints Try.underlying54 Try.underlying3 (by kernel_rfl) hf with ⟨hcs, _⟩ | ⟨x, l, c, zs, hcs, _, hl, hm, hz, _, hcell, hwz⟩
    · simp [Value.cells] at hcs
      obtain ⟨rfl, rfl, rfl⟩ := hcs
      exact ⟨[], ints_nil _ _⟩
    · simp [Value.cells] at hcs
      obtain ⟨rfl, rfl, rfl⟩ := hcs
      exact ⟨_, ints_some .i64 W x _ _ zs hl hm (by simpa using hz) hcell hwz⟩
  have w0 := z0
  obtain ⟨a1, n1, c1, rfl⟩ := okWide_slice Try.underlying48 (hval 1 48 v1 rfl rfl)
  have k1 := h1
  have lt1 : ∀ x ∈ p1, x.block < W.heap.size := by obtain ⟨m, hm⟩ := k1; exact DataW.trod_lt m _ _ _ hm
  have w1 := brows_open h1
  clear hA0 hval0
  refine (walk W a0 n0 c0 a1 n1 c1 w0 w1).mono fun e W' ⟨he, bel⟩ => ?_
  subst he
  exact ⟨_, rfl, _, _, _, [], _, [], hW', trodAll_mk1 (shut_bool Try.underlying4 _), (trodAll_cons_mk (Below.trod laid_out (by kernel_rfl) (of_decide_eq_true (by kernel_rfl)) k0 bel lt0) (trodAll_cons_mk (Below.trod laid_out (by kernel_rfl) (of_decide_eq_true (by kernel_rfl)) k1 bel lt1) (trodAll_mk0))), rfl, bel.frame _, fun h => by cases h⟩

theorem over : Rows.sessionOnceRow.holds Try.pinned (OpenSpec.ofChange Rows.sessionOnceSpec) :=
  OpenClaim.holds_of_wide 4 Try.f4 rfl rfl rfl rfl rfl rfl rfl ⟨rfl, rfl, rfl, rfl, rfl⟩ rfl rfl rfl rfl rfl (by kernel_rfl) Try.func4 (by kernel_rfl)
    (of_decide_eq_true (by kernel_rfl)) (by unfold Func.isWrapper; first | (rw [if_pos (by decide +kernel)]; kernel_rfl) | (rw [if_neg (by decide +kernel)]; exact ⟨rfl, rfl⟩))
    (fun os started H enc _ => lifted os started H enc)

theorem proved : Rows.SessionOnceSaid := over
end Go.Proofs.Ytjhopajhcmkllaa.sessionOnce
