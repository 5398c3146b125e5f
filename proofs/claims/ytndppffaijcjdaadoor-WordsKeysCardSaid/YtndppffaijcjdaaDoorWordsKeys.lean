/- droverlaw08.WordsKeys returns true whatever its arguments: a name is told whole, as a key just if it is one of the document. For every input, without conditions. -/
import Derived.Test.YtndppffaijcjdaaDoorRow
import Derived.Test.YtndppffaijcjdaaDoorWl
import Derived.Test.YtndppffaijcjdaaDoorDoor08
import Derived.Test.YtndppffaijcjdaaDoorCards
import Derived.SevenTiedAt
import Derived.Test.YtndppffaijcjdaaDoorWo
import Derived.Test.YtndppffaijcjdaaDoorDoor08k
namespace Go.Proofs.YtndppffaijcjdaaDoor.wordsKeys
open Go.ChangeShapes Go.WideShapes Go.ChangeAt Go.RowKit
set_option linter.unusedVariables false

def c63 : List Nat := [97, 98, 99, 100, 101, 102, 103, 104, 105, 106, 107, 108, 109, 110, 111, 112, 113, 114, 115, 116, 117, 118, 119, 120, 121, 122, 65, 66, 67, 68, 69, 70, 71, 72, 73, 74, 75, 76, 77, 78, 79, 80, 81, 82, 83, 84, 85, 86, 87, 88, 89, 90, 95, 48, 49, 50, 51, 52, 53, 54, 55, 56, 57]
def nmc (i k : Nat) : Nat := c63.getD ((if i = 0 then k % 53 else k) % 63) 0
def nmOf : Nat → List Nat → List Nat
  | _, [] => []
  | i, x :: r => nmc i x :: nmOf (i + 1) r
theorem nmOf_snoc : ∀ (l : List Nat) (i x : Nat), nmOf i (l ++ [x]) = nmOf i l ++ [nmc (i + l.length) x]
  | [], i, x => rfl
  | y :: r, i, x => by
    show nmc i y :: nmOf (i + 1) (r ++ [x]) = _
    rw [nmOf_snoc r (i + 1) x, List.length_cons, show i + 1 + r.length = i + (r.length + 1) by omega]
    rfl
theorem nmOf_length : ∀ (l : List Nat) (i : Nat), (nmOf i l).length = l.length
  | [], _ => rfl
  | y :: r, i => by
    show (nmOf (i + 1) r).length + 1 = _
    rw [nmOf_length r (i + 1)]
    rfl
theorem c63_wrd : ∀ q, q < 63 → wrd (c63.getD q 0) = true ∧ c63.getD q 0 < 256 := by
  have h : ∀ q : Fin 63, wrd (c63.getD q.val 0) = true ∧ c63.getD q.val 0 < 256 := by decide +kernel
  exact fun q hq => h ⟨q, hq⟩
theorem c63_ltr : ∀ q, q < 53 → ltr (c63.getD q 0) = true := by
  have h : ∀ q : Fin 53, ltr (c63.getD q.val 0) = true := by decide +kernel
  exact fun q hq => h ⟨q, hq⟩
theorem nmc_wrd (i k : Nat) : wrd (nmc i k) = true ∧ nmc i k < 256 := c63_wrd _ (Nat.mod_lt _ (by decide))
theorem nmc_ltr (k : Nat) : ltr (nmc 0 k) = true := by
  unfold nmc
  rw [if_pos rfl, Nat.mod_eq_of_lt (show k % 53 < 63 by omega)]
  exact c63_ltr _ (Nat.mod_lt _ (by decide))
theorem nmOf_wrd : ∀ (l : List Nat) (i : Nat), ∀ y ∈ nmOf i l, wrd y = true ∧ y < 256
  | [], _, y, h => by simp [nmOf] at h
  | x :: r, i, y, h => by
    rcases List.mem_cons.1 h with rfl | h
    · exact nmc_wrd i x
    · exact nmOf_wrd r (i + 1) y h

set_option maxRecDepth 100000 in
set_option maxHeartbeats 8000000 in
theorem walk (w : World) (htab : Wk w) (a0 : Option Addr) (n0 c0 : Nat) (a1 : Int) (w0 : ∃ l : List Nat, l.length = n0 ∧ n0 ≤ c0 ∧ At w w.heap.size a0 (bv l) ∧ (∀ x ∈ l, x < 256)) (w1 : (Lit.int .i64 a1).wf = true) :
    Calls Tryd.prog 7 #[.slice a0 n0 c0, .int .i64 a1] w fun e w' => e = .returned (.bool true) ∧ Below w.heap.size w w' := by
  have HK0 := Lib.hid htab
  have HW0 := Lib.hid htab.wt
  have HAW := Lib.hid (fun w hw => awake08_any w hw)
  obtain ⟨bl, hbl, hnc, hat, hb8⟩ := w0
  have HAT := Lib.hid hat
  have HB8 := Lib.hid hb8
  have HBL := Lib.hid hbl
  have HFI := Lib.hid (fun S (hS : S = strOf keyT) w h => fields_any S hS w h)
  obtain ⟨p, hp⟩ : ∃ p : Nat, a1 % 18 = (p : Int) := ⟨(a1 % 18).toNat, by omega⟩
  have hp18 : p < 18 := by omega
  have HPK := Lib.hid (fun w => pickk_any a1 18 w (by decide) (by decide))
  rw [hp] at HPK
  obtain ⟨kf1, kf2, kf3, ⟨x0, r0, kf4, kf5⟩, kf6⟩ := key_facts p hp18
  obtain ⟨T, hT⟩ : ∃ T, Hid (keys.getD p [] = T) := ⟨_, Lib.hid rfl⟩
  rw [hT.out] at kf1 kf2 kf3 kf4 kf6
  have n1 := nxt_name x0 r0 kf5 (by rw [← kf4]; exact fun y hy => (kf6 y hy).1) (by rw [← kf4]; omega)
  rw [← kf4, if_pos kf1] at n1
  have e5 : T ++ [95] = x0 :: (r0 ++ [95]) := by rw [kf4]; rfl
  have h95 : ∀ y ∈ T ++ [95], wrd y = true ∧ y < 256 := by
    intro y hy
    rcases List.mem_append.1 hy with hy | hy
    · exact kf6 y hy
    · rw [List.mem_singleton.1 hy]; exact ⟨rfl, by decide⟩
  have n2 := nxt_name x0 (r0 ++ [95]) kf5 (by rw [← e5]; exact fun y hy => (h95 y hy).1) (by rw [← e5, List.length_append, List.length_singleton]; omega)
  rw [← e5, if_neg kf2] at n2
  have HN1 := Lib.hid (fun w hw => next_ans n1 (fun y hy => (kf6 y hy).2) (by omega) w hw)
  have HN2 := Lib.hid (fun w hw => next_ans n2 (fun y hy => (h95 y hy).2) (by rw [List.length_append, List.length_singleton]; omega) w hw)
  unfold ansV at HN1 HN2
  have ad := add_strs T [95] (by rw [List.length_singleton]; omega)
  rw [show (strOf [95] : ByteArray) = ⟨#[95]⟩ from rfl] at ad
  obtain ⟨KS, hKS⟩ : ∃ S, Hid (strOf T = S) := ⟨_, Lib.hid rfl⟩
  obtain ⟨KT, hKT⟩ : ∃ S, Hid (strOf (T ++ [95]) = S) := ⟨_, Lib.hid rfl⟩
  obtain ⟨z1, hz1⟩ : ∃ z, Hid (T.length = z) := ⟨_, Lib.hid rfl⟩
  obtain ⟨z2, hz2⟩ : ∃ z, Hid ((T ++ [95]).length = z) := ⟨_, Lib.hid rfl⟩
  rw [hKS.out] at HN1 ad
  rw [hKT.out] at HN2 ad
  rw [hz1.out] at HN1
  rw [hz2.out] at HN2
  have HKO := Lib.hid (heap_new w keyO)
  have HB1 := Lib.hid ((Below.refl w.heap.size w).alloc (Nat.le_refl _) keyO)
  obtain ⟨W, hW⟩ : ∃ W, Hid (W = w.alloc keyO) := ⟨_, Lib.hid rfl⟩
  obtain ⟨g, hg⟩ : ∃ g, Hid (g = w.heap.size) := ⟨_, Lib.hid rfl⟩
  rw [← hW.out] at HB1 HKO
  rw [← hg.out] at HKO
  have hk0 := keyO_at W p hp18 g HKO.out
  rw [hT.out, hKS.out] at hk0
  have HW1 := Lib.hid (HW0.out.below HB1.out)
  have ip : (p : Int) < 18 := by omega
  clear htab hat hb8 hbl kf1 kf2 kf3 kf4 kf5 kf6 n1 e5 h95 n2 hp
  go_enter Tryd.func7, Tryd.ntmps7
  go_wp2_with fail
  refine (HFI.out _ rfl _ HK0.out.sp).mono ?_
  rintro e w1 ⟨he, hw⟩
  subst he
  rw [← hW.out] at hw
  rw [← hg.out]
  subst hw
  go_wp2_with (go_at_call 18; refine (HPK.out _).mono ?_; rintro e w' ⟨he, hw⟩; subst hw; subst he)
  refine (HN1.out _ HW1.out).mono ?_
  rintro e w2 ⟨he, hb⟩
  subst he
  have HB2 := Lib.hid (HB1.out.trans (hb.mono HB1.out.size))
  have HW2 := Lib.hid (HW1.out.below hb)
  have HK2 := Lib.hid (heap_below HKO.out hb)
  clear hb hk0
  have HX2 := Lib.hid (HB2.out.trans ((two w2 (.cells #[.int .u8 4, .string KS, .int .i64 0, .int .i64 1, .int .i64 0, .int .i64 (z1 : Int)] 24) (.cells #[.int .i64 0, .int .i64 0] 27)).mono HB2.out.size))
  have HY2 := Lib.hid (HW2.out.below (two w2 (.cells #[.int .u8 4, .string KS, .int .i64 0, .int .i64 1, .int .i64 0, .int .i64 (z1 : Int)] 24) (.cells #[.int .i64 0, .int .i64 0] 27)))
  have HK3 := Lib.hid (heap_below HK2.out (two w2 (.cells #[.int .u8 4, .string KS, .int .i64 0, .int .i64 1, .int .i64 0, .int .i64 (z1 : Int)] 24) (.cells #[.int .i64 0, .int .i64 0] 27)))
  have HP2 := Lib.hid (show ((w2.alloc (.cells #[.int .u8 4, .string KS, .int .i64 0, .int .i64 1, .int .i64 0, .int .i64 (z1 : Int)] 24)).alloc (.cells #[.int .i64 0, .int .i64 0] 27)).heap[w2.heap.size]? = some (.cells #[.int .u8 4, .string KS, .int .i64 0, .int .i64 1, .int .i64 0, .int .i64 (z1 : Int)] 24) from heap_old (heap_new _ _) _)
  have HF2 := Lib.hid (show ((w2.alloc (.cells #[.int .u8 4, .string KS, .int .i64 0, .int .i64 1, .int .i64 0, .int .i64 (z1 : Int)] 24)).alloc (.cells #[.int .i64 0, .int .i64 0] 27)).heap[w2.heap.size + 1]? = some (.cells #[.int .i64 0, .int .i64 0] 27) from heap_new' _ _ _ (by simp))
  go_wp2_with fail
  refine (HN2.out _ HY2.out).mono ?_
  rintro e w3 ⟨he, hb⟩
  subst he
  have HB3 := Lib.hid (HX2.out.trans (hb.mono HX2.out.size))
  have HW3 := Lib.hid (HY2.out.below hb)
  have HK4 := Lib.hid (heap_below (heap_below HK3.out hb) (two w3 (.cells #[.int .u8 3, .string KT, .int .i64 0, .int .i64 1, .int .i64 0, .int .i64 (z2 : Int)] 24) (.cells #[.int .i64 0, .int .i64 0] 27)))
  have HP3 := Lib.hid (heap_below (heap_below HP2.out hb) (two w3 (.cells #[.int .u8 3, .string KT, .int .i64 0, .int .i64 1, .int .i64 0, .int .i64 (z2 : Int)] 24) (.cells #[.int .i64 0, .int .i64 0] 27)))
  have HF3 := Lib.hid (heap_below (heap_below HF2.out hb) (two w3 (.cells #[.int .u8 3, .string KT, .int .i64 0, .int .i64 1, .int .i64 0, .int .i64 (z2 : Int)] 24) (.cells #[.int .i64 0, .int .i64 0] 27)))
  clear hb
  go_upto_region 5 with fail
  have HX4 := Lib.hid (HB3.out.trans ((two w3 (.cells #[.int .u8 3, .string KT, .int .i64 0, .int .i64 1, .int .i64 0, .int .i64 (z2 : Int)] 24) (.cells #[.int .i64 0, .int .i64 0] 27)).mono HB3.out.size))
  have HY4 := Lib.hid (HW3.out.below (two w3 (.cells #[.int .u8 3, .string KT, .int .i64 0, .int .i64 1, .int .i64 0, .int .i64 (z2 : Int)] 24) (.cells #[.int .i64 0, .int .i64 0] 27)))
  have HP4 := Lib.hid (show ((w3.alloc (.cells #[.int .u8 3, .string KT, .int .i64 0, .int .i64 1, .int .i64 0, .int .i64 (z2 : Int)] 24)).alloc (.cells #[.int .i64 0, .int .i64 0] 27)).heap[w3.heap.size]? = some (.cells #[.int .u8 3, .string KT, .int .i64 0, .int .i64 1, .int .i64 0, .int .i64 (z2 : Int)] 24) from heap_old (heap_new _ _) _)
  have HF4 := Lib.hid (show ((w3.alloc (.cells #[.int .u8 3, .string KT, .int .i64 0, .int .i64 1, .int .i64 0, .int .i64 (z2 : Int)] 24)).alloc (.cells #[.int .i64 0, .int .i64 0] 27)).heap[w3.heap.size + 1]? = some (.cells #[.int .i64 0, .int .i64 0] 27) from heap_new' _ _ _ (by simp))
  obtain ⟨w4, hw4⟩ : ∃ w4, w4 = (w3.alloc (.cells #[.int .u8 3, .string KT, .int .i64 0, .int .i64 1, .int .i64 0, .int .i64 (z2 : Int)] 24)).alloc (.cells #[.int .i64 0, .int .i64 0] 27) := ⟨_, rfl⟩
  rw [← hw4] at HK4 HP3 HF3 HX4 HY4 HP4 HF4 ⊢
  clear hw4
  obtain ⟨y0, y1, y2, y3, y4, y5, -⟩ := box6 HP3.out
  obtain ⟨u0, u1, -, -⟩ := box2 HF3.out
  obtain ⟨v0, v1, v2, v3, v4, v5, -⟩ := box6 HP4.out
  obtain ⟨t0, t1, -, -⟩ := box2 HF4.out
  go_upto_region 8 with fail
  clear y0 y1 y2 y3 y4 y5 u0 u1 v0 v1 v2 v3 v4 v5 t0 t1
  go_cut [11, 12] (fun s nv wx => Hid (s = .string (strOf c63)) ∧ nv = .slice none 0 0 ∧ w4 = wx)
  case first =>
    go_wp2_with fail
    go_meet
    exact ⟨Lib.hid rfl, rfl, rfl⟩
  case rest =>
    obtain ⟨HC, rfl, rfl⟩ := hcut
    obtain rfl := HC.out
    have hcs := strIs c63 (by decide)
    obtain ⟨C, hC⟩ : ∃ C, Hid (strOf c63 = C) := ⟨_, Lib.hid rfl⟩
    rw [hC.out] at hcs ⊢
    have HCS := Lib.hid hcs
    have HZC := Lib.hid (show C.size = 63 from hcs.1)
    obtain ⟨B4, hB4⟩ : ∃ B, Hid (w4.heap.size = B) := ⟨_, Lib.hid rfl⟩
    clear hcs HC
    go_wp2_with fail
    go_loopw [12, 13] (fun nv iv wr => ∃ j : Nat, j ≤ 40 ∧ j ≤ n0 ∧ iv = .int .i64 (j : Int) ∧ Hid (Own wr B4 nv (nmOf 0 (bl.take j)) ∧ Below B4 w4 wr)) (fun _ iv _ => 41 - (intOf iv).toNat)
    case atStart => exact ⟨0, by omega, by omega, rfl, Lib.hid ⟨Own.nil _ _, Below.refl _ _⟩⟩
    case round =>
      obtain ⟨j, hj, hjn, rfl, HJ⟩ := hrel
      have HBw : Hid (Below w.heap.size w wr) := Lib.hid (HX4.out.trans (HJ.out.2.mono (by have := hB4.out; have := HX4.out.size; omega)))
      by_cases hin : j < n0 ∧ j < 40
      · have hjb : j < bl.length := by have := HBL.out; omega
        have hne : bl ≠ [] := by intro h; rw [h] at hjb; simp at hjb
        obtain ⟨gb, ob, ha, hlt, hcell⟩ := HAT.out.byte hne
        subst ha
        have hc1 := (HBw.out.cell (p := ⟨gb, ob + j, none⟩) hlt).trans (hcell j hjb)
        have hx8 : bl.getD j 0 < 256 := by
          rw [List.getD_eq_getElem?_getD, List.getElem?_eq_getElem hjb]
          exact HB8.out _ (List.getElem_mem hjb)
        have HST : Hid (nmOf 0 (bl.take (j + 1)) = nmOf 0 (bl.take j) ++ [nmc j (bl.getD j 0)]) := Lib.hid (by
          rw [List.take_succ_eq_append_getElem hjb, nmOf_snoc, List.length_take, Nat.min_eq_left (by omega), Nat.zero_add, List.getD_eq_getElem?_getD, List.getElem?_eq_getElem hjb]
          rfl)
        have HLN : Hid ((nmOf 0 (bl.take j)).length + 1 ≤ 100) := Lib.hid (by rw [nmOf_length, List.length_take]; omega)
        have HBR : Hid (B4 ≤ wr.heap.size) := Lib.hid (by have := HJ.out.2.size; have := hB4.out; omega)
        generalize bl.getD j 0 = x at *
        have d1 : decide ((j : Int) < (n0 : Int)) = true := decide_eq_true (by omega)
        have d1' : decide (j < n0) = true := decide_eq_true (by omega)
        have d2 : decide ((j : Int) < 40) = true := decide_eq_true (by omega)
        have d2' : decide (j < 40) = true := decide_eq_true (by omega)
        have hjc : j < c0 := by omega
        by_cases h0 : j = 0
        · have e0 : ((j : Int) == 0) = true := by rw [h0]; rfl
          obtain ⟨k1, hk1⟩ : ∃ k, Hid (x % 53 = k) := ⟨_, Lib.hid rfl⟩
          obtain ⟨q, hq⟩ : ∃ q, Hid (k1 % 63 = q) := ⟨_, Lib.hid rfl⟩
          have hq63 : q < 63 := by have := hq.out; omega
          have hk53 : k1 < 53 := by have := hk1.out; omega
          have e1 : (x : Int) % 53 = (k1 : Int) := by have := hk1.out; omega
          have e2 : (k1 : Int) % 63 = (q : Int) := by have := hq.out; omega
          have hqC : q < C.size := by have := HZC.out; omega
          have hv := HCS.out.2 q (by have : c63.length = 63 := rfl; omega) hqC
          obtain ⟨y, hy⟩ : ∃ y, Hid (nmc j x = y) := ⟨_, Lib.hid rfl⟩
          have hyv : (C[q]'hqC).toNat = y := by
            rw [hv, ← hy.out]
            unfold nmc
            rw [if_pos h0, hk1.out, hq.out, List.getD_eq_getElem?_getD, List.getElem?_eq_getElem]
            rfl
          rw [hy.out] at HST
          have iq : (q : Int) < (C.size : Int) := by omega
          have iq' : (q : Int) < 63 := by omega
          have zc := HZC.out
          clear hv h0 hne
          go_wp2_with (first
            | (at_builtin
               refine wpList_app (news := [y]) rfl (.tmp 89) (.tmp 96) rfl rfl (HJ.out.1.alloc _) rfl (At.made _ _ _) rfl (by have := HLN.out; omega) (by have := HBR.out; simp; omega) ?_
               intro v2 w2 ho2 hb2 _ _
               have HO2 := Lib.hid ho2
               have HB2 := Lib.hid ((HJ.out.2.alloc HBR.out _).trans hb2)
               clear ho2 hb2)
            | (fail))
          go_roundw
          case rel => exact ⟨j + 1, by omega, by omega, by go_num, Lib.hid ⟨by rw [HST.out]; exact HO2.out, HB2.out⟩⟩
          case measure => simp [intOf]; omega
        · have e0 : ((j : Int) == 0) = false := beq_eq_false_iff_ne.2 (by omega)
          obtain ⟨q, hq⟩ : ∃ q, Hid (x % 63 = q) := ⟨_, Lib.hid rfl⟩
          have hq63 : q < 63 := by have := hq.out; omega
          have e2 : (x : Int) % 63 = (q : Int) := by have := hq.out; omega
          have hqC : q < C.size := by have := HZC.out; omega
          have hv := HCS.out.2 q (by have : c63.length = 63 := rfl; omega) hqC
          obtain ⟨y, hy⟩ : ∃ y, Hid (nmc j x = y) := ⟨_, Lib.hid rfl⟩
          have hyv : (C[q]'hqC).toNat = y := by
            rw [hv, ← hy.out]
            unfold nmc
            rw [if_neg h0, hq.out, List.getD_eq_getElem?_getD, List.getElem?_eq_getElem]
            rfl
          rw [hy.out] at HST
          have iq : (q : Int) < (C.size : Int) := by omega
          have iq' : (q : Int) < 63 := by omega
          have zc := HZC.out
          clear hv h0 hne
          go_wp2_with (first
            | (at_builtin
               refine wpList_app (news := [y]) rfl (.tmp 89) (.tmp 96) rfl rfl (HJ.out.1.alloc _) rfl (At.made _ _ _) rfl (by have := HLN.out; omega) (by have := HBR.out; simp; omega) ?_
               intro v2 w2 ho2 hb2 _ _
               have HO2 := Lib.hid ho2
               have HB2 := Lib.hid ((HJ.out.2.alloc HBR.out _).trans hb2)
               clear ho2 hb2)
            | (fail))
          go_roundw
          case rel => exact ⟨j + 1, by omega, by omega, by go_num, Lib.hid ⟨by rw [HST.out]; exact HO2.out, HB2.out⟩⟩
          case measure => simp [intOf]; omega
      · have HKr := Lib.hid ((HJ.out.2.block g (by have := lt_heap HK4.out; have := hB4.out; omega)).trans HK4.out)
        have HN8 := Lib.hid (nmOf_wrd (bl.take j) 0)
        have HN40 : Hid ((nmOf 0 (bl.take j)).length ≤ 40) := Lib.hid (by rw [nmOf_length, List.length_take]; omega)
        have HNN : Hid (nmOf 0 (bl.take j) ≠ [] → nxtV (nmOf 0 (bl.take j)) 0 = ansV (if nmOf 0 (bl.take j) ∈ keys then 4 else 3) (strOf (nmOf 0 (bl.take j))) 0 1 0 (nmOf 0 (bl.take j)).length 0 0) := Lib.hid (by
          intro hne
          have h40 := HN40.out
          have h8 := HN8.out
          have hfst : ∀ x r, nmOf 0 (bl.take j) = x :: r → ltr x = true := by
            intro x r h
            cases hb : bl.take j with
            | nil => rw [hb] at h; simp [nmOf] at h
            | cons a l =>
              rw [hb] at h
              simp only [nmOf, List.cons.injEq] at h
              rw [← h.1]
              exact nmc_ltr a
          generalize nmOf 0 (bl.take j) = N at *
          match N, hne with
          | x :: r, _ => exact nxt_name x r (hfst x r rfl) (fun y hy => (h8 y hy).1) (by omega))
        obtain ⟨A, c, hv, hcl, -, hat2, -, -⟩ := HJ.out.1.form
        subst hv
        have HCV := Lib.hid (fun (w' : World) (h : Below wr.heap.size wr w') => show (convert 36 9 (.slice A (nmOf 0 (bl.take j)).length c)).run Tryd.prog w' = .ok (.string (strOf (nmOf 0 (bl.take j)))) w' from run_strOf w' _ A c _ (hat2.below h) (fun y hy => (HN8.out y hy).2))
        generalize nmOf 0 (bl.take j) = N at *
        obtain ⟨NS, hNS⟩ : ∃ S, Hid (strOf N = S) := ⟨_, Lib.hid rfl⟩
        rw [hNS.out] at HCV
        clear hat2
        by_cases h1 : j < n0
        · have d1 : decide ((j : Int) < (n0 : Int)) = true := decide_eq_true (by omega)
          have d1' : decide (j < n0) = true := decide_eq_true h1
          have d2 : decide ((j : Int) < 40) = false := decide_eq_false (by omega)
          have d2' : decide (j < 40) = false := decide_eq_false (by omega)
          clear hin
          by_cases hN0 : N = []
          · have e0 : ((N.length : Int) == 0) = true := by rw [hN0]; rfl
            have e0' : (N.length == 0) = true := by rw [hN0]; rfl
            clear hN0
            go_wp2_with fail
            refine (HAW.out _ (HW0.out.below HBw.out)).mono ?_
            rintro e w5 ⟨he, hb⟩
            subst he
            have HB5 := Lib.hid (HBw.out.trans (hb.mono HBw.out.size))
            clear hb
            go_wp2_with fail
            go_ret
            exact ⟨rfl, HB5.out⟩
          · have hNp : 0 < N.length := List.length_pos_iff.2 hN0
            have e0 : ((N.length : Int) == 0) = false := beq_eq_false_iff_ne.2 (by omega)
            have e0' : (N.length == 0) = false := beq_eq_false_iff_ne.2 (by omega)
            have hnx := HNN.out hN0
            have HNX := Lib.hid (fun w hw => next_ans hnx (fun y hy => (HN8.out y hy).2) (by have := HN40.out; omega) w hw)
            unfold ansV at HNX
            rw [hNS.out] at HNX
            have HND := Lib.hid hN0
            clear hnx hN0
            go_wp2_with fail
            go_loopw [15, 104] (fun b iv w2 => ∃ i : Nat, i ≤ 18 ∧ iv = .int .i64 (i : Int) ∧ b = .bool (decide (N ∈ keys.take i)) ∧ w2 = wr) (fun _ iv _ => 18 - (intOf iv).toNat)
            case atStart => exact ⟨0, by omega, rfl, by simp, rfl⟩
            case round =>
              obtain ⟨i, hi, rfl, rfl, rfl⟩ := hrel
              by_cases hlt : i < 18
              · have hk := keyO_at _ i hlt g HKr.out
                have hcv := HCV.out wr (Below.refl _ _)
                have hin2 : decide (N ∈ keys.take (i + 1)) = (decide (N ∈ keys.take i) || decide (keys.getD i [] = N)) := by
                  have h18 : i < keys.length := hlt
                  rw [List.take_succ_eq_append_getElem h18, Bool.eq_iff_iff]
                  simp only [Bool.or_eq_true, decide_eq_true_eq, List.mem_append, List.mem_singleton, List.getD_eq_getElem?_getD, List.getElem?_eq_getElem h18, Option.getD_some]
                  exact ⟨fun h => h.imp id Eq.symm, fun h => h.imp id Eq.symm⟩
                have heq : ((strOf (keys.getD i [])).toList == NS.toList) = decide (keys.getD i [] = N) := by
                  rw [← hNS.out]
                  exact strOf_eq _ _ (fun y hy => ((key_facts i hlt).2.2.2.2 y hy).2) (fun y hy => (HN8.out y hy).2)
                have HIN := Lib.hid hin2
                obtain ⟨b1, hb1⟩ : ∃ b, Hid (decide (N ∈ keys.take i) = b) := ⟨_, Lib.hid rfl⟩
                obtain ⟨b2, hb2⟩ : ∃ b, Hid (decide (keys.getD i [] = N) = b) := ⟨_, Lib.hid rfl⟩
                rw [hb1.out] at HIN ⊢
                rw [hb2.out] at HIN heq
                obtain ⟨KI, hKI⟩ : ∃ S, Hid (strOf (keys.getD i []) = S) := ⟨_, Lib.hid rfl⟩
                rw [hKI.out] at hk heq
                have ii : (i : Int) < 18 := by omega
                clear hin2
                cases b1 <;> cases b2
                all_goals
                  go_wp2_with fail
                  go_roundw
                  case rel => exact ⟨i + 1, by omega, by go_num, by rw [HIN.out]; rfl, trivial⟩
                  case measure => simp [intOf]; omega
              · obtain rfl : i = 18 := by omega
                have hcv := HCV.out wr (Below.refl _ _)
                rw [show keys.take 18 = keys from rfl]
                by_cases hmem : N ∈ keys
                · rw [if_pos hmem] at HNX
                  rw [show decide (N ∈ keys) = true from decide_eq_true hmem]
                  clear hmem
                  go_wp2_with fail
                  refine (HNX.out _ (HW0.out.below HBw.out)).mono ?_
                  rintro e w5 ⟨he, hb⟩
                  subst he
                  have HB5 := Lib.hid (HBw.out.trans (hb.mono HBw.out.size))
                  have HB5r := Lib.hid hb
                  clear hb hcv
                  have HX6 := Lib.hid (HB5.out.trans ((two w5 (.cells #[.int .u8 (4 : Int), .string NS, .int .i64 0, .int .i64 1, .int .i64 0, .int .i64 (N.length : Int)] 24) (.cells #[.int .i64 0, .int .i64 0] 27)).mono HB5.out.size))
                  have HY6 := Lib.hid (HW0.out.below HX6.out)
                  have HP6 := Lib.hid (show ((w5.alloc (.cells #[.int .u8 (4 : Int), .string NS, .int .i64 0, .int .i64 1, .int .i64 0, .int .i64 (N.length : Int)] 24)).alloc (.cells #[.int .i64 0, .int .i64 0] 27)).heap[w5.heap.size]? = some (.cells #[.int .u8 (4 : Int), .string NS, .int .i64 0, .int .i64 1, .int .i64 0, .int .i64 (N.length : Int)] 24) from heap_old (heap_new _ _) _)
                  have hcv5 := HCV.out ((w5.alloc (.cells #[.int .u8 (4 : Int), .string NS, .int .i64 0, .int .i64 1, .int .i64 0, .int .i64 (N.length : Int)] 24)).alloc (.cells #[.int .i64 0, .int .i64 0] 27)) (HB5r.out.trans ((two w5 (.cells #[.int .u8 (4 : Int), .string NS, .int .i64 0, .int .i64 1, .int .i64 0, .int .i64 (N.length : Int)] 24) (.cells #[.int .i64 0, .int .i64 0] 27)).mono HB5r.out.size))
                  go_wp2_with fail
                  refine (HAW.out _ HY6.out).mono ?_
                  rintro e w6 ⟨he, hb⟩
                  subst he
                  have HB6 := Lib.hid (HX6.out.trans (hb.mono HX6.out.size))
                  clear hb
                  go_wp2_with fail
                  go_ret
                  exact ⟨rfl, HB6.out⟩
                · rw [if_neg hmem] at HNX
                  rw [show decide (N ∈ keys) = false from decide_eq_false hmem]
                  clear hmem
                  go_wp2_with fail
                  refine (HNX.out _ (HW0.out.below HBw.out)).mono ?_
                  rintro e w5 ⟨he, hb⟩
                  subst he
                  have HB5 := Lib.hid (HBw.out.trans (hb.mono HBw.out.size))
                  have HB5r := Lib.hid hb
                  clear hb hcv
                  have HX6 := Lib.hid (HB5.out.trans ((two w5 (.cells #[.int .u8 (3 : Int), .string NS, .int .i64 0, .int .i64 1, .int .i64 0, .int .i64 (N.length : Int)] 24) (.cells #[.int .i64 0, .int .i64 0] 27)).mono HB5.out.size))
                  have HY6 := Lib.hid (HW0.out.below HX6.out)
                  have HP6 := Lib.hid (show ((w5.alloc (.cells #[.int .u8 (3 : Int), .string NS, .int .i64 0, .int .i64 1, .int .i64 0, .int .i64 (N.length : Int)] 24)).alloc (.cells #[.int .i64 0, .int .i64 0] 27)).heap[w5.heap.size]? = some (.cells #[.int .u8 (3 : Int), .string NS, .int .i64 0, .int .i64 1, .int .i64 0, .int .i64 (N.length : Int)] 24) from heap_old (heap_new _ _) _)
                  have hcv5 := HCV.out ((w5.alloc (.cells #[.int .u8 (3 : Int), .string NS, .int .i64 0, .int .i64 1, .int .i64 0, .int .i64 (N.length : Int)] 24)).alloc (.cells #[.int .i64 0, .int .i64 0] 27)) (HB5r.out.trans ((two w5 (.cells #[.int .u8 (3 : Int), .string NS, .int .i64 0, .int .i64 1, .int .i64 0, .int .i64 (N.length : Int)] 24) (.cells #[.int .i64 0, .int .i64 0] 27)).mono HB5r.out.size))
                  go_wp2_with fail
                  refine (HAW.out _ HY6.out).mono ?_
                  rintro e w6 ⟨he, hb⟩
                  subst he
                  have HB6 := Lib.hid (HX6.out.trans (hb.mono HX6.out.size))
                  clear hb
                  go_wp2_with fail
                  go_ret
                  exact ⟨rfl, HB6.out⟩
        · have d1 : decide ((j : Int) < (n0 : Int)) = false := decide_eq_false (by omega)
          have d1' : decide (j < n0) = false := decide_eq_false h1
          clear hin
          by_cases hN0 : N = []
          · have e0 : ((N.length : Int) == 0) = true := by rw [hN0]; rfl
            have e0' : (N.length == 0) = true := by rw [hN0]; rfl
            clear hN0
            go_wp2_with fail
            refine (HAW.out _ (HW0.out.below HBw.out)).mono ?_
            rintro e w5 ⟨he, hb⟩
            subst he
            have HB5 := Lib.hid (HBw.out.trans (hb.mono HBw.out.size))
            clear hb
            go_wp2_with fail
            go_ret
            exact ⟨rfl, HB5.out⟩
          · have hNp : 0 < N.length := List.length_pos_iff.2 hN0
            have e0 : ((N.length : Int) == 0) = false := beq_eq_false_iff_ne.2 (by omega)
            have e0' : (N.length == 0) = false := beq_eq_false_iff_ne.2 (by omega)
            have hnx := HNN.out hN0
            have HNX := Lib.hid (fun w hw => next_ans hnx (fun y hy => (HN8.out y hy).2) (by have := HN40.out; omega) w hw)
            unfold ansV at HNX
            rw [hNS.out] at HNX
            have HND := Lib.hid hN0
            clear hnx hN0
            go_wp2_with fail
            go_loopw [15, 104] (fun b iv w2 => ∃ i : Nat, i ≤ 18 ∧ iv = .int .i64 (i : Int) ∧ b = .bool (decide (N ∈ keys.take i)) ∧ w2 = wr) (fun _ iv _ => 18 - (intOf iv).toNat)
            case atStart => exact ⟨0, by omega, rfl, by simp, rfl⟩
            case round =>
              obtain ⟨i, hi, rfl, rfl, rfl⟩ := hrel
              by_cases hlt : i < 18
              · have hk := keyO_at _ i hlt g HKr.out
                have hcv := HCV.out wr (Below.refl _ _)
                have hin2 : decide (N ∈ keys.take (i + 1)) = (decide (N ∈ keys.take i) || decide (keys.getD i [] = N)) := by
                  have h18 : i < keys.length := hlt
                  rw [List.take_succ_eq_append_getElem h18, Bool.eq_iff_iff]
                  simp only [Bool.or_eq_true, decide_eq_true_eq, List.mem_append, List.mem_singleton, List.getD_eq_getElem?_getD, List.getElem?_eq_getElem h18, Option.getD_some]
                  exact ⟨fun h => h.imp id Eq.symm, fun h => h.imp id Eq.symm⟩
                have heq : ((strOf (keys.getD i [])).toList == NS.toList) = decide (keys.getD i [] = N) := by
                  rw [← hNS.out]
                  exact strOf_eq _ _ (fun y hy => ((key_facts i hlt).2.2.2.2 y hy).2) (fun y hy => (HN8.out y hy).2)
                have HIN := Lib.hid hin2
                obtain ⟨b1, hb1⟩ : ∃ b, Hid (decide (N ∈ keys.take i) = b) := ⟨_, Lib.hid rfl⟩
                obtain ⟨b2, hb2⟩ : ∃ b, Hid (decide (keys.getD i [] = N) = b) := ⟨_, Lib.hid rfl⟩
                rw [hb1.out] at HIN ⊢
                rw [hb2.out] at HIN heq
                obtain ⟨KI, hKI⟩ : ∃ S, Hid (strOf (keys.getD i []) = S) := ⟨_, Lib.hid rfl⟩
                rw [hKI.out] at hk heq
                have ii : (i : Int) < 18 := by omega
                clear hin2
                cases b1 <;> cases b2
                all_goals
                  go_wp2_with fail
                  go_roundw
                  case rel => exact ⟨i + 1, by omega, by go_num, by rw [HIN.out]; rfl, trivial⟩
                  case measure => simp [intOf]; omega
              · obtain rfl : i = 18 := by omega
                have hcv := HCV.out wr (Below.refl _ _)
                rw [show keys.take 18 = keys from rfl]
                by_cases hmem : N ∈ keys
                · rw [if_pos hmem] at HNX
                  rw [show decide (N ∈ keys) = true from decide_eq_true hmem]
                  clear hmem
                  go_wp2_with fail
                  refine (HNX.out _ (HW0.out.below HBw.out)).mono ?_
                  rintro e w5 ⟨he, hb⟩
                  subst he
                  have HB5 := Lib.hid (HBw.out.trans (hb.mono HBw.out.size))
                  have HB5r := Lib.hid hb
                  clear hb hcv
                  have HX6 := Lib.hid (HB5.out.trans ((two w5 (.cells #[.int .u8 (4 : Int), .string NS, .int .i64 0, .int .i64 1, .int .i64 0, .int .i64 (N.length : Int)] 24) (.cells #[.int .i64 0, .int .i64 0] 27)).mono HB5.out.size))
                  have HY6 := Lib.hid (HW0.out.below HX6.out)
                  have HP6 := Lib.hid (show ((w5.alloc (.cells #[.int .u8 (4 : Int), .string NS, .int .i64 0, .int .i64 1, .int .i64 0, .int .i64 (N.length : Int)] 24)).alloc (.cells #[.int .i64 0, .int .i64 0] 27)).heap[w5.heap.size]? = some (.cells #[.int .u8 (4 : Int), .string NS, .int .i64 0, .int .i64 1, .int .i64 0, .int .i64 (N.length : Int)] 24) from heap_old (heap_new _ _) _)
                  have hcv5 := HCV.out ((w5.alloc (.cells #[.int .u8 (4 : Int), .string NS, .int .i64 0, .int .i64 1, .int .i64 0, .int .i64 (N.length : Int)] 24)).alloc (.cells #[.int .i64 0, .int .i64 0] 27)) (HB5r.out.trans ((two w5 (.cells #[.int .u8 (4 : Int), .string NS, .int .i64 0, .int .i64 1, .int .i64 0, .int .i64 (N.length : Int)] 24) (.cells #[.int .i64 0, .int .i64 0] 27)).mono HB5r.out.size))
                  go_wp2_with fail
                  refine (HAW.out _ HY6.out).mono ?_
                  rintro e w6 ⟨he, hb⟩
                  subst he
                  have HB6 := Lib.hid (HX6.out.trans (hb.mono HX6.out.size))
                  clear hb
                  go_wp2_with fail
                  go_ret
                  exact ⟨rfl, HB6.out⟩
                · rw [if_neg hmem] at HNX
                  rw [show decide (N ∈ keys) = false from decide_eq_false hmem]
                  clear hmem
                  go_wp2_with fail
                  refine (HNX.out _ (HW0.out.below HBw.out)).mono ?_
                  rintro e w5 ⟨he, hb⟩
                  subst he
                  have HB5 := Lib.hid (HBw.out.trans (hb.mono HBw.out.size))
                  have HB5r := Lib.hid hb
                  clear hb hcv
                  have HX6 := Lib.hid (HB5.out.trans ((two w5 (.cells #[.int .u8 (3 : Int), .string NS, .int .i64 0, .int .i64 1, .int .i64 0, .int .i64 (N.length : Int)] 24) (.cells #[.int .i64 0, .int .i64 0] 27)).mono HB5.out.size))
                  have HY6 := Lib.hid (HW0.out.below HX6.out)
                  have HP6 := Lib.hid (show ((w5.alloc (.cells #[.int .u8 (3 : Int), .string NS, .int .i64 0, .int .i64 1, .int .i64 0, .int .i64 (N.length : Int)] 24)).alloc (.cells #[.int .i64 0, .int .i64 0] 27)).heap[w5.heap.size]? = some (.cells #[.int .u8 (3 : Int), .string NS, .int .i64 0, .int .i64 1, .int .i64 0, .int .i64 (N.length : Int)] 24) from heap_old (heap_new _ _) _)
                  have hcv5 := HCV.out ((w5.alloc (.cells #[.int .u8 (3 : Int), .string NS, .int .i64 0, .int .i64 1, .int .i64 0, .int .i64 (N.length : Int)] 24)).alloc (.cells #[.int .i64 0, .int .i64 0] 27)) (HB5r.out.trans ((two w5 (.cells #[.int .u8 (3 : Int), .string NS, .int .i64 0, .int .i64 1, .int .i64 0, .int .i64 (N.length : Int)] 24) (.cells #[.int .i64 0, .int .i64 0] 27)).mono HB5r.out.size))
                  go_wp2_with fail
                  refine (HAW.out _ HY6.out).mono ?_
                  rintro e w6 ⟨he, hb⟩
                  subst he
                  have HB6 := Lib.hid (HX6.out.trans (hb.mono HX6.out.size))
                  clear hb
                  go_wp2_with fail
                  go_ret
                  exact ⟨rfl, HB6.out⟩

set_option maxRecDepth 100000 in
theorem lifted (os : Os) (started : os.Started) (H : Type) (enc : TypeId × Value → H) :
    ReturnsInHanded {} Tryd.checked os 7 .any (fun w args => (Rows.wordsKeysSpec.pre enc Tryd.prog Tryd.f7 [] false w args ∧ laidMetH Tryd.prog laidK w) ∧ sizedMet enc Tryd.prog Tryd.f7 (OpenSpec.ofChange Rows.wordsKeysSpec) false w args) (Rows.wordsKeysSpec.post enc Tryd.prog Tryd.f7 false true false false) := by
  refine returnsInHanded_of_change_and (C := Tryd.checked) (X := fun w _ => laidMetH Tryd.prog laidK w) (fun _ _ _ hh h => h.of_heap hh) knob_own started (by kernel_rfl) Tryd.func7
    (ChangeSpec.witness_shaped (enc := enc) (C := Tryd.checked) (os := os) (X := fun w _ => laidMetH Tryd.prog laidK w) false (World.doorLaid Tryd.prog 400 os) #[.slice none 0 0, .int .i64 0] 8 rfl (World.shaped_of_RefB (by kernel_rfl) (by kernel_rfl)) (by kernel_rfl) (by kernel_rfl) (by kernel_rfl) (doorK_met os _)) ?_
  intro W base args ds gs before hval0 hW _ _ hL _
  have hval : ∀ (j : Nat) t v, Tryd.f7.params[j]? = some t → args[j]? = some v → Value.okWide Tryd.prog W .any base t v := hval0
  have hW' := hW
  obtain ⟨p, q, hA0, hV, rfl, hfz, hnd⟩ := hW
  have hA : DataW.TrodAll enc Tryd.prog W 0 (fun _ => true) true Tryd.f7.params.toList args.toList ds p := hA0
  rw [Tryd.params7] at hA hval
  obtain ⟨v0, vs0, d0, ds0, p0, q0, hargs, rfl, rfl, h0, r0⟩ := trodAll_cons hA
  obtain ⟨v1, vs1, d1, ds1, p1, q1, rfl, rfl, rfl, h1, r1⟩ := trodAll_cons r0
  obtain ⟨rfl, rfl, rfl⟩ := trodAll_nil r1
  obtain rfl : args = #[v0, v1] := by cases args; simp_all
  obtain ⟨rfl, rfl⟩ := trodVars_none hV
  obtain ⟨a0, n0, c0, rfl⟩ := okWide_slice Tryd.underlying36 (hval 0 36 v0 rfl rfl)
  have k0 := h0
  have lt0 : ∀ x ∈ p0, x.block < W.heap.size := by obtain ⟨m, hm⟩ := k0; exact DataW.trod_lt m _ _ _ hm
  have z0 : ∃ zs, Ints .u8 W a0 n0 c0 zs := by
    obtain ⟨fuel, hf⟩ := h0
    rcases open_ints Tryd.underlying36 Tryd.underlying5 (by kernel_rfl) hf with ⟨hcs, _⟩ | ⟨x, l, c, zs, hcs, _, hl, hm, hz, _, hcell, hwz⟩
    · simp [Value.cells] at hcs
      obtain ⟨rfl, rfl, rfl⟩ := hcs
      exact ⟨[], ints_nil _ _⟩
    · simp [Value.cells] at hcs
      obtain ⟨rfl, rfl, rfl⟩ := hcs
      exact ⟨_, ints_some .u8 W x _ _ zs hl hm (by simpa using hz) hcell hwz⟩
  have w0 := z0.elim fun _ h => h.bytes
  have lt1 : ∀ x ∈ p1, x.block < W.heap.size := by obtain ⟨m, hm⟩ := h1; exact DataW.trod_lt m _ _ _ hm
  have k1 := h1
  obtain ⟨a1, rfl, _, _, w1⟩ := open_int Tryd.underlying3 (hval 1 3 v1 rfl rfl) h1
  clear hA0 hval0
  refine (walk W (wk_laid hL) a0 n0 c0 a1 w0 w1).mono fun e W' ⟨he, bel⟩ => ?_
  subst he
  exact ⟨_, rfl, _, _, _, [], _, [], hW', trodAll_mk1 (shut_bool Tryd.underlying4 _), (trodAll_cons_mk (Below.trod laid_out (by kernel_rfl) (of_decide_eq_true (by kernel_rfl)) k0 bel lt0) (trodAll_cons_mk (Below.trod laid_out (by kernel_rfl) (of_decide_eq_true (by kernel_rfl)) k1 bel lt1) (trodAll_mk0))), rfl, bel.frame _, fun h => by cases h⟩

theorem over : Rows.wordsKeysRow.holds Tryd.pinned (OpenSpec.ofChange Rows.wordsKeysSpec) :=
  OpenClaim.holds_of_wide 7 Tryd.f7 rfl rfl rfl rfl rfl rfl rfl ⟨rfl, rfl, rfl, rfl, rfl⟩ rfl rfl rfl rfl rfl (by kernel_rfl) Tryd.func7 (by kernel_rfl)
    (of_decide_eq_true (by kernel_rfl)) (by unfold Func.isWrapper; first | (rw [if_pos (by decide +kernel)]; kernel_rfl) | (rw [if_neg (by decide +kernel)]; exact ⟨rfl, rfl⟩))
    (fun os started H enc _ => lifted os started H enc)

theorem proved : Rows.WordsKeysCardSaid :=
  Claim7.holds_tied_plain_at .later [] [.data, .data, .data, .sentinel, .sentinel, .listed, .data, .data] true Rows.wordsKeysCard.stood.harness Rows.wordsKeysCard.stood.looks
    over (fun _ h => by cases h) (by kernel_rfl) (fun _ h => by cases h) wordsKeys_row_tie rfl ⟨rfl, rfl⟩ (by kernel_rfl) rfl
    (fun f fn hf hfn => by
      obtain rfl : f = 7 := Option.some.inj ((show Tryd.prog.funcNamed "drover/droverlaw08.WordsKeys" = some 7 by kernel_rfl).symm.trans hf) |>.symm
      obtain rfl : fn = Tryd.f7 := (Option.some.inj (Tryd.func7.symm.trans hfn)).symm
      exact ⟨by kernel_rfl, fun j t ht => by
        have hall : (Tryd.f7.params.toList.all fun u => !Tryd.prog.wantsStandIn u) = true := by kernel_rfl
        have hm : t ∈ Tryd.f7.params.toList := Array.mem_toList_iff.2 (Array.mem_of_getElem? ht)
        exact (show Tryd.prog.wantsStandIn t = false by simpa using List.all_eq_true.1 hall t hm)⟩)
    (by kernel_rfl)
end Go.Proofs.YtndppffaijcjdaaDoor.wordsKeys
