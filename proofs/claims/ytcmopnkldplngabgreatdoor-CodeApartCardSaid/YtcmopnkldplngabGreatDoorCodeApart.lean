/- droverlaw11.CodeApart returns true whatever its arguments: the code of a function hangs not on the functions behind it, but for the places of constants and tags that it tells first. For every input, without conditions. -/
import Derived.Test.YtcmopnkldplngabGreatDoorRow
import Derived.Test.YtcmopnkldplngabGreatDoorEhd
import Derived.Test.YtcmopnkldplngabGreatDoorEi
import Derived.Test.YtcmopnkldplngabGreatDoorZhy
import Derived.Test.YtcmopnkldplngabGreatDoorCards
import Derived.SevenTiedAt
import Derived.Test.YtcmopnkldplngabGreatDoorCae
import Derived.IntWalk
import Derived.Deep.LoopGhost
import Derived.Deep.Cut
import Derived.Deep.CutBlock
import Derived.Deep.CutRange
import Derived.Deep.RegionHeld3
import Derived.Deep.RegionWith
namespace Go.Proofs.YtcmopnkldplngabGreatDoor.codeApart
open Go.ChangeShapes Go.WideShapes Go.ChangeAt Go.RowKit
set_option linter.unusedVariables false

theorem not_huge {g : Pg} (h : (hgP 1500 60 g).isNone = false) : ShN g.nd := by
  cases hq : hgP 1500 60 g with
  | none => rw [hq] at h; cases h
  | some n => exact hgP_ok hq
/-- The first functions of a program, as its value tells them. -/
theorem prog_take {w : World} {S : Nat → Prop} {g : Pg} {A A2 : Option Addr} {n m c d : Nat} (h : Rd w S g.nd (.agg #[.slice A n c, .slice A2 m d])) (k : Nat) (hk : k ≤ g.fns.length) : Rd w S (Pg.nd ⟨g.fns.take k, []⟩) (.agg #[.slice A k c, .slice none 0 0]) := by
  obtain ⟨y, z, e, hy, hz⟩ := (Pg.rd g _).1 h
  rw [Rd] at hy
  obtain ⟨B, k2, rfl, h1, h2, h3⟩ := hy
  injection e with e
  have e := congrArg Array.toList e
  simp only [List.cons.injEq, Value.slice.injEq] at e
  obtain ⟨⟨rfl, rfl, rfl⟩, -⟩ := e
  rw [List.length_map] at h1
  refine (Pg.rd _ _).2 ⟨_, _, rfl, ?_, Rd.nil 4⟩
  rw [Rd]
  have hl : ((g.fns.take k).map Bd.nd).length = k := by rw [List.length_map, List.length_take]; omega
  refine ⟨A, c, congrArg (fun n => Value.slice A n c) hl.symm, Nat.le_trans (Nat.le_of_eq hl) (by omega), h2, ?_⟩
  show Rds w S A 4 0 ((g.fns.take k).map Bd.nd)
  rw [List.map_take]
  exact Rds.of fun j x hx => h3.at j x (by
    rw [List.getElem?_take] at hx
    split at hx
    · exact hx
    · cases hx)
theorem pick_ap (k n : Int) (w : World) (hn : 0 < n) (hn' : n ≤ 9223372036854775807) :
    Calls Tryz.prog 9 #[.int .i64 k, .int .i64 n] w fun e w' => e = .returned (.int .i64 (k % n)) ∧ w' = w := by
  have h1 := Int.emod_nonneg k (show n ≠ 0 by omega)
  have h2 := Int.emod_lt_of_pos k hn
  by_cases hk : 0 ≤ k
  · go_enter Tryz.func9, Tryz.ntmps9
    go_wp2
    go_ret
    exact ⟨rfl, rfl⟩
  · have ht : (k.tmod n = k % n ∧ 0 ≤ k.tmod n) ∨ (k.tmod n = k % n - n ∧ k.tmod n < 0) := by
      rw [Int.tmod_eq_emod]
      split
      · exact .inl ⟨by omega, by omega⟩
      · exact .inr ⟨by omega, by omega⟩
    rcases ht with ⟨e, ht⟩ | ⟨e, ht⟩
    · have HE := Lib.hid e
      clear e
      go_enter Tryz.func9, Tryz.ntmps9
      go_wp2
      go_ret
      exact ⟨congrArg Ending.returned (congrArg (Value.int .i64) HE.out), rfl⟩
    · have hw : wrap64 (k.tmod n + n) = k % n := by
        rw [IntWalk.wrap64_in _ ⟨by omega, by omega⟩]
        omega
      have HW := Lib.hid hw
      clear e hw
      go_enter Tryz.func9, Tryz.ntmps9
      go_wp2
      all_goals go_ret
      all_goals exact ⟨congrArg Ending.returned (congrArg (Value.int .i64) HW.out), rfl⟩
/-- The two boxes of a round. -/
def ApB (V : World) (x y : Array Value) (T : TypeId) (a b : Value) (w : World) : Prop := ∃ q1 q2, a = .pointer (some ⟨q1, 0, none⟩) ∧ b = .pointer (some ⟨q2, 0, none⟩) ∧ V.heap.size ≤ q1 ∧ V.heap.size ≤ q2 ∧ w.heap[q1]? = some (.cells x T (0, 0)) ∧ w.heap[q2]? = some (.cells y T (0, 0)) ∧ Below V.heap.size V w
theorem pre_at {α : Type} {l m : List α} (h : l <+: m) {i : Nat} {x : α} (hx : l[i]? = some x) : m[i]? = some x := by
  obtain ⟨t, rfl⟩ := h
  rw [List.getElem?_append_left (List.getElem?_eq_some_iff.1 hx).1]
  exact hx
theorem two_drew' (w : World) (o o' : Obj) : Below w.heap.size w ((w.alloc o).alloc o').drew := by
  have := two w o o'
  exact ⟨this.os, this.tape, this.output, this.size, this.block⟩

set_option maxRecDepth 100000 in
set_option maxHeartbeats 16000000 in
theorem walk (w : World) (htab : W11 w) (v0 : Value) (a1 : Int) (w0 : ∃ g, Rw w (fun b => b < w.heap.size) (Pg.nd g) v0 ∧ NbP g ∧ B8P g ∧ g.fns.length + g.roles.length ≤ 1125899906842624) (w1 : (Lit.int .i64 a1).wf = true) :
    Calls Tryz.prog 3 #[v0, .int .i64 a1] w fun e w' => e = .returned (.bool true) ∧ Below w.heap.size w w' := by
  obtain ⟨g, hr, hnb, -, hlen⟩ := w0
  have HAW := Lib.hid (fun W (hb : Below w.heap.size w W) => awake11_any W (htab.below hb))
  obtain ⟨y, z, rfl, hy, hz⟩ := (Pg.rw g v0).1 hr
  rw [Rw] at hy hz
  obtain ⟨AF, cF, rfl, hcF, hcmF, -⟩ := hy
  obtain ⟨AR, cR, rfl, hcR, hcmR, -⟩ := hz
  rw [List.length_map] at hcF hcR hr ⊢
  rw [List.length_map] at hr ⊢
  have HRW := Lib.hid (fun W (hb : Below w.heap.size w W) => Rw.keep (S' := fun b => b < w.heap.size) (fun p hp => hb.cell hp) (fun _ h => h) _ _ hr)
  have HHU := Lib.hid (fun W (hb : Below w.heap.size w W) => huge_any 1500 (by decide) (by decide) 60 (by decide) g W (fun b => b < w.heap.size) _ (fun b h => Nat.lt_of_lt_of_le h hb.size) (HRW.out W hb))
  have HCO := Lib.hid (fun (hs : ShN g.nd) W (hb : Below w.heap.size w W) => compile_any g hlen hnb W (htab.wt.below hb) _ (fun b h => Nat.lt_of_lt_of_le h hb.size) (Rw.rd _ _ hs (HRW.out W hb)))
  have HC2 := Lib.hid (fun (hs : ShN g.nd) (k : Nat) (hk : k ≤ g.fns.length) W (hb : Below w.heap.size w W) => compile_any ⟨g.fns.take k, []⟩ (by rw [List.length_take, List.length_nil]; omega) ⟨fun b hb => hnb.1 b (List.mem_of_mem_take hb), by simp⟩ W (htab.wt.below hb) _ (fun b h => Nat.lt_of_lt_of_le h hb.size) (prog_take (Rw.rd _ _ hs (HRW.out W hb)) k hk))
  obtain ⟨nF, hnF⟩ : ∃ n, Hid (g.fns.length = n) := ⟨_, Lib.hid rfl⟩
  obtain ⟨nR, hnR⟩ : ∃ n, Hid (g.roles.length = n) := ⟨_, Lib.hid rfl⟩
  rw [hnF.out, hnR.out] at HHU HCO hlen
  rw [hnF.out] at HC2
  rw [hnF.out] at hcF ⊢
  rw [hnR.out] at hcR ⊢
  have HB0 := Lib.hid ((Below.refl w.heap.size w).alloc (Nat.le_refl _) (.cells #[.slice AF nF cF, .slice AR nR cR] 25))
  have HQ0 := Lib.hid (heap_new w (.cells #[.slice AF nF cF, .slice AR nR cR] 25))
  obtain ⟨W1, hW1⟩ : ∃ W, Hid (w.alloc (.cells #[.slice AF nF cF, .slice AR nR cR] 25) = W) := ⟨_, Lib.hid rfl⟩
  rw [hW1.out] at HB0 HQ0
  have hs1 : w.heap.size < W1.heap.size := lt_heap HQ0.out
  obtain ⟨⟨q0, q1⟩, -⟩ := bx2 HQ0.out
  have HH1 := Lib.hid (HHU.out W1 HB0.out)
  unfold maxLen at hcmF hcmR
  clear hr hnb htab HHU HRW
  go_enter Tryz.func3, Tryz.ntmps3
  go_upto_region 1 with (fail)
  rw [hW1.out]
  cases hp : (hgP 1500 60 g).isNone with
  | true =>
    rw [hp] at HH1
    clear hp
    as_aux_lemma =>
    go_wp2_with (first
      | (go_at_call 6
         refine HH1.out.mono ?_
         rintro e w2 ⟨rfl, hb2⟩
         have HB2 := Lib.hid (HB0.out.trans (hb2.mono HB0.out.size))
         clear hb2)
      | (go_at_call 7
         refine (HAW.out _ HB2.out).mono ?_
         rintro e w3 ⟨rfl, hb3⟩
         have HB3 := Lib.hid (HB2.out.trans (hb3.mono HB2.out.size))
         clear hb3)
      | (fail))
    go_ret
    exact ⟨rfl, HB3.out⟩
  | false =>
    rw [hp] at HH1
    have HSN := Lib.hid (not_huge hp)
    have HC := Lib.hid (HCO.out HSN.out)
    have HD := Lib.hid (HC2.out HSN.out)
    clear hp HCO HC2
    by_cases hz : (checkF g).1 = 0
    · have HZ := Lib.hid hz
      obtain ⟨b60, -, -⟩ := right_bounds (checkF_zero hz).1
      rw [hnF.out, hnR.out] at b60
      clear hz hlen
      go_upto_region 4 with (first
        | (go_at_call 6
           refine HH1.out.mono ?_
           rintro e w2 ⟨rfl, hb2⟩
           have HB2 := Lib.hid (HB0.out.trans (hb2.mono HB0.out.size))
           have HQ2 := Lib.hid (heap_below HQ0.out hb2)
           obtain ⟨⟨r0, r1⟩, -⟩ := bx2 HQ2.out
           have hs2 := lt_heap HQ2.out
           clear hb2)
        | (go_at_call 8
           refine (HC.out _ HB2.out).mono ?_
           rintro e w3 ⟨hb3, ⟨hne, -⟩ | ⟨-, v, rfl, hm⟩⟩
           · exact absurd HZ.out hne
           obtain ⟨vc, vt, vF, vR, rfl, hmc⟩ := hm.cells
           obtain ⟨Ac, cc, rfl, -⟩ := hmc.c
           obtain ⟨At1, ct, rfl, -⟩ := hmc.t
           obtain ⟨Af, cf, rfl, hcf1, hcf2, hfa⟩ := hmc.f
           obtain ⟨Ar, cr, rfl, hcr1, hcr2, -⟩ := hmc.r
           have HB3 := Lib.hid (HB2.out.trans (hb3.mono HB2.out.size))
           have HQ3 := Lib.hid (heap_below HQ2.out hb3)
           have HFA := Lib.hid hfa
           obtain ⟨nc, hnc⟩ : ∃ n, Hid ((compG g).cs.length = n) := ⟨_, Lib.hid rfl⟩
           obtain ⟨nt, hnt⟩ : ∃ n, Hid ((compG g).ts.length = n) := ⟨_, Lib.hid rfl⟩
           obtain ⟨nf, hnf⟩ : ∃ n, Hid ((compG g).fns.length = n) := ⟨_, Lib.hid rfl⟩
           have hnr : (compG g).roles.length = nR := by rw [← hnR.out]; exact rolesP_len _ _
           rw [hnf.out] at hcf1
           rw [hnr] at hcr1
           rw [hnc.out, hnt.out, hnf.out, hnr]
           have hqm := heap_old (heap_new w3 (.cells #[.slice Ac nc cc, .slice At1 nt ct, .slice Af nf cf, .slice Ar nR cr] 33)) (.cells #[.int .i64 0, .int .i64 0] 36)
           have hqf := heap_new' (w3.alloc (.cells #[.slice Ac nc cc, .slice At1 nt ct, .slice Af nf cf, .slice Ar nR cr] 33)) (.cells #[.int .i64 0, .int .i64 0] 36) (w3.heap.size + 1) (by simp)
           have hbt := two w3 (.cells #[.slice Ac nc cc, .slice At1 nt ct, .slice Af nf cf, .slice Ar nR cr] 33) (.cells #[.int .i64 0, .int .i64 0] 36)
           obtain ⟨V2, hV2⟩ : ∃ V, Hid ((w3.alloc (.cells #[.slice Ac nc cc, .slice At1 nt ct, .slice Af nf cf, .slice Ar nR cr] 33)).alloc (.cells #[.int .i64 0, .int .i64 0] 36) = V) := ⟨_, Lib.hid rfl⟩
           rw [hV2.out] at hqm hqf hbt
           have HQM := Lib.hid hqm
           have HQF := Lib.hid hqf
           have HBT := Lib.hid hbt
           clear hb3 hm hmc hfa hqm hqf hbt)
        | (fail))
      rw [hV2.out]
      unfold maxLen at hcf2 hcr2
      have HV2 : Hid (Below w.heap.size w V2) := Lib.hid (HB3.out.trans (HBT.out.mono HB3.out.size))
      have HP2 : Hid (V2.heap[w.heap.size]? = some (.cells #[.slice AF nF cF, .slice AR nR cR] 25 (0, 0))) := Lib.hid (heap_below HQ3.out HBT.out)
      obtain ⟨⟨p0, p1⟩, -⟩ := bx2 HP2.out
      obtain ⟨⟨d0, d1⟩, -⟩ := bx2 HQF.out
      have hl1 := lt_heap HP2.out
      have hl2 := lt_heap HQF.out
      clear hs1 hs2 q0 q1 r0 r1 HQ0 HQ2 HB0 HB2 HH1 HC
      obtain ⟨V3, hV3⟩ : ∃ V, Hid (V2.alloc (.cells #[.slice AF nF cF, .slice AR nR cR] 25) = V) := ⟨_, Lib.hid rfl⟩
      have hq3 := heap_new V2 (.cells #[.slice AF nF cF, .slice AR nR cR] 25)
      have hb3 := (Below.refl V2.heap.size V2).alloc (Nat.le_refl _) (.cells #[.slice AF nF cF, .slice AR nR cR] 25)
      rw [hV3.out] at hq3 hb3
      have HQ3q := Lib.hid hq3
      have HB3q := Lib.hid hb3
      clear hq3 hb3
      have hm1 := Int.emod_nonneg a1 (show ((nF : Int) + 1) ≠ 0 by omega)
      have hm2 := Int.emod_lt_of_pos a1 (show 0 < ((nF : Int) + 1) by omega)
      obtain ⟨kN, hkN⟩ : ∃ kN : Nat, a1 % ((nF : Int) + 1) = (kN : Int) := ⟨(a1 % ((nF : Int) + 1)).toNat, by omega⟩
      have hkle : kN ≤ nF := by omega
      obtain ⟨n1, hn1⟩ : ∃ n, Hid (nF + 1 = n) := ⟨_, Lib.hid rfl⟩
      have en1 : ((nF : Int) + 1) = (n1 : Int) := by have := hn1.out; omega
      rw [en1] at hkN
      have wn1 : IntKind.i64.wrap ((nF : Int) + 1) = (n1 : Int) := by
        rw [IntWalk.i64_in _ (by omega)]
        exact en1
      have HPK := Lib.hid (fun W => hkN ▸ pick_ap a1 (n1 : Int) W (by omega) (by omega))
      clear hm1 hm2 hkN en1
      have s0 : (0 : Int) ≤ (kN : Int) := by omega
      have s1 : (kN : Int) ≤ (cF : Int) := by omega
      have hap := apart_low g kN HZ.out
      have HCT := Lib.hid (HD.out kN hkle)
      go_upto_region 7 with (fail)
      rw [hV3.out]
      have f0 := free_block HQ3q.out 0
      have hq0 := lt_heap HQ3q.out
      clear p0 p1 d0 d1 hl1 hl2
      obtain ⟨⟨p0, p1⟩, -⟩ := bx2 (heap_below HP2.out HB3q.out)
      have hl1 := lt_heap (heap_below HP2.out HB3q.out)
      have g0 := cell_block HQ3q.out 0
      go_cut [36] (fun a wx => Hid (wx = (V3.setCell ⟨V2.heap.size, 0, none⟩ (.slice AF kN cF)).drew))
      case first =>
        go_region_with
          (first
            | (go_at_call 9
               refine (HPK.out _).mono ?_
               rintro e w4 ⟨rfl, rfl⟩)
            | (fail))
        all_goals (go_wp2_with fail; go_meet; exact Lib.hid rfl)
      case rest =>
      have HM3 := Lib.hid (heap_below HQM.out HB3q.out)
      have hv2 : w3.heap.size ≤ V2.heap.size := HBT.out.size
      have hv1 : w.heap.size ≤ V2.heap.size := HV2.out.size
      have q9 : wc.heap[V2.heap.size]? = some (.cells #[.slice AF kN cF, .slice AR nR cR] 25 (0, 0)) := by
        rw [hcut.out]
        exact heap_set HQ3q.out 0 (.slice AF kN cF)
      have f9 := free_block q9 1
      have g9 := cell_block q9 1
      have hq9 := lt_heap q9
      have HXc : Hid (Below w3.heap.size w3 wc) := Lib.hid (by
        rw [hcut.out]
        exact ((HBT.out.trans (HB3q.out.mono HBT.out.size)).setCell (p := ⟨V2.heap.size, 0, none⟩) hv2 _).drew)
      have HBc : Hid (Below w.heap.size w wc) := Lib.hid (by
        rw [hcut.out]
        exact ((HV2.out.trans (HB3q.out.mono HV2.out.size)).setCell (p := ⟨V2.heap.size, 0, none⟩) hv1 _).drew)
      have HMc : Hid (wc.heap[w3.heap.size]? = some (.cells #[.slice Ac nc cc, .slice At1 nt ct, .slice Af nf cf, .slice Ar nR cr] 33 (0, 0))) := Lib.hid (by
        rw [hcut.out]
        exact heap_set_ne HM3.out (Nat.ne_of_lt (lt_heap HQM.out)) 0 _)
      clear p0 p1 hl1 hq0 f0 g0 wn1 hcut
      go_upto_region 9 with (fail)
      obtain ⟨W9, hW9⟩ : ∃ W, Hid (wc.setCell ⟨V2.heap.size, 1, none⟩ (.slice none 0 0) = W) := ⟨_, Lib.hid rfl⟩
      rw [hW9.out]
      have HX9 : Hid (Below w3.heap.size w3 W9) := Lib.hid (by
        rw [← hW9.out]
        exact HXc.out.setCell (p := ⟨V2.heap.size, 1, none⟩) hv2 _)
      have HB9 : Hid (Below w.heap.size w W9) := Lib.hid (by
        rw [← hW9.out]
        exact HBc.out.setCell (p := ⟨V2.heap.size, 1, none⟩) hv1 _)
      have HM9 : Hid (W9.heap[w3.heap.size]? = some (.cells #[.slice Ac nc cc, .slice At1 nt ct, .slice Af nf cf, .slice Ar nR cr] 33 (0, 0))) := Lib.hid (by
        rw [← hW9.out]
        exact heap_set_ne HMc.out (Nat.ne_of_lt (lt_heap HQM.out)) 1 _)
      have r9 : W9.heap[V2.heap.size]? = some (.cells #[.slice AF kN cF, .slice none 0 0] 25 (0, 0)) := by
        rw [← hW9.out]
        exact heap_set q9 1 (.slice none 0 0)
      obtain ⟨⟨s0, s1⟩, -⟩ := bx2 r9
      have hl9 := lt_heap r9
      clear q9 f9 g9 hq9 HXc HBc HMc hv1 hv2 hW9
      rcases hap with h0 | h110
      · have HZ2 := Lib.hid h0
        have HPX := Lib.hid (comp_apart g kN HZ.out h0)
        clear h0
        go_upto_region 10 with (first
          | (go_at_call 8
             refine (HCT.out _ HB9.out).mono ?_
             rintro e w5 ⟨hb5, ⟨hne, -⟩ | ⟨-, v, rfl, hm⟩⟩
             · exact absurd HZ2.out hne
             obtain ⟨vc, vt, vF, vR, rfl, hmc⟩ := hm.cells
             obtain ⟨Ac2, cc2, rfl, -⟩ := hmc.c
             obtain ⟨At2, ct2, rfl, -⟩ := hmc.t
             obtain ⟨Af2, cf2, rfl, hcf3, hcf4, hfa2⟩ := hmc.f
             obtain ⟨Ar2, cr2, rfl, -⟩ := hmc.r
             have HB5 := Lib.hid (HB9.out.trans (hb5.mono HB9.out.size))
             have HM5 := Lib.hid (heap_below HM9.out hb5)
             have HX5 := Lib.hid (HX9.out.trans (hb5.mono HX9.out.size))
             have HFA2 := Lib.hid hfa2
             obtain ⟨nc2, hnc2⟩ : ∃ n, (compG ⟨g.fns.take kN, []⟩).cs.length = n := ⟨_, rfl⟩
             obtain ⟨nt2, hnt2⟩ : ∃ n, List.length (compG ⟨g.fns.take kN, []⟩).ts = n := ⟨_, rfl⟩
             obtain ⟨nr2, hnr2⟩ : ∃ n, (compG ⟨g.fns.take kN, []⟩).roles.length = n := ⟨_, rfl⟩
             obtain ⟨nf2, hnf2⟩ : ∃ n, Hid ((compG ⟨g.fns.take kN, []⟩).fns.length = n) := ⟨_, Lib.hid rfl⟩
             rw [hnf2.out] at hcf3
             rw [hnc2, hnt2, hnf2.out, hnr2]
             have hqm := heap_old (heap_new w5 (.cells #[.slice Ac2 nc2 cc2, .slice At2 nt2 ct2, .slice Af2 nf2 cf2, .slice Ar2 nr2 cr2] 33)) (.cells #[.int .i64 0, .int .i64 0] 36)
             have hqf := heap_new' (w5.alloc (.cells #[.slice Ac2 nc2 cc2, .slice At2 nt2 ct2, .slice Af2 nf2 cf2, .slice Ar2 nr2 cr2] 33)) (.cells #[.int .i64 0, .int .i64 0] 36) (w5.heap.size + 1) (by simp)
             have hbt := two w5 (.cells #[.slice Ac2 nc2 cc2, .slice At2 nt2 ct2, .slice Af2 nf2 cf2, .slice Ar2 nr2 cr2] 33) (.cells #[.int .i64 0, .int .i64 0] 36)
             obtain ⟨V5, hV5⟩ : ∃ V, Hid ((w5.alloc (.cells #[.slice Ac2 nc2 cc2, .slice At2 nt2 ct2, .slice Af2 nf2 cf2, .slice Ar2 nr2 cr2] 33)).alloc (.cells #[.int .i64 0, .int .i64 0] 36) = V) := ⟨_, Lib.hid rfl⟩
             rw [hV5.out] at hqm hqf hbt
             have HQM5 := Lib.hid hqm
             have HQF5 := Lib.hid hqf
             have HBT5 := Lib.hid hbt
             clear hb5 hm hmc hfa2 hqm hqf hbt hnc2 hnt2 hnr2)
          | (fail))
        rw [hV5.out]
        unfold maxLen at hcf4
        have HV5 : Hid (Below w.heap.size w V5) := Lib.hid (HB5.out.trans (HBT5.out.mono HB5.out.size))
        have HX6 : Hid (Below w3.heap.size w3 V5) := Lib.hid (HX5.out.trans (HBT5.out.mono HX5.out.size))
        have HM6 := Lib.hid (heap_below HM5.out HBT5.out)
        obtain ⟨⟨d0, d1⟩, -⟩ := bx2 HQF5.out
        obtain ⟨⟨b0, b1, b2, b3⟩, -⟩ := box4f HQM5.out
        have hl3 := lt_heap HQF5.out
        have hl4 := lt_heap HQM5.out
        go_wp2_with fail
        clear d0 d1 b0 b1 b2 b3 hl3 hl4
        go_loopg [55] nf2 (fun gh i wr => ∃ j : Nat, j + gh = nf2 ∧ i = .int .i64 (j : Int) ∧ Hid (Below V5.heap.size V5 wr))
        case atStart => exact ⟨0, by omega, rfl, Lib.hid (Below.refl _ _)⟩
        case round =>
          obtain ⟨wo, hwo⟩ : ∃ wo, wo = wr := ⟨_, rfl⟩
          subst hwo
          obtain ⟨j, hj, rfl, HK⟩ := hrel
          cases gk with
          | zero =>
            have h1 : ¬ (j : Int) < (nf2 : Int) := by omega
            have HBE := Lib.hid (HV5.out.trans (HK.out.mono HV5.out.size))
            go_wp2_with (first
              | (go_at_call 7
                 refine (HAW.out _ HBE.out).mono ?_
                 rintro e w7 ⟨rfl, hb7⟩
                 have HB7 := Lib.hid (HBE.out.trans (hb7.mono HBE.out.size))
                 clear hb7)
              | (fail))
            go_ret
            exact ⟨rfl, HB7.out⟩
          | succ gg =>
            have h1 : (j : Int) < (nf2 : Int) := by omega
            have hjl : j < (compG ⟨g.fns.take kN, []⟩).fns.length := by rw [hnf2.out]; omega
            have hF := List.getElem?_eq_getElem hjl
            have hF' := pre_at HPX.out hF
            have h2 : (j : Int) < (nf : Int) := by
              have := (List.getElem?_eq_some_iff.1 hF').1
              rw [hnf.out] at this
              omega
            obtain ⟨gf2, u, ea, hg1, hg2, u0, u1, u2, u3, hic⟩ := HFA2.out j _ hF
            obtain ⟨gf, v, eb, hg3, hg4, v0, v1, v2, v3, hid⟩ := HFA.out j _ hF'
            subst ea eb
            generalize (compG ⟨g.fns.take kN, []⟩).fns[j] = F at *
            obtain ⟨Ai, ci, rfl, hci, hcim, hia⟩ := hic
            obtain ⟨Bi, di, rfl, hdi, hdim, hib⟩ := hid
            have HIA := Lib.hid hia
            have HIB := Lib.hid hib
            obtain ⟨L, hL⟩ : ∃ L, Hid (F.code.length = L) := ⟨_, Lib.hid rfl⟩
            rw [hL.out] at u3 v3 hci hdi
            unfold maxLen at hcim hdim
            obtain ⟨X, hX⟩ : ∃ X, strOf F.name = X := ⟨_, rfl⟩
            obtain ⟨P, hP⟩ : ∃ P, (F.params : Int) = P := ⟨_, rfl⟩
            obtain ⟨Q, hQ⟩ : ∃ P, (F.vars : Int) = P := ⟨_, rfl⟩
            rw [hX] at u0 v0
            rw [hP] at u1 v1
            rw [hQ] at u2 v2
            have HK5 := Lib.hid (HBT5.out.trans (HK.out.mono HBT5.out.size))
            have HK3 := Lib.hid (HX6.out.trans (HK.out.mono HX6.out.size))
            have y0 : wo.cell? ⟨gf2, j * 4, none⟩ = some (.string X) := (HK5.out.cell (p := ⟨gf2, j * 4, none⟩) hg2).trans u0
            have y1 : wo.cell? ⟨gf2, j * 4 + 1, none⟩ = some (.int .i64 P) := (HK5.out.cell (p := ⟨gf2, j * 4 + 1, none⟩) hg2).trans u1
            have y2 : wo.cell? ⟨gf2, j * 4 + 2, none⟩ = some (.int .i64 Q) := (HK5.out.cell (p := ⟨gf2, j * 4 + 2, none⟩) hg2).trans u2
            have y3 : wo.cell? ⟨gf2, j * 4 + 3, none⟩ = some (.slice Ai L ci) := (HK5.out.cell (p := ⟨gf2, j * 4 + 3, none⟩) hg2).trans u3
            have z0 : wo.cell? ⟨gf, j * 4, none⟩ = some (.string X) := (HK3.out.cell (p := ⟨gf, j * 4, none⟩) hg4).trans v0
            have z1 : wo.cell? ⟨gf, j * 4 + 1, none⟩ = some (.int .i64 P) := (HK3.out.cell (p := ⟨gf, j * 4 + 1, none⟩) hg4).trans v1
            have z2 : wo.cell? ⟨gf, j * 4 + 2, none⟩ = some (.int .i64 Q) := (HK3.out.cell (p := ⟨gf, j * 4 + 2, none⟩) hg4).trans v2
            have z3 : wo.cell? ⟨gf, j * 4 + 3, none⟩ = some (.slice Bi L di) := (HK3.out.cell (p := ⟨gf, j * 4 + 3, none⟩) hg4).trans v3
            have b2 : wo.cell? ⟨w5.heap.size, 2, none⟩ = some (.slice (some ⟨gf2, 0, none⟩) nf2 cf2) := cell_block (heap_below HQM5.out HK.out) 2
            have c2 : wo.cell? ⟨w3.heap.size, 2, none⟩ = some (.slice (some ⟨gf, 0, none⟩) nf cf) := cell_block (heap_below HM6.out HK.out) 2
            clear hX hP hQ u0 u1 u2 u3 v0 v1 v2 v3 hg1 hg3 hjl hF hF' hia hib
            go_upto_region 15 with (fail)
            go_cut [11, 12] (fun a b wx => Hid (ApB wo #[.string X, .int .i64 P, .int .i64 Q, .slice Ai L ci] #[.string X, .int .i64 P, .int .i64 Q, .slice Bi L di] 42 a b wx))
            case first =>
              go_region_held3 (fun w' => (w'.cell? ⟨w5.heap.size, 2, none⟩ = some (.slice (some ⟨gf2, 0, none⟩) nf2 cf2) ∧ w'.cell? ⟨w3.heap.size, 2, none⟩ = some (.slice (some ⟨gf, 0, none⟩) nf cf)) ∧ (w'.cell? ⟨gf2, j * 4, none⟩ = some (.string X) ∧ w'.cell? ⟨gf2, j * 4 + 1, none⟩ = some (.int .i64 P) ∧ w'.cell? ⟨gf2, j * 4 + 2, none⟩ = some (.int .i64 Q) ∧ w'.cell? ⟨gf2, j * 4 + 3, none⟩ = some (.slice Ai L ci)) ∧ (w'.cell? ⟨gf, j * 4, none⟩ = some (.string X) ∧ w'.cell? ⟨gf, j * 4 + 1, none⟩ = some (.int .i64 P) ∧ w'.cell? ⟨gf, j * 4 + 2, none⟩ = some (.int .i64 Q) ∧ w'.cell? ⟨gf, j * 4 + 3, none⟩ = some (.slice Bi L di))) (go_keep) (fail)
              · go_wp2_with fail
                go_meet
                exact Lib.hid ⟨wo.heap.size, wo.heap.size + 1, rfl, rfl, by omega, by omega, heap_old (heap_new wo _) _, heap_new' (wo.alloc _) _ _ (by simp), two_drew' wo _ _⟩
              · go_wp2_with fail
                go_meet
                exact Lib.hid ⟨wo.heap.size + 1, wo.heap.size, rfl, rfl, by omega, by omega, heap_new' (wo.alloc _) _ _ (by simp), heap_old (heap_new wo _) _, two_drew' wo _ _⟩
            case rest =>
              obtain ⟨q1, q2, rfl, rfl, hq1, hq2, hp1, hp2, hpb⟩ := hcut.out
              have HP1 := Lib.hid hp1
              have HP2 := Lib.hid hp2
              have HPB := Lib.hid (HK.out.trans (hpb.mono HK.out.size))
              obtain ⟨⟨b0, b1, b2, b3⟩, -⟩ := box4f hp1
              obtain ⟨⟨c0, c1, c2, c3⟩, -⟩ := box4f hp2
              have hl1 := lt_heap hp1
              have hl2 := lt_heap hp2
              have k0 : (X.toList == X.toList) = true := beq_self_eq_true _
              clear hcut hp1 hp2 hpb y0 y1 y2 y3 z0 z1 z2 z3 hq1 hq2
              go_wp2_with fail
              clear b0 b1 b2 b3 c0 c1 c2 c3
              go_loopg [99] L (fun gh i wr2 => ∃ k : Nat, k + gh = L ∧ i = .int .i64 (k : Int) ∧ Hid (Below wc.heap.size wc wr2))
              case atStart => exact ⟨0, by omega, rfl, Lib.hid (Below.refl _ _)⟩
              case round =>
                obtain ⟨k, hk, rfl, HW⟩ := hrel
                cases gk with
                | zero =>
                  have h3 : ¬ (k : Int) < (L : Int) := by omega
                  have HKN := Lib.hid (HPB.out.trans (HW.out.mono HPB.out.size))
                  go_wp2_with fail
                  go_roundg gg
                  case measure => omega
                  case rel => exact ⟨j + 1, by omega, by go_num, HKN⟩
                | succ gi =>
                  have h3 : (k : Int) < (L : Int) := by omega
                  have hil : k < F.code.length := by rw [hL.out]; omega
                  obtain ⟨ga, ea, -, hga, u0, u1, u2⟩ := HIA.out k F.code[k] (List.getElem?_eq_getElem hil)
                  obtain ⟨gb, eb, -, hgb, v0, v1, v2⟩ := HIB.out k F.code[k] (List.getElem?_eq_getElem hil)
                  subst ea eb
                  generalize F.code[k] = x at *
                  obtain ⟨o, ho⟩ : ∃ o, (x.op : Int) = o := ⟨_, rfl⟩
                  obtain ⟨xa, hxa⟩ : ∃ o, x.a = o := ⟨_, rfl⟩
                  obtain ⟨xb, hxb⟩ : ∃ o, x.b = o := ⟨_, rfl⟩
                  rw [ho] at u0 v0
                  rw [hxa] at u1 v1
                  rw [hxb] at u2 v2
                  have HW5 := Lib.hid (HBT5.out.trans ((HPB.out.trans (HW.out.mono HPB.out.size)).mono HBT5.out.size))
                  have HW3 := Lib.hid (HX6.out.trans ((HPB.out.trans (HW.out.mono HPB.out.size)).mono HX6.out.size))
                  have y0 : wr.cell? ⟨ga, k * 3, none⟩ = some (.int .u8 o) := (HW5.out.cell (p := ⟨ga, k * 3, none⟩) hga).trans u0
                  have y1 : wr.cell? ⟨ga, k * 3 + 1, none⟩ = some (.int .i64 xa) := (HW5.out.cell (p := ⟨ga, k * 3 + 1, none⟩) hga).trans u1
                  have y2 : wr.cell? ⟨ga, k * 3 + 2, none⟩ = some (.int .i64 xb) := (HW5.out.cell (p := ⟨ga, k * 3 + 2, none⟩) hga).trans u2
                  have z0 : wr.cell? ⟨gb, k * 3, none⟩ = some (.int .u8 o) := (HW3.out.cell (p := ⟨gb, k * 3, none⟩) hgb).trans v0
                  have z1 : wr.cell? ⟨gb, k * 3 + 1, none⟩ = some (.int .i64 xa) := (HW3.out.cell (p := ⟨gb, k * 3 + 1, none⟩) hgb).trans v1
                  have z2 : wr.cell? ⟨gb, k * 3 + 2, none⟩ = some (.int .i64 xb) := (HW3.out.cell (p := ⟨gb, k * 3 + 2, none⟩) hgb).trans v2
                  have b3 := cell_block (heap_below HP1.out HW.out) 3
                  have c3 := cell_block (heap_below HP2.out HW.out) 3
                  clear ho hxa hxb u0 u1 u2 v0 v1 v2 hil
                  go_upto_region 21 with (fail)
                  go_quiet (fail)
                  have HW2 := Lib.hid (below_drewN HW.out nq)
                  go_wp2_with fail
                  go_roundg gi
                  case measure => omega
                  case rel => exact ⟨k + 1, by omega, by go_num, HW2⟩
      · have e1 : ((checkF ⟨g.fns.take kN, []⟩).1 : Int) = 110 := by rw [h110]; rfl
        have HNZ : Hid ((checkF ⟨g.fns.take kN, []⟩).1 ≠ 0) := Lib.hid (by rw [h110]; decide)
        have HE := Lib.hid e1
        clear e1 h110
        go_wp2_with (first
          | (go_at_call 8
             refine (HCT.out _ HB9.out).mono ?_
             rintro e w5 ⟨hb5, ⟨-, rfl⟩ | ⟨hz', -⟩⟩
             rotate_left
             · exact absurd hz' HNZ.out
             rw [HE.out]
             have HB5 := Lib.hid (HB9.out.trans (hb5.mono HB9.out.size))
             have HB6 : Hid (Below w.heap.size w ((w5.alloc (.cells #[.slice none 0 0, .slice none 0 0, .slice none 0 0, .slice none 0 0] 33)).alloc (.cells #[.int .i64 110, .int .i64 (checkF ⟨g.fns.take kN, []⟩).2] 36))) := Lib.hid (HB9.out.trans ((hb5.trans ((two w5 _ _).mono hb5.size)).mono HB9.out.size))
             clear hb5)
          | (go_at_call 7
             refine (HAW.out _ HB6.out).mono ?_
             rintro e w7 ⟨rfl, hb7⟩
             have HB7 := Lib.hid (HB6.out.trans (hb7.mono HB6.out.size))
             clear hb7)
          | (fail))
        go_ret
        exact ⟨rfl, HB7.out⟩
    · obtain ⟨er, her⟩ : ∃ er, Hid ((checkF g).1 = er) := ⟨_, Lib.hid rfl⟩
      rw [her.out] at hz
      have e1 : ((er : Int) != 0) = true := bne_iff_ne.2 (by omega)
      have HZ := Lib.hid hz
      clear hz hlen
      go_wp2_with (first
        | (go_at_call 6
           refine HH1.out.mono ?_
           rintro e w2 ⟨rfl, hb2⟩
           have HB2 := Lib.hid (HB0.out.trans (hb2.mono HB0.out.size))
           have HQ2 := Lib.hid (heap_below HQ0.out hb2)
           obtain ⟨⟨r0, r1⟩, -⟩ := bx2 HQ2.out
           have hs2 := lt_heap HQ2.out
           clear hb2)
        | (go_at_call 8
           refine (HC.out _ HB2.out).mono ?_
           rintro e w3 ⟨hb3, ⟨-, rfl⟩ | ⟨hz', -⟩⟩
           rotate_left
           · exact absurd (her.out.symm.trans hz') HZ.out
           rw [her.out]
           have HB3 : Hid (Below w.heap.size w ((w3.alloc (.cells #[.slice none 0 0, .slice none 0 0, .slice none 0 0, .slice none 0 0] 33)).alloc (.cells #[.int .i64 (er : Int), .int .i64 (checkF g).2] 36))) := Lib.hid (HB2.out.trans ((hb3.trans ((two w3 _ _).mono hb3.size)).mono HB2.out.size))
           clear hb3)
        | (go_at_call 7
           refine (HAW.out _ HB3.out).mono ?_
           rintro e w4 ⟨rfl, hb4⟩
           have HB4 := Lib.hid (HB3.out.trans (hb4.mono HB3.out.size))
           clear hb4)
        | (fail))
      go_ret
      exact ⟨rfl, HB4.out⟩

set_option maxRecDepth 100000 in
set_option maxHeartbeats 8000000 in
theorem lifted (os : Os) (started : os.Started) (H : Type) (enc : TypeId × Value → H) :
    ReturnsInHanded {} Tryz.checked os 3 .any (fun w args => (Rows.codeApartSpec.pre enc Tryz.prog Tryz.f3 [] false w args ∧ laidMetH Tryz.prog laidO w) ∧ sizedMet enc Tryz.prog Tryz.f3 (OpenSpec.ofChange Rows.codeApartSpec) false w args) (Rows.codeApartSpec.post enc Tryz.prog Tryz.f3 false true false false) := by
  refine returnsInHanded_of_change_and (C := Tryz.checked) (X := fun w _ => laidMetH Tryz.prog laidO w) (fun _ _ _ hh h => h.of_heap hh) knob_own started (by as_aux_lemma => kernel_rfl) Tryz.func3
    (ChangeSpec.witness_shaped (enc := enc) (C := Tryz.checked) (os := os) (X := fun w _ => laidMetH Tryz.prog laidO w) false (World.doorLaid Tryz.prog 400 os) #[.agg #[.slice none 0 0, .slice none 0 0], .int .i64 0] 8 rfl (World.shaped_of_RefB (by as_aux_lemma => kernel_rfl) (by as_aux_lemma => kernel_rfl)) (by as_aux_lemma => kernel_rfl) (by as_aux_lemma => kernel_rfl) (by as_aux_lemma => kernel_rfl) (doorO_met os _)) ?_
  intro W base args ds gs before hval0 hW _ hsz hL _
  have hval : ∀ (j : Nat) t v, Tryz.f3.params[j]? = some t → args[j]? = some v → Value.okWide Tryz.prog W .any base t v := hval0
  have hW' := hW
  obtain ⟨p, q, hA0, hV, rfl, hfz, hnd⟩ := hW
  have hA : DataW.TrodAll enc Tryz.prog W 0 (fun _ => true) true Tryz.f3.params.toList args.toList ds p := hA0
  rw [Tryz.params3] at hA hval
  obtain ⟨v0, vs0, d0, ds0, p0, q0, hargs, rfl, rfl, h0, r0⟩ := trodAll_cons hA
  obtain ⟨v1, vs1, d1, ds1, p1, q1, rfl, rfl, rfl, h1, r1⟩ := trodAll_cons r0
  obtain ⟨rfl, rfl, rfl⟩ := trodAll_nil r1
  obtain rfl : args = #[v0, v1] := by cases args; simp_all
  obtain ⟨rfl, rfl⟩ := trodVars_none hV
  have k0 := h0
  have lt0 : ∀ x ∈ p0, x.block < W.heap.size := by obtain ⟨m, hm⟩ := k0; exact DataW.trod_lt m _ _ _ hm
  have w0 : ∃ g, Rw W (fun b => b < W.heap.size) (Pg.nd g) v0 ∧ NbP g ∧ B8P g ∧ g.fns.length + g.roles.length ≤ 1125899906842624 := by
    obtain ⟨g, g1, g2, g3⟩ := prog_open (hval 0 25 v0 rfl rfl) h0
    exact ⟨g, g1, g2, g3, prog_len g1 h0 hsz⟩
  have lt1 : ∀ x ∈ p1, x.block < W.heap.size := by obtain ⟨m, hm⟩ := h1; exact DataW.trod_lt m _ _ _ hm
  have k1 := h1
  obtain ⟨a1, rfl, _, _, w1⟩ := open_int Tryz.underlying3 (hval 1 3 v1 rfl rfl) h1
  clear hA0 hval0
  refine (walk W (w11_laid hL) v0 a1 w0 w1).mono fun e W' ⟨he, bel⟩ => ?_
  subst he
  exact ⟨_, rfl, _, _, _, [], _, [], hW', trodAll_mk1 (shut_bool Tryz.underlying4 _), (trodAll_cons_mk (Below.trod laid_out (by as_aux_lemma => kernel_rfl) (of_decide_eq_true (by as_aux_lemma => kernel_rfl)) k0 bel lt0) (trodAll_cons_mk (Below.trod laid_out (by as_aux_lemma => kernel_rfl) (of_decide_eq_true (by as_aux_lemma => kernel_rfl)) k1 bel lt1) (trodAll_mk0))), rfl, bel.frame _, fun h => by cases h⟩

set_option maxHeartbeats 8000000 in
theorem closed : joinedFacts Tryz.pinned.checked.prog 3 Tryz.f3 Rows.codeApartSpec Rows.codeApartRow = true := by
  unfold joinedFacts
  simp only [Bool.and_eq_true]
  repeat' apply And.intro
  all_goals (as_aux_lemma => kernel_rfl)

set_option maxHeartbeats 8000000 in
theorem over : Rows.codeApartRow.holds Tryz.pinned (OpenSpec.ofChange Rows.codeApartSpec) :=
  OpenClaim.holds_of_wide 3 Tryz.f3 rfl rfl rfl rfl rfl rfl rfl ⟨rfl, rfl, rfl, rfl, rfl⟩ rfl rfl rfl rfl rfl (by as_aux_lemma => kernel_rfl) Tryz.func3 closed
    (of_decide_eq_true (by as_aux_lemma => kernel_rfl)) (by unfold Func.isWrapper; first | (rw [if_pos (by decide +kernel)]; kernel_rfl) | (rw [if_neg (by decide +kernel)]; exact ⟨rfl, rfl⟩))
    (fun os started H enc _ => lifted os started H enc)

set_option maxHeartbeats 8000000 in
theorem proved : Rows.CodeApartCardSaid :=
  Claim7.holds_tied_plain_at .later [] [.data, .data, .data, .sentinel, .sentinel, .data, .data] true Rows.codeApartCard.stood.harness Rows.codeApartCard.stood.looks
    over (fun _ h => by cases h) (by as_aux_lemma => kernel_rfl) (fun _ h => by cases h) codeApart_row_tie rfl ⟨rfl, rfl⟩ (by as_aux_lemma => kernel_rfl) rfl
    (fun f fn hf hfn => by
      obtain rfl : f = 3 := Option.some.inj ((show Tryz.prog.funcNamed "drover/droverlaw11.CodeApart" = some 3 by as_aux_lemma => kernel_rfl).symm.trans hf) |>.symm
      obtain rfl : fn = Tryz.f3 := (Option.some.inj (Tryz.func3.symm.trans hfn)).symm
      exact ⟨by as_aux_lemma => kernel_rfl, fun j t ht => by
        have hall : (Tryz.f3.params.toList.all fun u => !Tryz.prog.wantsStandIn u) = true := by as_aux_lemma => kernel_rfl
        have hm : t ∈ Tryz.f3.params.toList := Array.mem_toList_iff.2 (Array.mem_of_getElem? ht)
        exact (show Tryz.prog.wantsStandIn t = false by simpa using List.all_eq_true.1 hall t hm)⟩)
    (by as_aux_lemma => kernel_rfl)
end Go.Proofs.YtcmopnkldplngabGreatDoor.codeApart
