/- droverlaw11.CodeLengths returns true whatever its argument: the code of a function has as many instructions as its statements say. For every input, without conditions. -/
import Derived.Test.YtcmopnkldplngaaGreatDoorRow
import Derived.Test.YtcmopnkldplngaaGreatDoorEhd
import Derived.Test.YtcmopnkldplngaaGreatDoorEgi
import Derived.Test.YtcmopnkldplngaaGreatDoorZhy
import Derived.Test.YtcmopnkldplngaaGreatDoorCards
import Derived.SevenTiedAt
import Derived.Deep.LoopGhost
import Derived.Deep.Cut
import Derived.Deep.CutBlock
import Derived.Deep.CutRange
import Derived.Deep.RegionHeld3
namespace Go.Proofs.YtcmopnkldplngaaGreatDoor.codeLengths
open Go.ChangeShapes Go.WideShapes Go.ChangeAt Go.RowKit
set_option linter.unusedVariables false
theorem not_huge {g : Pg} (h : (hgP 1500 60 g).isNone = false) : ShN g.nd := by
  cases hq : hgP 1500 60 g with
  | none => rw [hq] at h; cases h
  | some n => exact hgP_ok hq
theorem smsR_le {l : List Sm} {d c c' : Nat} (h : smsR d l c = some c') : smsN l ≤ 2 * c := by
  have := smsR_N l d c c' h
  omega
theorem bodiesR_mem : ∀ {l : List Bd} {c c' : Nat}, bodiesR l c = some c' → c' ≤ c ∧ ∀ b ∈ l, ∃ d d', d ≤ c ∧ smsR 1 b.st d = some d'
  | [], c, c', h => by
    rw [bodiesR] at h
    cases h
    exact ⟨Nat.le_refl _, by simp⟩
  | x :: r, c, c', h => by
    rw [bodiesR] at h
    cases hx : bodyR x c with
    | none => rw [hx] at h; cases h
    | some c1 =>
      rw [hx] at h
      obtain ⟨h1, h2⟩ := bodiesR_mem h
      unfold bodyR at hx
      split at hx
      · have := smsR_N _ _ _ _ hx
        refine ⟨by omega, fun b hb => ?_⟩
        rcases List.mem_cons.1 hb with rfl | hb
        · exact ⟨c, c1, Nat.le_refl _, hx⟩
        · obtain ⟨d, d', h3, h4⟩ := h2 b hb
          exact ⟨d, d', by omega, h4⟩
      · cases hx
theorem rolesR_mem : ∀ {l : List Rl} {c c' : Nat}, rolesR l c = some c' → ∀ r ∈ l, ∀ b ∈ r.on, ∃ d d', d ≤ c ∧ smsR 1 b.st d = some d'
  | [], c, c', h, r, hr => by simp at hr
  | x :: l, c, c', h, r, hr => by
    rw [rolesR] at h
    cases hx : roleR x c with
    | none => rw [hx] at h; cases h
    | some c1 =>
      rw [hx] at h
      unfold roleR at hx
      split at hx
      · obtain ⟨h1, h2⟩ := bodiesR_mem hx
        rcases List.mem_cons.1 hr with rfl | hr
        · exact h2
        · intro b hb
          obtain ⟨d, d', h3, h4⟩ := rolesR_mem h r hr b hb
          exact ⟨d, d', by omega, h4⟩
      · cases hx
/-- How long what is right is. -/
theorem right_size {g : Pg} (h : rightP g = true) : (∀ b ∈ g.fns, smsN b.st ≤ 4000) ∧ ∀ r ∈ g.roles, ∀ b ∈ r.on, smsN b.st ≤ 4000 := by
  unfold rightP at h
  split at h
  · cases h
  · cases hb : bodiesR g.fns 2000 with
    | none => rw [hb] at h; cases h
    | some c =>
      rw [hb] at h
      dsimp only at h
      obtain ⟨c', hc⟩ := Option.isSome_iff_exists.1 h
      obtain ⟨h1, h2⟩ := bodiesR_mem hb
      have h3 := rolesR_mem hc
      refine ⟨fun b hb => ?_, fun r hr b hb => ?_⟩
      · obtain ⟨d, d', h4, h5⟩ := h2 b hb
        have := smsR_le h5
        omega
      · obtain ⟨d, d', h4, h5⟩ := h3 r hr b hb
        have := smsR_le h5
        omega
theorem prog_rows {w : World} {S : Nat → Prop} {g : Pg} {A A2 : Option Addr} {n m c d : Nat} (h : Rd w S g.nd (.agg #[.slice A n c, .slice A2 m d])) : Rds w S A 4 0 (g.fns.map Bd.nd) ∧ Rds w S A2 4 0 (g.roles.map Rl.nd) := by
  obtain ⟨y, z, e, hy, hz⟩ := (Pg.rd g _).1 h
  rw [Rd] at hy hz
  obtain ⟨B, k, rfl, -, -, h1⟩ := hy
  obtain ⟨B2, k2, rfl, -, -, h2⟩ := hz
  injection e with e
  have e := congrArg Array.toList e
  simp only [List.cons.injEq, Value.slice.injEq, and_true] at e
  obtain ⟨⟨rfl, -⟩, ⟨rfl, -⟩⟩ := e
  exact ⟨h1, h2⟩
set_option maxRecDepth 100000 in
set_option maxHeartbeats 16000000 in
theorem walk (w : World) (htab : W11 w) (v0 : Value) (w0 : ∃ g, Rw w (fun b => b < w.heap.size) (Pg.nd g) v0 ∧ NbP g ∧ B8P g ∧ g.fns.length + g.roles.length ≤ 1125899906842624) :
    Calls Tryz.prog 3 #[v0] w fun e w' => e = .returned (.bool true) ∧ Below w.heap.size w w' := by
  obtain ⟨g, hr, hnb, -, hlen⟩ := w0
  have HAW := Lib.hid (fun W (hb : Below w.heap.size w W) => awake11_any W (htab.below hb))
  obtain ⟨y, z, rfl, hy, hz⟩ := (Pg.rw g v0).1 hr
  rw [Rw] at hy hz
  obtain ⟨AF, cF, rfl, hcF, hcmF, -⟩ := hy
  obtain ⟨AR, cR, rfl, hcR, hcmR, -⟩ := hz
  rw [List.length_map] at hcF hcR hr ⊢
  rw [List.length_map] at hr ⊢
  have HRW := Lib.hid (fun W (hb : Below w.heap.size w W) => Rw.keep (S' := fun b => b < w.heap.size) (fun p hp => hb.cell hp) (fun _ h => h) _ _ hr)
  have HHU := Lib.hid (fun W (hb : Below w.heap.size w W) => huge_any 1500 (by decide) (by decide) 60 (by decide) g W (fun b => b < w.heap.size) _ (fun b h => Nat.lt_of_lt_of_le h hb.size) (HRW.out W hb))
  have HCO := Lib.hid (fun (hs : ShN g.nd) W (hb : Below w.heap.size w W) => compile_any g hlen hnb W (htab.wt.below hb) _ (fun b h => Nat.lt_of_lt_of_le h hb.size) (Rw.rd _ _ hs (HRW.out W hb)))
  have HRD := Lib.hid (fun (hs : ShN g.nd) => Rw.rd _ _ hs hr)
  obtain ⟨nF, hnF⟩ : ∃ n, Hid (g.fns.length = n) := ⟨_, Lib.hid rfl⟩
  obtain ⟨nR, hnR⟩ : ∃ n, Hid (g.roles.length = n) := ⟨_, Lib.hid rfl⟩
  rw [hnF.out, hnR.out] at HHU HCO HRD hlen
  rw [hnF.out] at hcF ⊢
  rw [hnR.out] at hcR ⊢
  have HB0 := Lib.hid ((Below.refl w.heap.size w).alloc (Nat.le_refl _) (.cells #[.slice AF nF cF, .slice AR nR cR] 25))
  have HQ0 := Lib.hid (heap_new w (.cells #[.slice AF nF cF, .slice AR nR cR] 25))
  obtain ⟨W1, hW1⟩ : ∃ W, Hid (w.alloc (.cells #[.slice AF nF cF, .slice AR nR cR] 25) = W) := ⟨_, Lib.hid rfl⟩
  rw [hW1.out] at HB0 HQ0
  have hs1 : w.heap.size < W1.heap.size := lt_heap HQ0.out
  obtain ⟨⟨q0, q1⟩, -⟩ := bx2 HQ0.out
  have HH1 := Lib.hid (HHU.out W1 HB0.out)
  unfold maxLen at hcmF hcmR
  clear hr hnb htab HHU HRW
  go_enter Tryz.func3, Tryz.ntmps3
  go_upto_region 1 with (fail)
  rw [hW1.out]
  cases hp : (hgP 1500 60 g).isNone with
  | true =>
    rw [hp] at HH1
    clear hp
    as_aux_lemma =>
    go_wp2_with (first
      | (go_at_call 5
         refine HH1.out.mono ?_
         rintro e w2 ⟨rfl, hb2⟩
         have HB2 := Lib.hid (HB0.out.trans (hb2.mono HB0.out.size))
         clear hb2)
      | (go_at_call 6
         refine (HAW.out _ HB2.out).mono ?_
         rintro e w3 ⟨rfl, hb3⟩
         have HB3 := Lib.hid (HB2.out.trans (hb3.mono HB2.out.size))
         clear hb3)
      | (fail))
    go_ret
    exact ⟨rfl, HB3.out⟩
  | false =>
    rw [hp] at HH1
    have HSN := Lib.hid (not_huge hp)
    have HC := Lib.hid (HCO.out HSN.out)
    have HR := Lib.hid (HRD.out HSN.out)
    clear hp HCO HRD
    by_cases hz : (checkF g).1 = 0
    · have hright := (checkF_zero hz).1
      obtain ⟨hz1, hz2⟩ := right_size hright
      have HR1 := Lib.hid hz1
      have HR2 := Lib.hid hz2
      have HCF := Lib.hid (fun j b (hj : g.fns[j]? = some b) => comp_fn hright hj)
      have HON := Lib.hid (fun i j r b (hi : g.roles[i]? = some r) (hj : r.on[j]? = some b) => comp_on hright hi hj)
      have HCN := Lib.hid (comp_cnt hright)
      have HZ := Lib.hid hz
      obtain ⟨b60, -, hrb⟩ := right_bounds hright
      have HRB := Lib.hid hrb
      clear hrb
      rw [hnF.out, hnR.out] at b60
      clear hz1 hz2 hright hz hlen
      go_upto_region 4 with (first
        | (go_at_call 5
           refine HH1.out.mono ?_
           rintro e w2 ⟨rfl, hb2⟩
           have HB2 := Lib.hid (HB0.out.trans (hb2.mono HB0.out.size))
           have HQ2 := Lib.hid (heap_below HQ0.out hb2)
           obtain ⟨⟨r0, r1⟩, -⟩ := bx2 HQ2.out
           have hs2 := lt_heap HQ2.out
           clear hb2)
        | (go_at_call 7
           refine (HC.out _ HB2.out).mono ?_
           rintro e w3 ⟨hb3, ⟨hne, -⟩ | ⟨-, v, rfl, hm⟩⟩
           · exact absurd HZ.out hne
           obtain ⟨vc, vt, vF, vR, rfl, hmc⟩ := hm.cells
           obtain ⟨Ac, cc, rfl, -⟩ := hmc.c
           obtain ⟨At1, ct, rfl, -⟩ := hmc.t
           obtain ⟨Af, cf, rfl, hcf1, hcf2, hfa⟩ := hmc.f
           obtain ⟨Ar, cr, rfl, hcr1, hcr2, hra⟩ := hmc.r
           have HB3 := Lib.hid (HB2.out.trans (hb3.mono HB2.out.size))
           have HQ3 := Lib.hid (heap_below HQ2.out hb3)
           have HFA := Lib.hid hfa
           have HRA := Lib.hid hra
           obtain ⟨nc, hnc⟩ : ∃ n, Hid ((compG g).cs.length = n) := ⟨_, Lib.hid rfl⟩
           obtain ⟨nt, hnt⟩ : ∃ n, Hid ((compG g).ts.length = n) := ⟨_, Lib.hid rfl⟩
           obtain ⟨nf, hnf⟩ : ∃ n, Hid ((compG g).fns.length = n) := ⟨_, Lib.hid rfl⟩
           have hnr : (compG g).roles.length = nR := by rw [← hnR.out]; exact rolesP_len _ _
           rw [hnf.out] at hcf1
           rw [hnr] at hcr1
           rw [hnc.out, hnt.out, hnf.out, hnr]
           have hqm := heap_old (heap_new w3 (.cells #[.slice Ac nc cc, .slice At1 nt ct, .slice Af nf cf, .slice Ar nR cr] 33)) (.cells #[.int .i64 0, .int .i64 0] 36)
           have hqf := heap_new' (w3.alloc (.cells #[.slice Ac nc cc, .slice At1 nt ct, .slice Af nf cf, .slice Ar nR cr] 33)) (.cells #[.int .i64 0, .int .i64 0] 36) (w3.heap.size + 1) (by simp)
           have hbt := two w3 (.cells #[.slice Ac nc cc, .slice At1 nt ct, .slice Af nf cf, .slice Ar nR cr] 33) (.cells #[.int .i64 0, .int .i64 0] 36)
           obtain ⟨V2, hV2⟩ : ∃ V, Hid ((w3.alloc (.cells #[.slice Ac nc cc, .slice At1 nt ct, .slice Af nf cf, .slice Ar nR cr] 33)).alloc (.cells #[.int .i64 0, .int .i64 0] 36) = V) := ⟨_, Lib.hid rfl⟩
           rw [hV2.out] at hqm hqf hbt
           have HQM := Lib.hid hqm
           have HQF := Lib.hid hqf
           have HBT := Lib.hid hbt
           clear hb3 hm hmc hfa hra hqm hqf hbt)
        | (fail))
      rw [hV2.out]
      unfold maxLen at hcf2 hcr2
      have HV2 : Hid (Below w.heap.size w V2) := Lib.hid (HB3.out.trans (HBT.out.mono HB3.out.size))
      have HP2 : Hid (V2.heap[w.heap.size]? = some (.cells #[.slice AF nF cF, .slice AR nR cR] 25 (0, 0))) := Lib.hid (heap_below HQ3.out HBT.out)
      obtain ⟨⟨p0, p1⟩, -⟩ := bx2 HP2.out
      obtain ⟨⟨d0, d1⟩, -⟩ := bx2 HQF.out
      obtain ⟨⟨b0, b1, b2, b3⟩, -⟩ := box4f HQM.out
      have hl1 := lt_heap HP2.out
      have hl2 := lt_heap HQF.out
      have hl3 := lt_heap HQM.out
      clear hs1 hs2 q0 q1 r0 r1 HQ0 HQ2 HB0 HB2 HH1 HC
      obtain ⟨hrf, hrr⟩ := prog_rows HR.out
      have HRF := Lib.hid hrf
      have HRR := Lib.hid hrr
      clear hrf hrr HR
      go_wp2_with fail
      clear p0 p1 d0 d1 b0 b1 b2 b3
      go_loopg [5, 27] nF (fun gh k i wr => ∃ j : Nat, j + gh = nF ∧ k = .int .i64 (j : Int) ∧ i = .int .i64 (j : Int) ∧ Hid (Below V2.heap.size V2 wr))
      case atStart => exact ⟨0, by omega, rfl, rfl, Lib.hid (Below.refl _ _)⟩
      case round =>
        obtain ⟨j, hj, rfl, rfl, HK⟩ := hrel
        have hszk := HK.out.size
        cases gk with
        | zero =>
          have h1 : ¬ (j : Int) < (nF : Int) := by omega
          obtain rfl : nF = j := by omega
          obtain ⟨⟨p0, p1⟩, -⟩ := bx2 (heap_below HP2.out HK.out)
          have hlp := lt_heap (heap_below HP2.out HK.out)
          have HK0 : Hid (rlK g 0 = nF) := Lib.hid (by unfold rlK; rw [List.take_zero]; exact hnF.out)
          clear HRF HR1 HCF
          go_wp2_with fail
          clear p0 p1
          go_loopg [5, 68] nR (fun gh k i wr2 => ∃ j kk : Nat, j + gh = nR ∧ k = .int .i64 (kk : Int) ∧ i = .int .i64 (j : Int) ∧ Hid (rlK g j = kk) ∧ Hid (Below V2.heap.size V2 wr2))
          case atStart => exact ⟨0, nF, by omega, rfl, rfl, HK0, HK⟩
          case round =>
            clear HK h1 hszk hlp HK0
            obtain ⟨wo, hwo⟩ : ∃ wo, wo = wr := ⟨_, rfl⟩
            subst hwo
            obtain ⟨ir, kk, hj, rfl, rfl, HKK, HK⟩ := hrel
            have hszk := HK.out.size
            have hmo : w3.heap.size < wo.heap.size := Nat.lt_of_lt_of_le (lt_heap HQM.out) hszk
            cases gk with
            | zero =>
              have h1 : ¬ (ir : Int) < (nR : Int) := by omega
              obtain rfl : nR = ir := by omega
              have e0 : kk = nf := by
                have := HCN.out
                rw [hnf.out, hnR.out, HKK.out] at this
                exact this.symm
              have t0 : ((kk : Int) == (nf : Int)) = true := by rw [e0]; exact beq_self_eq_true _
              have hqe := heap_below HQM.out HK.out
              obtain ⟨⟨b0, b1, b2, b3⟩, -⟩ := box4f hqe
              have HBE := Lib.hid (HV2.out.trans (HK.out.mono HV2.out.size))
              clear e0 hqe
              go_wp2_with (first
                | (go_at_call 6
                   refine (HAW.out _ HBE.out).mono ?_
                   rintro e w4 ⟨rfl, hb4⟩
                   have HB4 := Lib.hid (HBE.out.trans (hb4.mono HBE.out.size))
                   clear hb4)
                | (fail))
              go_ret
              exact ⟨rfl, HB4.out⟩
            | succ gg =>
              have h1 : (ir : Int) < (nR : Int) := by omega
              have hil : ir < g.roles.length := by rw [hnR.out]; omega
              obtain ⟨br, o2, vs, rfl, hSb, hvl, hrg, hx⟩ := HRR.out.at ir (Rl.nd g.roles[ir]) (by simp [hil])
              have hgr : g.roles[ir]? = some g.roles[ir] := List.getElem?_eq_getElem hil
              obtain ⟨hps, hon60, hps2⟩ := HRB.out _ (List.getElem_mem hil)
              have HSB := Lib.hid (HR2.out _ (List.getElem_mem hil))
              have HKS := Lib.hid (rlK_succ hgr)
              have HRL := Lib.hid (comp_rl hgr)
              have HOB := Lib.hid (fun j b hb => HON.out ir j _ b hgr hb)
              generalize g.roles[ir] = r at *
              obtain ⟨y, y', hv, h8, hl8, hy, hy1⟩ := (hd_rd r.name r.ps 4 (r.on.map Bd.nd) r.ln _).1 hx
              have f1 := hy
              have f2 := hy1
              rw [Rd] at f1 f2
              obtain ⟨A5, c5, rfl, hc5, hcm5, -⟩ := f1
              obtain ⟨A6, c6, rfl, hc6, hcm6, hro⟩ := f2
              have HRO := Lib.hid hro
              rw [List.length_map] at hv hc5
              rw [List.length_map] at hv hc6
              obtain ⟨n5, hn5⟩ : ∃ n, Hid (r.ps.length = n) := ⟨_, Lib.hid rfl⟩
              obtain ⟨n6, hn6⟩ : ∃ n, Hid (r.on.length = n) := ⟨_, Lib.hid rfl⟩
              obtain ⟨X, hX⟩ : ∃ X, strOf r.name = X := ⟨_, rfl⟩
              rw [hn5.out] at hv hc5 hps
              rw [hn6.out] at hv hc6 hon60 HKS
              rw [hX] at hv
              unfold maxLen at hcm5 hcm6
              have hv2 : vs = [.string X, .slice A5 n5 c5, .slice A6 n6 c6, .int .i64 r.ln] := by
                injection hv with hv
                have := congrArg Array.toList hv
                simpa using this
              subst hv2
              have hbw : br < w.heap.size := hSb
              have HVK := Lib.hid (HV2.out.trans (HK.out.mono HV2.out.size))
              have hbr : br < wo.heap.size := Nat.lt_of_lt_of_le hbw HVK.out.size
              have cl : ∀ i u, [Value.string X, .slice A5 n5 c5, .slice A6 n6 c6, .int .i64 r.ln][i]? = some u → wo.cell? ⟨br, o2 + ir * 4 + i, none⟩ = some u := fun i u hu => by
                have := hrg i u hu
                rw [Nat.zero_add] at this
                exact (HVK.out.cell (p := ⟨br, o2 + ir * 4 + i, none⟩) hbw).trans this
              have y0 : wo.cell? ⟨br, o2 + ir * 4, none⟩ = some (.string X) := cl 0 _ rfl
              have y1 := cl 1 _ rfl
              have y2 := cl 2 _ rfl
              have y3 := cl 3 _ rfl
              obtain ⟨gr, ur, ea, hg1, hg2, -, -, u2, hoc⟩ := HRA.out ir _ HRL.out
              subst ea
              obtain ⟨Ao, co, rfl, hco, hcom, hoa⟩ := hoc
              have HOA := Lib.hid hoa
              rw [onsP_len, hn6.out] at u2 hco
              unfold maxLen at hcom
              have hgv : gr < V2.heap.size := Nat.lt_of_lt_of_le hg2 HBT.out.size
              have HU2 := Lib.hid ((HBT.out.cell (p := ⟨gr, ir * 3 + 2, none⟩) hg2).trans u2)
              obtain ⟨W3, hW3⟩ : ∃ W, Hid (wo.alloc (.cells #[.string X, .slice A5 n5 c5, .slice A6 n6 c6, .int .i64 r.ln] 47) = W) := ⟨_, Lib.hid rfl⟩
              have hq3 := heap_new wo (.cells #[.string X, .slice A5 n5 c5, .slice A6 n6 c6, .int .i64 r.ln] 47)
              have hb3 := (Below.refl wo.heap.size wo).alloc (Nat.le_refl _) (.cells #[.string X, .slice A5 n5 c5, .slice A6 n6 c6, .int .i64 r.ln] 47)
              rw [hW3.out] at hq3 hb3
              have HQ3r := Lib.hid hq3
              have HB3r := Lib.hid (HK.out.trans (hb3.mono HK.out.size))
              obtain ⟨⟨b0, b1, b2, b3⟩, -⟩ := box4f hq3
              have hs3 := lt_heap hq3
              clear hX hrg hx hv hy hy1 cl h8 hl8 hvl hSb hil hq3 hb3 hbw u2 hg1 hg2 hoa hro hgr HK
              go_upto_region 17 with (fail)
              rw [hW3.out]
              go_wp2_with fail
              clear y0 y1 y2 y3 b0 b1 b2 b3 hbr
              go_loopg [5, 76] n6 (fun gh k i wr2 => ∃ j k2 : Nat, j + gh = n6 ∧ k = .int .i64 (k2 : Int) ∧ i = .int .i64 (j : Int) ∧ Hid (rlK g ir + j = k2) ∧ Hid (Below W3.heap.size W3 wr2))
              case atStart => exact ⟨0, kk, by omega, rfl, rfl, Lib.hid HKK.out, Lib.hid (Below.refl _ _)⟩
              case round =>
                obtain ⟨j, k2, hj2, rfl, rfl, HK2, HW⟩ := hrel
                cases gk with
                | zero =>
                  have h2 : ¬ (j : Int) < (n6 : Int) := by omega
                  obtain rfl : n6 = j := by omega
                  have HKN : Hid (rlK g (ir + 1) = k2) := Lib.hid (by rw [HKS.out]; exact HK2.out)
                  have HKE := Lib.hid (HB3r.out.trans (HW.out.mono HB3r.out.size))
                  go_wp2_with fail
                  go_roundg gg
                  case measure => omega
                  case rel => exact ⟨ir + 1, k2, by omega, by go_num, by go_num, HKN, HKE⟩
                | succ gi =>
                  have h2 : (j : Int) < (n6 : Int) := by omega
                  have hjl : j < r.on.length := by rw [hn6.out]; omega
                  obtain ⟨bb, o, vs, ea6, hSb, hvl, hrg, hx⟩ := HRO.out.at j (Bd.nd r.on[j]) (by simp [hjl])
                  subst ea6
                  have hgj : r.on[j]? = some r.on[j] := List.getElem?_eq_getElem hjl
                  obtain ⟨f, hf1, hf2, hf3⟩ := HOB.out j _ hgj
                  have hsz := HSB.out _ (List.getElem_mem hjl)
                  have hp30 := hps2 _ (List.getElem_mem hjl)
                  have hoat := HOA.out j _ (onsP_at r.on (rlK g ir) j _ hgj)
                  rw [HK2.out] at hf1 hoat
                  generalize r.on[j] = x at *
                  obtain ⟨go, eo, ho1, ho2, -, -, v2⟩ := hoat
                  subst eo
                  obtain ⟨y, y', hv, h8, hl8, hy, hy1⟩ := (hd_rd x.name x.ps 6 (x.st.map Sm.nd) x.ln _).1 hx
                  have f1 := hy
                  have f2 := hy1
                  rw [Rd] at f1 f2
                  obtain ⟨A3, c3, rfl, hc3, hcm3, -⟩ := f1
                  obtain ⟨A4, c4, rfl, -⟩ := f2
                  rw [List.length_map] at hv hy hc3
                  rw [List.length_map] at hv hy1
                  obtain ⟨n3, hn3⟩ : ∃ n, x.ps.length = n := ⟨_, rfl⟩
                  obtain ⟨n4, hn4⟩ : ∃ n, x.st.length = n := ⟨_, rfl⟩
                  obtain ⟨X2, hX2⟩ : ∃ X, strOf x.name = X := ⟨_, rfl⟩
                  obtain ⟨q, hq⟩ : ∃ q, smsN x.st = q := ⟨_, rfl⟩
                  rw [hn3] at hv hc3 hf3 hy hp30
                  rw [hn5.out] at hf3
                  rw [hn4] at hv hy1
                  rw [hX2] at hv
                  rw [hq] at hf2 hsz
                  unfold maxLen at hcm3
                  have hv2 : vs = [.string X2, .slice A3 n3 c3, .slice A4 n4 c4, .int .i64 x.ln] := by
                    injection hv with hv
                    have := congrArg Array.toList hv
                    simpa using this
                  subst hv2
                  have hbw : bb < w.heap.size := hSb
                  have HKW := Lib.hid (HB3r.out.trans (HW.out.mono HB3r.out.size))
                  have HVK2 := Lib.hid (HV2.out.trans (HKW.out.mono HV2.out.size))
                  have hbr : bb < wr.heap.size := Nat.lt_of_lt_of_le hbw HVK2.out.size
                  have cl : ∀ i u, [Value.string X2, .slice A3 n3 c3, .slice A4 n4 c4, .int .i64 x.ln][i]? = some u → wr.cell? ⟨bb, o + j * 4 + i, none⟩ = some u := fun i u hu => by
                    have := hrg i u hu
                    rw [Nat.zero_add] at this
                    exact (HVK2.out.cell (p := ⟨bb, o + j * 4 + i, none⟩) hbw).trans this
                  have y0 : wr.cell? ⟨bb, o + j * 4, none⟩ = some (.string X2) := cl 0 _ rfl
                  have y1 := cl 1 _ rfl
                  have y2 := cl 2 _ rfl
                  have y3 := cl 3 _ rfl
                  obtain ⟨gf, uf, ea, hg1, hg2, -, u1, -, u3, hic⟩ := HFA.out k2 f hf1
                  subst ea
                  obtain ⟨Ai, ci, rfl, hci, hcim, -⟩ := hic
                  obtain ⟨L, hL⟩ : ∃ L, f.code.length = L := ⟨_, rfl⟩
                  obtain ⟨P, hP⟩ : ∃ P, f.params = P := ⟨_, rfl⟩
                  rw [hL] at hf2 u3 hci
                  rw [hP] at hf3 u1
                  have hfl : k2 < nf := by
                    rw [← hnf.out]
                    exact (List.getElem?_eq_some_iff.1 hf1).1
                  obtain ⟨W4, hW4⟩ : ∃ W, Hid (wr.alloc (.cells #[.string X2, .slice A3 n3 c3, .slice A4 n4 c4, .int .i64 x.ln] 41) = W) := ⟨_, Lib.hid rfl⟩
                  have hq4 := heap_new wr (.cells #[.string X2, .slice A3 n3 c3, .slice A4 n4 c4, .int .i64 x.ln] 41)
                  have hb4 := (Below.refl wr.heap.size wr).alloc (Nat.le_refl _) (.cells #[.string X2, .slice A3 n3 c3, .slice A4 n4 c4, .int .i64 x.ln] 41)
                  rw [hW4.out] at hq4 hb4
                  have HQ4b := Lib.hid hq4
                  have HB4b := Lib.hid (HW.out.trans (hb4.mono HW.out.size))
                  have HVB := Lib.hid (HVK2.out.trans (hb4.mono HVK2.out.size))
                  have hgv2 : gf < V2.heap.size := Nat.lt_of_lt_of_le hg2 HBT.out.size
                  have hgv3 : go < V2.heap.size := Nat.lt_of_lt_of_le ho2 HBT.out.size
                  have HU1 := Lib.hid ((HBT.out.cell (p := ⟨gf, k2 * 4 + 1, none⟩) hg2).trans u1)
                  have HU3 := Lib.hid ((HBT.out.cell (p := ⟨gf, k2 * 4 + 3, none⟩) hg2).trans u3)
                  have HU4 := Lib.hid ((HBT.out.cell (p := ⟨go, j * 3 + 2, none⟩) ho2).trans v2)
                  have HSZ := Lib.hid (fun (W : World) (hb : Below w.heap.size w W) => stmtsize_any _ x.st (Nat.lt_succ_self _) (by rw [hq]; omega) W (fun b => b < w.heap.size) (.slice A4 n4 c4) (fun b h => Nat.lt_of_lt_of_le h hb.size) (hy1.keep (fun p hp => hb.cell hp) (fun _ h => h)))
                  rw [hq] at HSZ
                  have HX3 := Lib.hid (fun (W : World) (hb0 : Below W3.heap.size W3 W) (hq : W.heap[wr.heap.size]? = some (.cells #[.string X2, .slice A3 n3 c3, .slice A4 n4 c4, .int .i64 x.ln] 41 (0, 0))) =>
                    have hb : Below V2.heap.size V2 W := HB3r.out.trans (hb0.mono HB3r.out.size)
                    And.intro (cell_block (heap_below HQM.out hb) 2) (And.intro (cell_block (heap_below HQM.out hb) 3) (And.intro ((hb.cell (p := ⟨gf, k2 * 4 + 1, none⟩) hgv2).trans HU1.out) (And.intro ((hb.cell (p := ⟨gf, k2 * 4 + 3, none⟩) hgv2).trans HU3.out) (And.intro ((hb.cell (p := ⟨gr, ir * 3 + 2, none⟩) hgv).trans HU2.out) (And.intro ((hb.cell (p := ⟨go, j * 3 + 2, none⟩) hgv3).trans HU4.out) (And.intro (cell_block (heap_below HQ3r.out hb0) 1) (And.intro (cell_block hq 1) (cell_block hq 2)))))))))
                  obtain ⟨e2, e3, e4, e5, e6, e7, e8, e9, e10⟩ := HX3.out W4 HB4b.out HQ4b.out
                  have hs4 := lt_heap hq4
                  have hVW := HB3r.out.size
                  have hWw := HB4b.out.size
                  have hg3 : gf < W4.heap.size := by omega
                  have hg4 : go < W4.heap.size := by omega
                  have hg5 : gr < W4.heap.size := by omega
                  have hm3 : w3.heap.size < W4.heap.size := by omega
                  have hr3 : wo.heap.size < W4.heap.size := by omega
                  have t1 : ¬ (nf : Int) ≤ (k2 : Int) := by omega
                  have t2 : decide ((nf : Int) ≤ (k2 : Int)) = false := decide_eq_false t1
                  have t3 : (k2 : Int) < (nf : Int) := by omega
                  have t4 : ¬ (nR : Int) ≤ (ir : Int) := by omega
                  have t5 : decide ((nR : Int) ≤ (ir : Int)) = false := decide_eq_false t4
                  have t6 : ¬ (n6 : Int) ≤ (j : Int) := by omega
                  have t7 : decide ((n6 : Int) ≤ (j : Int)) = false := decide_eq_false t6
                  have t8 : ((L : Int) != IntKind.i64.wrap ((q : Int) + 1)) = false := by
                    rw [IntWalk.i64_in _ (by omega)]
                    rw [bne_eq_false_iff_eq]
                    omega
                  have t9 : ((P : Int) != IntKind.i64.wrap ((n5 : Int) + (n3 : Int))) = false := by
                    rw [IntWalk.i64_in _ (by omega)]
                    rw [bne_eq_false_iff_eq]
                    omega
                  have t10 : ((k2 : Int) != (k2 : Int)) = false := by simp
                  clear hf2 hf3 hX2 hn3 hn4 hrg hx hv hy hy1 cl h8 hl8 hvl hSb hsz hjl hq4 hb4 hbw hL hP hq u1 u3 v2 hf1 hg1 hg2 ho1 ho2 hgj hVW hWw
                  go_upto_region 20 with (fail)
                  rw [hW4.out]
                  go_region_held3 (fun w' => w'.cell? ⟨w3.heap.size, 2, none⟩ = some (.slice (some ⟨gf, 0, none⟩) nf cf) ∧ w'.cell? ⟨w3.heap.size, 3, none⟩ = some (.slice (some ⟨gr, 0, none⟩) nR cr) ∧ w'.cell? ⟨gf, k2 * 4 + 1, none⟩ = some (.int .i64 (P : Int)) ∧ w'.cell? ⟨gf, k2 * 4 + 3, none⟩ = some (.slice Ai L ci) ∧ w'.cell? ⟨gr, ir * 3 + 2, none⟩ = some (.slice (some ⟨go, 0, none⟩) n6 co) ∧ w'.cell? ⟨go, j * 3 + 2, none⟩ = some (.int .i64 (k2 : Int)) ∧ w'.cell? ⟨wo.heap.size, 1, none⟩ = some (.slice A5 n5 c5) ∧ w'.cell? ⟨wr.heap.size, 1, none⟩ = some (.slice A3 n3 c3) ∧ w'.cell? ⟨wr.heap.size, 2, none⟩ = some (.slice A4 n4 c4)) (go_keep)
                    (first
                      | (go_at_call 8
                         refine (HSZ.out _ (by first | exact HVB.out | exact HVB.out.drew)).mono ?_
                         rintro e w4 ⟨rfl, hb4⟩
                         have hb5 : Below W4.heap.size W4 w4 := by first | exact hb4 | exact ((Below.refl _ _).drew).trans hb4
                         have HB4 := Lib.hid (HB4b.out.trans (hb5.mono HB4b.out.size))
                         obtain ⟨e2, e3, e4, e5, e6, e7, e8, e9, e10⟩ := HX3.out w4 HB4.out (heap_below HQ4b.out hb5)
                         clear hb4 hb5)
                      | (fail))
                  have HK3 : Hid (rlK g ir + (j + 1) = k2 + 1) := Lib.hid (by rw [← HK2.out]; rfl)
                  clear HX3 HSZ HQ4b HB4b HVB HU1 HU3 HU4 e2 e3 e4 e5 e6 e7 e8 e9 e10 y0 y1 y2 y3
                  go_wp2_with fail
                  go_roundg gi
                  case measure => omega
                  case rel => exact ⟨j + 1, k2 + 1, by omega, by go_num, by go_num, HK3, HB4⟩
        | succ gg =>
          have h1 : (j : Int) < (nF : Int) := by omega
          have hjl : j < g.fns.length := by rw [hnF.out]; omega
          obtain ⟨bb, o, vs, rfl, hSb, hvl, hrg, hx⟩ := HRF.out.at j (Bd.nd g.fns[j]) (by simp [hjl])
          obtain ⟨f, hf1, hf2, hf3⟩ := HCF.out j _ (List.getElem?_eq_getElem hjl)
          have hsz := HR1.out _ (List.getElem_mem hjl)
          generalize g.fns[j] = x at *
          obtain ⟨y, y', hv, h8, hl8, hy, hy1⟩ := (hd_rd x.name x.ps 6 (x.st.map Sm.nd) x.ln _).1 hx
          have f1 := hy
          have f2 := hy1
          rw [Rd] at f1 f2
          obtain ⟨A3, c3, rfl, hc3, hcm3, -⟩ := f1
          obtain ⟨A4, c4, rfl, -⟩ := f2
          rw [List.length_map] at hv hy hc3
          rw [List.length_map] at hv hy1
          obtain ⟨n3, hn3⟩ : ∃ n, x.ps.length = n := ⟨_, rfl⟩
          obtain ⟨n4, hn4⟩ : ∃ n, x.st.length = n := ⟨_, rfl⟩
          obtain ⟨X, hX⟩ : ∃ X, strOf x.name = X := ⟨_, rfl⟩
          obtain ⟨q, hq⟩ : ∃ q, smsN x.st = q := ⟨_, rfl⟩
          rw [hn3] at hv hc3 hf3 hy
          rw [hn4] at hv hy1
          rw [hX] at hv
          rw [hq] at hf2 hsz
          unfold maxLen at hcm3
          have hv2 : vs = [.string X, .slice A3 n3 c3, .slice A4 n4 c4, .int .i64 x.ln] := by
            injection hv with hv
            have := congrArg Array.toList hv
            simpa using this
          subst hv2
          have hbw : bb < w.heap.size := hSb
          have HVK := Lib.hid (HV2.out.trans (HK.out.mono HV2.out.size))
          have hbr : bb < wr.heap.size := Nat.lt_of_lt_of_le hbw HVK.out.size
          have cl : ∀ i u, [Value.string X, .slice A3 n3 c3, .slice A4 n4 c4, .int .i64 x.ln][i]? = some u → wr.cell? ⟨bb, o + j * 4 + i, none⟩ = some u := fun i u hu => by
            have := hrg i u hu
            rw [Nat.zero_add] at this
            exact (HVK.out.cell (p := ⟨bb, o + j * 4 + i, none⟩) hbw).trans this
          have y0 : wr.cell? ⟨bb, o + j * 4, none⟩ = some (.string X) := cl 0 _ rfl
          have y1 := cl 1 _ rfl
          have y2 := cl 2 _ rfl
          have y3 := cl 3 _ rfl
          obtain ⟨gf, uf, ea, hg1, hg2, -, u1, -, u3, hic⟩ := HFA.out j f hf1
          subst ea
          obtain ⟨Ai, ci, rfl, hci, hcim, -⟩ := hic
          obtain ⟨L, hL⟩ : ∃ L, f.code.length = L := ⟨_, rfl⟩
          obtain ⟨P, hP⟩ : ∃ P, f.params = P := ⟨_, rfl⟩
          rw [hL] at hf2 u3 hci
          rw [hP] at hf3 u1
          subst hf3
          have hfl : j < nf := by
            rw [← hnf.out]
            exact (List.getElem?_eq_some_iff.1 hf1).1
          obtain ⟨W3, hW3⟩ : ∃ W, Hid (wr.alloc (.cells #[.string X, .slice A3 P c3, .slice A4 n4 c4, .int .i64 x.ln] 41) = W) := ⟨_, Lib.hid rfl⟩
          have hq3 := heap_new wr (.cells #[.string X, .slice A3 P c3, .slice A4 n4 c4, .int .i64 x.ln] 41)
          have hb3 := (Below.refl wr.heap.size wr).alloc (Nat.le_refl _) (.cells #[.string X, .slice A3 P c3, .slice A4 n4 c4, .int .i64 x.ln] 41)
          rw [hW3.out] at hq3 hb3
          have HQ3b := Lib.hid hq3
          have HB3b := Lib.hid (HK.out.trans (hb3.mono HK.out.size))
          have HVB := Lib.hid (HV2.out.trans (HB3b.out.mono HV2.out.size))
          have hgv : gf < V2.heap.size := Nat.lt_of_lt_of_le hg2 HBT.out.size
          have HU1 := Lib.hid ((HBT.out.cell (p := ⟨gf, j * 4 + 1, none⟩) hg2).trans u1)
          have HU3 := Lib.hid ((HBT.out.cell (p := ⟨gf, j * 4 + 3, none⟩) hg2).trans u3)
          have HSZ := Lib.hid (fun (W : World) (hb : Below w.heap.size w W) => stmtsize_any _ x.st (Nat.lt_succ_self _) (by rw [hq]; omega) W (fun b => b < w.heap.size) (.slice A4 n4 c4) (fun b h => Nat.lt_of_lt_of_le h hb.size) (hy1.keep (fun p hp => hb.cell hp) (fun _ h => h)))
          rw [hq] at HSZ
          have HX3 := Lib.hid (fun (W : World) (hb : Below V2.heap.size V2 W) (hq : W.heap[wr.heap.size]? = some (.cells #[.string X, .slice A3 P c3, .slice A4 n4 c4, .int .i64 x.ln] 41 (0, 0))) =>
            And.intro (cell_block (heap_below HQM.out hb) 2) (And.intro ((hb.cell (p := ⟨gf, j * 4 + 1, none⟩) hgv).trans HU1.out) (And.intro ((hb.cell (p := ⟨gf, j * 4 + 3, none⟩) hgv).trans HU3.out) (And.intro (cell_block hq 1) (cell_block hq 2)))))
          obtain ⟨e2, e3, e4, e5, e6⟩ := HX3.out W3 HB3b.out HQ3b.out
          have hs3 := lt_heap hq3
          have hg3 : gf < W3.heap.size := Nat.lt_of_lt_of_le hgv HB3b.out.size
          have hmg := lt_heap HQM.out
          have hm3 : w3.heap.size < W3.heap.size := Nat.lt_of_lt_of_le hmg HB3b.out.size
          have t1 : ¬ (nf : Int) ≤ (j : Int) := by omega
          have t2 : decide ((nf : Int) ≤ (j : Int)) = false := decide_eq_false t1
          have t3 : (j : Int) < (nf : Int) := by omega
          have t4 : ((L : Int) != IntKind.i64.wrap ((q : Int) + 2)) = false := by
            rw [IntWalk.i64_in _ (by omega)]
            rw [bne_eq_false_iff_eq]
            omega
          have t5 : ((P : Int) != (P : Int)) = false := by simp
          clear hf2 hX hn3 hn4 hrg hx hv hy hy1 cl h8 hl8 hvl hSb hsz hjl hq3 hb3 hbw hL hP hq u1 u3 hf1 hg1 hg2
          go_upto_region 10 with (fail)
          rw [hW3.out]
          go_region_held3 (fun w' => w'.cell? ⟨w3.heap.size, 2, none⟩ = some (.slice (some ⟨gf, 0, none⟩) nf cf) ∧ w'.cell? ⟨gf, j * 4 + 1, none⟩ = some (.int .i64 (P : Int)) ∧ w'.cell? ⟨gf, j * 4 + 3, none⟩ = some (.slice Ai L ci) ∧ w'.cell? ⟨wr.heap.size, 1, none⟩ = some (.slice A3 P c3) ∧ w'.cell? ⟨wr.heap.size, 2, none⟩ = some (.slice A4 n4 c4)) (go_keep)
            (first
              | (go_at_call 8
                 refine (HSZ.out _ (by first | exact HVB.out | exact HVB.out.drew)).mono ?_
                 rintro e w4 ⟨rfl, hb4⟩
                 have hb5 : Below W3.heap.size W3 w4 := by first | exact hb4 | exact ((Below.refl _ _).drew).trans hb4
                 have HB4 := Lib.hid (HB3b.out.trans (hb5.mono HB3b.out.size))
                 obtain ⟨e2, e3, e4, e5, e6⟩ := HX3.out w4 HB4.out (heap_below HQ3b.out hb5)
                 clear hb4 hb5)
              | (fail))
          clear HX3 HSZ HQ3b HB3b HVB HU1 HU3 e2 e3 e4 e5 e6 y0 y1 y2 y3
          go_wp2_with fail
          go_roundg gg
          case measure => omega
          case rel => exact ⟨j + 1, by omega, by go_num, by go_num, HB4⟩
    · obtain ⟨er, her⟩ : ∃ er, Hid ((checkF g).1 = er) := ⟨_, Lib.hid rfl⟩
      rw [her.out] at hz
      have e1 : ((er : Int) != 0) = true := bne_iff_ne.2 (by omega)
      have HZ := Lib.hid hz
      clear hz hlen
      go_wp2_with (first
        | (go_at_call 5
           refine HH1.out.mono ?_
           rintro e w2 ⟨rfl, hb2⟩
           have HB2 := Lib.hid (HB0.out.trans (hb2.mono HB0.out.size))
           have HQ2 := Lib.hid (heap_below HQ0.out hb2)
           obtain ⟨⟨r0, r1⟩, -⟩ := bx2 HQ2.out
           have hs2 := lt_heap HQ2.out
           clear hb2)
        | (go_at_call 7
           refine (HC.out _ HB2.out).mono ?_
           rintro e w3 ⟨hb3, ⟨-, rfl⟩ | ⟨hz', -⟩⟩
           rotate_left
           · exact absurd (her.out.symm.trans hz') HZ.out
           rw [her.out]
           have HB3 : Hid (Below w.heap.size w ((w3.alloc (.cells #[.slice none 0 0, .slice none 0 0, .slice none 0 0, .slice none 0 0] 33)).alloc (.cells #[.int .i64 (er : Int), .int .i64 (checkF g).2] 36))) := Lib.hid (HB2.out.trans ((hb3.trans ((two w3 _ _).mono hb3.size)).mono HB2.out.size))
           clear hb3)
        | (go_at_call 6
           refine (HAW.out _ HB3.out).mono ?_
           rintro e w4 ⟨rfl, hb4⟩
           have HB4 := Lib.hid (HB3.out.trans (hb4.mono HB3.out.size))
           clear hb4)
        | (fail))
      go_ret
      exact ⟨rfl, HB4.out⟩
set_option maxRecDepth 100000 in
set_option maxHeartbeats 8000000 in
theorem lifted (os : Os) (started : os.Started) (H : Type) (enc : TypeId × Value → H) :
    ReturnsInHanded {} Tryz.checked os 3 .any (fun w args => (Rows.codeLengthsSpec.pre enc Tryz.prog Tryz.f3 [] false w args ∧ laidMetH Tryz.prog laidO w) ∧ sizedMet enc Tryz.prog Tryz.f3 (OpenSpec.ofChange Rows.codeLengthsSpec) false w args) (Rows.codeLengthsSpec.post enc Tryz.prog Tryz.f3 false true false false) := by
  refine returnsInHanded_of_change_and (C := Tryz.checked) (X := fun w _ => laidMetH Tryz.prog laidO w) (fun _ _ _ hh h => h.of_heap hh) knob_own started (by as_aux_lemma => kernel_rfl) Tryz.func3
    (ChangeSpec.witness_shaped (enc := enc) (C := Tryz.checked) (os := os) (X := fun w _ => laidMetH Tryz.prog laidO w) false (World.doorLaid Tryz.prog 400 os) #[.agg #[.slice none 0 0, .slice none 0 0]] 8 rfl (World.shaped_of_RefB (by as_aux_lemma => kernel_rfl) (by as_aux_lemma => kernel_rfl)) (by as_aux_lemma => kernel_rfl) (by as_aux_lemma => kernel_rfl) (by as_aux_lemma => kernel_rfl) (doorO_met os _)) ?_
  intro W base args ds gs before hval0 hW _ hsz hL _
  have hval : ∀ (j : Nat) t v, Tryz.f3.params[j]? = some t → args[j]? = some v → Value.okWide Tryz.prog W .any base t v := hval0
  have hW' := hW
  obtain ⟨p, q, hA0, hV, rfl, hfz, hnd⟩ := hW
  have hA : DataW.TrodAll enc Tryz.prog W 0 (fun _ => true) true Tryz.f3.params.toList args.toList ds p := hA0
  rw [Tryz.params3] at hA hval
  obtain ⟨v0, vs0, d0, ds0, p0, q0, hargs, rfl, rfl, h0, r0⟩ := trodAll_cons hA
  obtain ⟨rfl, rfl, rfl⟩ := trodAll_nil r0
  obtain rfl : args = #[v0] := by cases args; simp_all
  obtain ⟨rfl, rfl⟩ := trodVars_none hV
  have k0 := h0
  have lt0 : ∀ x ∈ p0, x.block < W.heap.size := by obtain ⟨m, hm⟩ := k0; exact DataW.trod_lt m _ _ _ hm
  have w0 : ∃ g, Rw W (fun b => b < W.heap.size) (Pg.nd g) v0 ∧ NbP g ∧ B8P g ∧ g.fns.length + g.roles.length ≤ 1125899906842624 := by
    obtain ⟨g, g1, g2, g3⟩ := prog_open (hval 0 25 v0 rfl rfl) h0
    exact ⟨g, g1, g2, g3, prog_len g1 h0 hsz⟩
  clear hA0 hval0
  refine (walk W (w11_laid hL) v0 w0).mono fun e W' ⟨he, bel⟩ => ?_
  subst he
  exact ⟨_, rfl, _, _, _, [], _, [], hW', trodAll_mk1 (shut_bool Tryz.underlying4 _), (trodAll_cons_mk (Below.trod laid_out (by as_aux_lemma => kernel_rfl) (of_decide_eq_true (by as_aux_lemma => kernel_rfl)) k0 bel lt0) (trodAll_mk0)), rfl, bel.frame _, fun h => by cases h⟩
set_option maxHeartbeats 8000000 in
theorem closed : joinedFacts Tryz.pinned.checked.prog 3 Tryz.f3 Rows.codeLengthsSpec Rows.codeLengthsRow = true := by
  unfold joinedFacts
  simp only [Bool.and_eq_true]
  repeat' apply And.intro
  all_goals (as_aux_lemma => kernel_rfl)
set_option maxHeartbeats 8000000 in
theorem over : Rows.codeLengthsRow.holds Tryz.pinned (OpenSpec.ofChange Rows.codeLengthsSpec) :=
  OpenClaim.holds_of_wide 3 Tryz.f3 rfl rfl rfl rfl rfl rfl rfl ⟨rfl, rfl, rfl, rfl, rfl⟩ rfl rfl rfl rfl rfl (by as_aux_lemma => kernel_rfl) Tryz.func3 closed
    (of_decide_eq_true (by as_aux_lemma => kernel_rfl)) (by unfold Func.isWrapper; first | (rw [if_pos (by decide +kernel)]; kernel_rfl) | (rw [if_neg (by decide +kernel)]; exact ⟨rfl, rfl⟩))
    (fun os started H enc _ => lifted os started H enc)
set_option maxHeartbeats 8000000 in
theorem proved : Rows.CodeLengthsCardSaid :=
  Claim7.holds_tied_plain_at .later [] [.data, .data, .data, .sentinel, .sentinel, .data, .data] true Rows.codeLengthsCard.stood.harness Rows.codeLengthsCard.stood.looks
    over (fun _ h => by cases h) (by as_aux_lemma => kernel_rfl) (fun _ h => by cases h) codeLengths_row_tie rfl ⟨rfl, rfl⟩ (by as_aux_lemma => kernel_rfl) rfl
    (fun f fn hf hfn => by
      obtain rfl : f = 3 := Option.some.inj ((show Tryz.prog.funcNamed "drover/droverlaw11.CodeLengths" = some 3 by as_aux_lemma => kernel_rfl).symm.trans hf) |>.symm
      obtain rfl : fn = Tryz.f3 := (Option.some.inj (Tryz.func3.symm.trans hfn)).symm
      exact ⟨by as_aux_lemma => kernel_rfl, fun j t ht => by
        have hall : (Tryz.f3.params.toList.all fun u => !Tryz.prog.wantsStandIn u) = true := by as_aux_lemma => kernel_rfl
        have hm : t ∈ Tryz.f3.params.toList := Array.mem_toList_iff.2 (Array.mem_of_getElem? ht)
        exact (show Tryz.prog.wantsStandIn t = false by simpa using List.all_eq_true.1 hall t hm)⟩)
    (by as_aux_lemma => kernel_rfl)
end Go.Proofs.YtcmopnkldplngaaGreatDoor.codeLengths
