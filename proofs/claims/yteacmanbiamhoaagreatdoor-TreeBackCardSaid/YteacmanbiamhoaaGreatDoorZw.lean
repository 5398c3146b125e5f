/- Package tree: Show, of a program of any size. Written by gen/bigshow.py. -/
import Derived.Test.YteacmanbiamhoaaGreatDoorYpt
import Derived.Test.YteacmanbiamhoaaGreatDoorZr
import Derived.Test.YteacmanbiamhoaaGreatDoorZso
namespace Go.Proofs.YteacmanbiamhoaaGreatDoor
open Go.RowKit
set_option linter.unusedVariables false

def showB (g : Pg) : List Nat × Nat := if rightB g then if (pgS g).long then ([], 3) else ((pgS g).t, 0) else ([], 103)
theorem showB_eq {g : Pg} (h : g.fns.length + g.roles.length ≤ 1000000) : showB g = showF g := by
  unfold showB showF
  rw [rightB_eq h]
theorem bds_ge (lv : Nat) (key : List Nat) : ∀ l : List Bd, l.length ≤ (bdsT lv key l).length
  | [] => Nat.zero_le _
  | x :: r => by
    have := bds_ge lv key r
    have h1 : 1 ≤ (bdT lv key x).length := by
      unfold bdT
      rw [List.length_append]
      simp
    show r.length + 1 ≤ (bdT lv key x ++ bdsT lv key r).length
    rw [List.length_append]
    omega
theorem rls_ge : ∀ l : List Rl, l.length ≤ (rlsT l).length
  | [] => Nat.zero_le _
  | x :: r => by
    have := rls_ge r
    have h1 : 1 ≤ (rlT x).length := by
      unfold rlT
      rw [List.length_append]
      simp
    show r.length + 1 ≤ (rlT x ++ rlsT r).length
    rw [List.length_append]
    omega
/-- What is shown is no great program. -/
theorem showB_small {g : Pg} {T : List Nat} (h : showB g = (T, 0)) : g.fns.length + g.roles.length ≤ 32768 := by
  unfold showB at h
  split at h
  · split at h
    · cases h
    · rename_i hl
      have hl' : (pgS g).long = false := by simpa using hl
      obtain ⟨h1, h2, h3⟩ := ((bdsS_app 0 [102, 117, 110, 99, 32] g.fns).comp (rlsS_app g.roles)) ⟨[], false⟩ hl'
      have h4 := h3 (by simp)
      rw [h2] at h4
      have := bds_ge 0 [102, 117, 110, 99, 32] g.fns
      have := rls_ge g.roles
      rw [List.length_append, List.length_append] at h4
      omega
  · cases h
theorem okPgB {g : Pg} (h : rightB g = true) (hn : NbP g) : (∀ b ∈ g.fns, OkB b) ∧ ∀ r ∈ g.roles, OkR r := by
  unfold rightB at h
  split at h
  · cases h
  · cases hc : bodiesR g.fns 2000 with
    | none => rw [hc] at h; cases h
    | some c =>
      rw [hc] at h
      obtain ⟨c', hc'⟩ := Option.isSome_iff_exists.1 h
      exact ⟨okBs hc hn.1, okRs hc' hn.2⟩
set_option maxRecDepth 100000 in
set_option maxHeartbeats 8000000 in
/-- Show, of any program. -/
theorem show_w (w : World) (hw : Wt w) (hF : ∀ w', Below w.heap.size w w' → Fmt w' w'.heap.size) (g : Pg) (hnb : NbP g) (S : Nat → Prop) (hS : ∀ b, S b → b < w.heap.size) (v : Value) (hv : Rd w S g.nd v) :
    Calls Tryz.prog 20 #[v] w fun e w' => e = .returned (.tuple #[.string (strOf (showB g).1), .int .i64 ((showB g).2 : Int)]) ∧ Below w.heap.size w w' ∧ ∀ x ∈ (showB g).1, x < 256 := by
  obtain ⟨y, z, rfl, hy, hz⟩ := (Pg.rd g v).1 hv
  rw [Rd] at hy hz
  obtain ⟨AF, cF, rfl, hcF, hmF, hrF⟩ := hy
  obtain ⟨AR, cR, rfl, hcR, hmR, hrR⟩ := hz
  rw [List.length_map] at hcF hcR
  rw [List.length_map, List.length_map] at hv ⊢
  obtain ⟨nF, hnF⟩ : ∃ n, g.fns.length = n := ⟨_, rfl⟩
  obtain ⟨nR, hnR⟩ : ∃ n, g.roles.length = n := ⟨_, rfl⟩
  rw [hnF] at hcF hv ⊢
  rw [hnR] at hcR hv ⊢
  have hB0 : Below w.heap.size w (w.alloc (.cells #[.slice AF nF cF, .slice AR nR cR] 26)) := (Below.refl _ _).alloc (Nat.le_refl _) _
  have HB0 := Lib.hid hB0
  have HQ0 := Lib.hid (heap_new w (.cells #[.slice AF nF cF, .slice AR nR cR] 26))
  have HRT := Lib.hid (right_w w hw g (w.alloc (.cells #[.slice AF nF cF, .slice AR nR cR] 26)) S _ hB0 (fun b h => by have := hS b h; simp; omega) (Rd.keep (fun p hp => hB0.cell (hS _ hp)) (fun _ h => h) _ _ hv))
  obtain ⟨⟨q0, q1⟩, -⟩ := bx2 HQ0.out
  unfold showB
  cases hrp : rightB g with
  | false =>
    rw [hrp] at HRT
    clear hv hrF hrR hB0 hS hF hw hrp
    go_enter Tryz.func20, Tryz.ntmps20
    go_wp2_with (first
      | (go_at_call 22
         refine HRT.out.mono ?_
         rintro e w1 ⟨rfl, hb1⟩
         have HB1 := Lib.hid (HB0.out.trans (hb1.mono HB0.out.size))
         clear hb1)
      | (fail))
    exact bodyPost_ret (v := .tuple #[.string ⟨#[]⟩, .int .i64 103]) (by simp [results, Tryz.results20, go_sem]) rfl (by first | exact ⟨rfl, HB1.out⟩ | exact ⟨rfl, HB1.out, by simp⟩)
  | true =>
    rw [hrp] at HRT
    obtain ⟨RS, hRS⟩ : ∃ r, Hid ((if true = true then if (pgS g).long = true then (([] : List Nat), 3) else ((pgS g).t, 0) else ([], 103)) = r) := ⟨_, Lib.hid rfl⟩
    rw [hRS.out]
    obtain ⟨okf, okr⟩ := okPgB hrp hnb
    have HOF := Lib.hid okf
    have HOR := Lib.hid okr
    have HV := Lib.hid hv
    have HSS := Lib.hid hS
    have HFM := Lib.hid hF
    have HRF := Lib.hid hrF
    have HRR := Lib.hid hrR
    have HNF := Lib.hid hnF
    have HNR := Lib.hid hnR
    unfold maxLen at hmF hmR
    clear hv hrF hrR hB0 hS hF hw hrp okf okr hnF hnR
    go_enter Tryz.func20, Tryz.ntmps20
    go_wp2_with (first
      | (go_at_call 22
         refine HRT.out.mono ?_
         rintro e w1 ⟨rfl, hb1⟩
         have HB1 := Lib.hid (HB0.out.trans (hb1.mono HB0.out.size))
         have HQ1 := Lib.hid (heap_below HQ0.out hb1)
         obtain ⟨⟨r0, r1⟩, -⟩ := bx2 HQ1.out
         have hs1 : w.heap.size < w1.heap.size := lt_heap HQ1.out
         clear hb1)
      | (fail))
    have hkw : ∀ p : Addr, S p.block → w1.cell? p = w.cell? p := fun p hp => HB1.out.cell (HSS.out _ hp)
    have hS1 : ∀ b, S b → b < w1.heap.size := fun b hb => by have := HSS.out b hb; omega
    have HBD := Lib.hid (fun (b : Bd) (hb : b ∈ g.fns) => bodyL_any w1 w1.heap.size S hS1 (HFM.out w1 HB1.out) b (HOF.out b hb) 0 (by omega) [102, 117, 110, 99, 32] (by simp) (by simp))
    have HRL := Lib.hid (fun (r : Rl) (hr : r ∈ g.roles) => roleL_any w1 w1.heap.size S hS1 (HFM.out w1 HB1.out) r (HOR.out r hr) 0 rfl)
    have HCF := Lib.hid (fun j (b : Bd) (hj : g.fns[j]? = some b) => hd_all (Rds.keep hkw (fun _ h => h) AF 4 0 _ HRF.out) hS1 j b.name b.ps 6 (b.st.map Sm.nd) b.ln (by rw [List.getElem?_map, hj]; rfl))
    have HCR := Lib.hid (fun j (r : Rl) (hj : g.roles[j]? = some r) => hd_all (Rds.keep hkw (fun _ h => h) AR 4 0 _ HRR.out) hS1 j r.name r.ps 4 (r.on.map Bd.nd) r.ln (by rw [List.getElem?_map, hj]; rfl))
    have HS0 : Hid (ShAt w1.heap.size w1.heap.size (w1.alloc (.cells #[.slice none 0 0, .bool false, .int .i64 0] 120)) ⟨[], false⟩ 0 (.slice none 0 0)) := Lib.hid ⟨heap_new w1 _, World.ownsRow_nil _ _ _ 1, Nat.le_refl _, by simp, by simp⟩
    have HK0 : Hid (Below w1.heap.size w1 (w1.alloc (.cells #[.slice none 0 0, .bool false, .int .i64 0] 120))) := Lib.hid ((Below.refl _ _).alloc (Nat.le_refl _) _)
    have HQW := Lib.hid (heap_old HQ1.out (.cells #[.slice none 0 0, .bool false, .int .i64 0] 120))
    clear hkw hS1 HRT HFM HOF HOR HRF HRR HV q0 q1 r0 r1
    obtain ⟨q, hq⟩ : ∃ q, w1.heap.size = q := ⟨_, rfl⟩
    obtain ⟨W2, hW2⟩ : ∃ W, Hid (w1.alloc (.cells #[.slice none 0 0, .bool false, .int .i64 0] 120) = W) := ⟨_, Lib.hid rfl⟩
    rw [hW2.out] at HS0 HK0 HQW ⊢
    rw [hq] at HS0 HK0 HBD HRL HCF HCR hs1 ⊢
    have HQQ := Lib.hid hq
    obtain ⟨RF, hRF⟩ : ∃ R, Hid (bdsS 0 [102, 117, 110, 99, 32] g.fns ⟨[], false⟩ = R) := ⟨_, Lib.hid rfl⟩
    unfold at0 at *
    clear hq hW2
    go_loopg [17] nF (fun g1 i wr => ∃ (j : Nat) (sj : Sw) (vj : Value), j + g1 = nF ∧ i = .int .i64 (j : Int) ∧ Hid (bdsS 0 [102, 117, 110, 99, 32] (g.fns.drop j) sj = RF) ∧ Hid (ShAt q q wr sj 0 vj) ∧ Hid (Below q w1 wr) ∧ Hid (wr.heap[w.heap.size]? = some (.cells #[.slice AF nF cF, .slice AR nR cR] 26 (0, 0))))
    case atStart => exact ⟨0, _, _, by omega, rfl, Lib.hid (by rw [List.drop_zero]; exact hRF.out), HS0, HK0, HQW⟩
    case round =>
      obtain ⟨j, sj, vj, hj, rfl, HF, HS, HK, HQ⟩ := hrel
      have hqw : q < wr.heap.size := HS.out.lt
      cases gk with
      | zero =>
        have h1 : ¬ (j : Int) < (nF : Int) := by omega
        have HE1 : Hid (sj = RF) := Lib.hid (by rw [← HF.out, List.drop_eq_nil_of_le (by rw [HNF.out]; omega)]; rfl)
        obtain ⟨⟨r0, r1⟩, -⟩ := bx2 HQ.out
        obtain ⟨R, hR⟩ : ∃ R, Hid (rlsS g.roles RF = R) := ⟨_, Lib.hid rfl⟩
        have HPG : Hid (pgS g = R) := Lib.hid (by unfold pgS; rw [hRF.out]; exact hR.out)
        clear HF HBD HCF HQ hRF
        go_wp2_with fail
        go_loopg [28] nR (fun g2 i wr2 => ∃ (j : Nat) (sj : Sw) (vj : Value), j + g2 = nR ∧ i = .int .i64 (j : Int) ∧ Hid (rlsS (g.roles.drop j) sj = R) ∧ Hid (ShAt q q wr2 sj 0 vj) ∧ Hid (Below q w1 wr2))
        case atStart => exact ⟨0, _, _, by omega, rfl, Lib.hid (by rw [List.drop_zero, HE1.out]; exact hR.out), HS, HK⟩
        case round =>
          clear HS HK HE1 r0 r1 hqw
          obtain ⟨j2, sj2, vj2, hj2, rfl, HF, HS, HK⟩ := hrel
          have hqw : q < wr.heap.size := HS.out.lt
          cases gk with
          | zero =>
            have h3 : ¬ (j2 : Int) < (nR : Int) := by omega
            have HE2 : Hid (sj2 = R) := Lib.hid (by rw [← HF.out, List.drop_eq_nil_of_le (by rw [HNR.out]; omega)]; rfl)
            have HBW : Hid (Below w.heap.size w wr) := Lib.hid (HB1.out.trans (HK.out.mono (Nat.le_of_lt hs1)))
            obtain ⟨tt, lg⟩ := sj2
            obtain ⟨Av, cv, rfl, hcv, hcmv, hat, -⟩ := HS.out.own.form
            have hcs := run_strOf wr wr.heap.size Av cv tt hat HS.out.ok
            obtain ⟨ST, hST⟩ : ∃ ST, Hid (strOf tt = ST) := ⟨_, Lib.hid rfl⟩
            rw [hST.out] at hcs
            obtain ⟨⟨c0, c1, c2⟩, -⟩ := bx3 HS.out.h
            dsimp only at c0 c1 c2 hcs
            clear HF HRL HCR hR hat
            cases lg with
            | true =>
              have hsf : RS = ([], 3) := by rw [← hRS.out, HPG.out, ← HE2.out]; rfl
              clear hRS
              subst hsf
              go_wp2_with fail
              exact bodyPost_ret (v := .tuple #[.string ⟨#[]⟩, .int .i64 3]) (by simp [results, Tryz.results20, go_sem]) rfl (by first | exact ⟨rfl, HBW.out⟩ | exact ⟨rfl, HBW.out, by simp⟩)
            | false =>
              have hsf : RS = (tt, 0) := by rw [← hRS.out, HPG.out, ← HE2.out]; rfl
              clear hRS
              subst hsf
              go_wp2_with fail
              exact bodyPost_ret (v := .tuple #[.string ST, .int .i64 0]) (by simp [results, Tryz.results20, go_sem]) rfl ⟨by rw [← hST.out], HBW.out, HS.out.ok⟩
          | succ g2 =>
            have h3 : (j2 : Int) < (nR : Int) := by omega
            have h2 : j2 < nR := by omega
            have hjl : j2 < g.roles.length := by rw [HNR.out]; exact h2
            obtain ⟨b, o, es, A1, n1, c1, A2, n2, c2, rfl, hSb, hcell, hx⟩ := HCR.out j2 g.roles[j2] (by simp [hjl])
            have hbq : Below q w1 wr := HK.out
            obtain ⟨y0, y1, y2, y3⟩ := hcell wr hbq
            have HD := Lib.hid (List.drop_eq_getElem_cons hjl)
            have HX := Lib.hid hx
            have HC := Lib.hid (HRL.out g.roles[j2] (List.getElem_mem hjl))
            have HF2 : Hid (rlsS (g.roles.drop (j2 + 1)) (rlS g.roles[j2] sj2) = R) := Lib.hid (by rw [← HF.out, HD.out]; rfl)
            obtain ⟨t, ht⟩ : ∃ t, g.roles[j2] = t := ⟨_, rfl⟩
            rw [ht] at HX HC HF2 y3
            have hbr : b < wr.heap.size := by omega
            have HQB := Lib.hid (heap_new wr (.cells #[.string es, .slice A1 n1 c1, .slice A2 n2 c2, .int .i64 t.ln] 85))
            have HS4 := Lib.hid (HS.out.alloc (.cells #[.string es, .slice A1 n1 c1, .slice A2 n2 c2, .int .i64 t.ln] 85))
            have HK4 := Lib.hid (HK.out.alloc (by omega) (.cells #[.string es, .slice A1 n1 c1, .slice A2 n2 c2, .int .i64 t.ln] 85))
            obtain ⟨⟨z0, z1, z2, z3⟩, -⟩ := box4f HQB.out
            clear HF HD hx HCR HRL hcell ht hjl hbq
            go_wp2_with (first
              | (go_at_call 62
                 refine (HC.out _ _ _ _ HS4.out HK4.out HX.out).mono ?_
                 rintro e w5 ⟨rfl, ⟨v5, hv5⟩, hk5⟩
                 have HS5 := Lib.hid hv5
                 have HK5 := Lib.hid (HK4.out.trans hk5.b)
                 clear hv5 hk5)
              | (fail))
            go_roundg g2
            case measure => omega
            case rel => exact ⟨j2 + 1, _, _, by omega, by go_num, HF2, HS5, HK5⟩
      | succ g1 =>
        have h1 : (j : Int) < (nF : Int) := by omega
        have h2 : j < nF := by omega
        have hjl : j < g.fns.length := by rw [HNF.out]; exact h2
        obtain ⟨b, o, es, A1, n1, c1, A2, n2, c2, rfl, hSb, hcell, hx⟩ := HCF.out j g.fns[j] (by simp [hjl])
        have hbq : Below q w1 wr := HK.out
        obtain ⟨y0, y1, y2, y3⟩ := hcell wr hbq
        have HD := Lib.hid (List.drop_eq_getElem_cons hjl)
        have HX := Lib.hid hx
        have HC := Lib.hid (HBD.out g.fns[j] (List.getElem_mem hjl))
        have HF2 : Hid (bdsS 0 [102, 117, 110, 99, 32] (g.fns.drop (j + 1)) (bdS 0 [102, 117, 110, 99, 32] g.fns[j] sj) = RF) := Lib.hid (by rw [← HF.out, HD.out]; rfl)
        obtain ⟨t, ht⟩ : ∃ t, g.fns[j] = t := ⟨_, rfl⟩
        rw [ht] at HX HC HF2 y3
        have hbr : b < wr.heap.size := by omega
        have HQB := Lib.hid (heap_new wr (.cells #[.string es, .slice A1 n1 c1, .slice A2 n2 c2, .int .i64 t.ln] 55))
        have HS4 := Lib.hid (HS.out.alloc (.cells #[.string es, .slice A1 n1 c1, .slice A2 n2 c2, .int .i64 t.ln] 55))
        have HK4 := Lib.hid (HK.out.alloc (by omega) (.cells #[.string es, .slice A1 n1 c1, .slice A2 n2 c2, .int .i64 t.ln] 55))
        have HQ4 := Lib.hid (heap_old HQ.out (.cells #[.string es, .slice A1 n1 c1, .slice A2 n2 c2, .int .i64 t.ln] 55))
        obtain ⟨⟨z0, z1, z2, z3⟩, -⟩ := box4f HQB.out
        clear HF HD hx HCF HCR HRL HBD hcell ht hjl hbq
        go_wp2_with (first
          | (go_at_call 61
             refine (HC.out _ _ _ _ HS4.out HK4.out HX.out).mono ?_
             rintro e w5 ⟨rfl, ⟨v5, hv5⟩, hk5⟩
             have HS5 := Lib.hid hv5
             have HK5 := Lib.hid (HK4.out.trans hk5.b)
             have HQ5 := Lib.hid ((hk5.b.block _ hs1).trans HQ4.out)
             clear hv5 hk5)
          | (fail))
        go_roundg g1
        case measure => omega
        case rel => exact ⟨j + 1, _, _, by omega, by go_num, HF2, HS5, HK5, HQ5⟩
end Go.Proofs.YteacmanbiamhoaaGreatDoor
