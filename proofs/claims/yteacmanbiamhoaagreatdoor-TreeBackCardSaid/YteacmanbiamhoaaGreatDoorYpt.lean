/- Texts Yp, Yq, Yr, Ys, Yt of this seat in one: see each part. -/
import Derived.Lib.AppendIntMem
import Derived.Lib.ItoaLen
import Derived.Test.YteacmanbiamhoaaGreatDoorYgo
import Derived.Test.YteacmanbiamhoaaGreatDoorUeg
import Derived.Test.YteacmanbiamhoaaGreatDoorShelfC
namespace Go.Proofs.YteacmanbiamhoaaGreatDoor
open Go.RowKit
set_option linter.unusedVariables false

/-- A body that is told right. -/
structure OkB (b : Bd) : Prop where
  ps : b.ps.length ≤ 30
  st : ∃ c c', smsR 1 b.st c = some c'
  nb : NbSs b.st
set_option maxRecDepth 100000 in
set_option maxHeartbeats 4000000 in
/-- body puts the lines of a function, or of what an actor does at a message. -/
theorem bodyL_any (W0 : World) (q : Nat) (S : Nat → Prop) (hS : ∀ b, S b → b < W0.heap.size) (hf : Fmt W0 W0.heap.size) (b : Bd) (hok : OkB b) (lv : Nat) (hlv : lv ≤ 1) (key : List Nat) (hk8 : ∀ x ∈ key, x < 256) (hkl : key.length ≤ 1000) (w : World) (s : Sw) (v e : Value) (h : ShAt W0.heap.size q w s lv v) (hb : Below W0.heap.size W0 w) (hx : Rd W0 S b.nd e) :
    Calls Tryz.prog 61 #[at0 q, .string (strOf key), e] w (OutS W0.heap.size q w (bdS lv key b s) lv) := by
  unfold Bd.nd at hx
  obtain ⟨y, z, rfl, h8, hl8, hy, hz⟩ := (hd_rd _ _ _ _ _ _).1 hx
  obtain ⟨c0, c0', hst⟩ := hok.st
  have hps := hok.ps
  have HBR := Lib.hid (fun (w : World) (s : Sw) (v : Value) (h : ShAt W0.heap.size q w s lv v) (hb : Below W0.heap.size W0 w) => braces_any W0 q S hS lv (by omega) b.st (fun y hy => show_sm W0 q S hS hf _ y 1 (lv + 1) (Nat.lt_succ_self _) (okSs hst y hy) (NbSs.at hok.nb y hy) (by omega)) w s v _ h hb hz)
  have HHD := Lib.hid (fun (w : World) (s : Sw) (v : Value) (h : ShAt W0.heap.size q w s lv v) (hb : Below W0.heap.size W0 w) => headL_any W0.heap.size q w s lv v h S hS b.name h8 hl8 b.ps (by omega) y (Rd.keep (fun p hp => hb.cell (hS _ hp)) (fun _ h => h) _ _ hy))
  obtain ⟨AP, nP, cP, rfl⟩ : ∃ A n c, y = .slice A n c := by
    rw [Rd] at hy
    obtain ⟨A, c, rfl, -⟩ := hy
    exact ⟨_, _, _, rfl⟩
  obtain ⟨AS, nS, cS, rfl⟩ : ∃ A n c, z = .slice A n c := by
    rw [Rd] at hz
    obtain ⟨A, c, rfl, -⟩ := hz
    exact ⟨_, _, _, rfl⟩
  unfold bdS
  obtain ⟨B, hB⟩ : ∃ B, W0.heap.size = B := ⟨_, rfl⟩
  rw [hB] at h hb HBR HHD ⊢
  have hle := h.le
  have hqr := h.lt
  have hbw : B ≤ w.heap.size := by omega
  have HB := Lib.hid hb
  have HQ0 := Lib.hid (heap_new w (.cells #[.string (strOf b.name), .slice AP nP cP, .slice AS nS cS, .int .i64 b.ln] 55))
  have HS0 := Lib.hid (h.alloc (.cells #[.string (strOf b.name), .slice AP nP cP, .slice AS nS cS, .int .i64 b.ln] 55))
  have HK0 := Lib.hid ((Ks.refl B q w).alloc hbw (.cells #[.string (strOf b.name), .slice AP nP cP, .slice AS nS cS, .int .i64 b.ln] 55))
  have hqn : ¬ w.heap.size = q := by omega
  have HG := Lib.hid (fun w' s' v' (h' : ShAt B q w' s' lv v') i (hi : i = w'.heap.size) => begin_at B q w' s' lv (by omega) v' h' [key] #[.string (strOf key)] rfl (ok1 hk8 (by omega)) (by simp) 1 1 i rfl hi)
  have HE := Lib.hid (fun w' s' v' (h' : ShAt B q w' s' lv v') i (hi : i = w'.heap.size) => put_at B q w' s' lv v' h' [[10]] #[.string ⟨#[10]⟩] rfl (by simp) (by simp) 1 1 i rfl hi)
  obtain ⟨⟨z0, z1, z2, z3⟩, -⟩ := box4f HQ0.out
  clear h hb h8 hl8 hx hy hz hst hS hB hok hk8
  obtain ⟨N, hN⟩ : ∃ N, strOf b.name = N := ⟨_, rfl⟩
  obtain ⟨KY, hKY⟩ : ∃ N, strOf key = N := ⟨_, rfl⟩
  rw [hN] at HQ0 HS0 HK0 z0 z1 z2 z3 HHD ⊢
  rw [hKY] at HG ⊢
  clear hN hKY
  unfold at0 at *
  go_enter Tryz.func61, Tryz.ntmps61
  go_wp2_with (first
    | (go_at_call 120
       refine (HG.out _ _ _ HS0.out _ (by simp)).mono ?_
       rintro e w1 ⟨rfl, ⟨v1, hv1⟩, hk1⟩
       have HS1 := Lib.hid hv1
       have HK1 := Lib.hid (HK0.out.trans hk1)
       have HQ1 := Lib.hid (hk1.o.heap HQ0.out hqn (by decide))
       obtain ⟨⟨a0, a1, a2, a3⟩, -⟩ := box4f HQ1.out
       clear hv1 hk1)
    | (go_at_call 121
       refine (HHD.out _ _ _ HS1.out (HB.out.trans HK1.out.b)).mono ?_
       rintro e w2 ⟨rfl, ⟨v2, hv2⟩, hk2⟩
       have HS2 := Lib.hid hv2
       have HK2 := Lib.hid (HK1.out.trans hk2)
       have HQ2 := Lib.hid (hk2.o.heap HQ1.out hqn (by decide))
       obtain ⟨⟨d0, d1, d2, d3⟩, -⟩ := box4f HQ2.out
       clear hv2 hk2)
    | (go_at_call 122
       refine (HBR.out _ _ _ HS2.out (HB.out.trans HK2.out.b)).mono ?_
       rintro e w3 ⟨rfl, ⟨v3, hv3⟩, hk3⟩
       have HS3 := Lib.hid hv3
       have HK3 := Lib.hid (HK2.out.trans hk3)
       clear hv3 hk3)
    | (go_at_call 123
       refine (HE.out _ _ _ HS3.out _ rfl).mono ?_
       rintro e w4 ⟨rfl, ⟨v4, hv4⟩, hk4⟩
       have HS4 := Lib.hid hv4
       have HK4 := Lib.hid (HK3.out.trans hk4)
       clear hv4 hk4)
    | (fail))
  go_end0
  exact ⟨rfl, ⟨_, HS4.out⟩, HK4.out⟩
end Go.Proofs.YteacmanbiamhoaaGreatDoor
namespace Go.Proofs.YteacmanbiamhoaaGreatDoor
open Go.RowKit
set_option linter.unusedVariables false

/-- A role that is told right. -/
structure OkR (r : Rl) : Prop where
  ps : r.ps.length ≤ 30
  on : ∀ b ∈ r.on, OkB b
/-- One of a row of bodies (or of roles): its cells, in every world. -/
theorem hd_all {W0 : World} {S : Nat → Prop} {A : Option Addr} {L : List Nd} (hr : Rds W0 S A 4 0 L) (hS : ∀ b, S b → b < W0.heap.size) (j : Nat) (nm : List Nat) (ps : List (List Nat)) (sz : Nat) (l : List Nd) (ln : Int) (hx : L[j]? = some (.st [.str nm, .row 1 (ps.map nmNd), .row sz l, .num .i64 ln])) :
    ∃ b o s A1 n1 c1 A2 n2 c2, A = some ⟨b, o, none⟩ ∧ b < W0.heap.size ∧ (∀ w, Below W0.heap.size W0 w → w.cell? ⟨b, o + j * 4, none⟩ = some (.string s) ∧ w.cell? ⟨b, o + j * 4 + 1, none⟩ = some (.slice A1 n1 c1) ∧ w.cell? ⟨b, o + j * 4 + 2, none⟩ = some (.slice A2 n2 c2) ∧ w.cell? ⟨b, o + j * 4 + 3, none⟩ = some (.int .i64 ln)) ∧ Rd W0 S (.st [.str nm, .row 1 (ps.map nmNd), .row sz l, .num .i64 ln]) (.agg #[.string s, .slice A1 n1 c1, .slice A2 n2 c2, .int .i64 ln]) := by
  obtain ⟨b, o, vs, rfl, hSb, hvl, hrg, hx⟩ := hr.at j _ hx
  have hx0 := hx
  obtain ⟨y, z, hv, h8, hl8, hy, hz⟩ := (hd_rd _ _ _ _ _ _).1 hx
  rw [Rd] at hy hz
  obtain ⟨A1, c1, rfl, -⟩ := hy
  obtain ⟨A2, c2, rfl, -⟩ := hz
  have hv2 : vs = [.string (strOf nm), .slice A1 (ps.map nmNd).length c1, .slice A2 l.length c2, .int .i64 ln] := by
    injection hv with hv
    have := congrArg Array.toList hv
    simpa using this
  subst hv2
  have hc : ∀ w, Below W0.heap.size W0 w → ∀ i u, [Value.string (strOf nm), .slice A1 (ps.map nmNd).length c1, .slice A2 l.length c2, .int .i64 ln][i]? = some u → w.cell? ⟨b, o + j * 4 + i, none⟩ = some u := fun w hb i u hu => by
    have := hrg i u hu
    rw [Nat.zero_add] at this
    exact (hb.cell (hS b hSb)).trans this
  exact ⟨b, o, _, _, _, _, _, _, _, rfl, hS b hSb, fun w hb => ⟨hc w hb 0 _ rfl, hc w hb 1 _ rfl, hc w hb 2 _ rfl, hc w hb 3 _ rfl⟩, hx0⟩
set_option maxRecDepth 100000 in
set_option maxHeartbeats 4000000 in
/-- role puts the lines of an actor. -/
theorem roleL_any (W0 : World) (q : Nat) (S : Nat → Prop) (hS : ∀ b, S b → b < W0.heap.size) (hf : Fmt W0 W0.heap.size) (r : Rl) (hok : OkR r) (lv : Nat) (hlv : lv = 0) (w : World) (s : Sw) (v e : Value) (h : ShAt W0.heap.size q w s lv v) (hb : Below W0.heap.size W0 w) (hx : Rd W0 S r.nd e) :
    Calls Tryz.prog 62 #[at0 q, e] w (OutS W0.heap.size q w (beginS lv [[125, 10]] (bdsS (lv + 1) [111, 110, 32] r.on (putS (headS r.name r.ps (beginS lv [[97, 99, 116, 111, 114, 32]] s)) [32, 123, 10]))) lv) := by
  unfold Rl.nd at hx
  obtain ⟨y, z, rfl, h8, hl8, hy, hz⟩ := (hd_rd _ _ _ _ _ _).1 hx
  have hps := hok.ps
  have HHD := Lib.hid (fun (w : World) (s : Sw) (v : Value) (h : ShAt W0.heap.size q w s lv v) (hb : Below W0.heap.size W0 w) => headL_any W0.heap.size q w s lv v h S hS r.name h8 hl8 r.ps (by omega) y (Rd.keep (fun p hp => hb.cell (hS _ hp)) (fun _ h => h) _ _ hy))
  obtain ⟨AP, nP, cP, rfl⟩ : ∃ A n c, y = .slice A n c := by
    rw [Rd] at hy
    obtain ⟨A, c, rfl, -⟩ := hy
    exact ⟨_, _, _, rfl⟩
  rw [Rd] at hz
  obtain ⟨A, c, rfl, hc, hcm, hr⟩ := hz
  rw [List.length_map] at hc ⊢
  obtain ⟨k1, hk1⟩ : ∃ k1, lv + 1 = k1 := ⟨_, rfl⟩
  have e1 : (lv : Int) + 1 = (k1 : Int) := by omega
  have e2 : (k1 : Int) - 1 = (lv : Int) := by omega
  have hlv0 : lv ≤ 1000 := by omega
  have HR := Lib.hid (fun j (b : Bd) (hj : r.on[j]? = some b) => hd_all hr hS j b.name b.ps 6 (b.st.map Sm.nd) b.ln (by rw [List.getElem?_map, hj]; rfl))
  have HL := Lib.hid (fun (b : Bd) (hbm : b ∈ r.on) (w : World) (s : Sw) (v e : Value) (h : ShAt W0.heap.size q w s k1 v) (hb : Below W0.heap.size W0 w) (hx : Rd W0 S b.nd e) => bodyL_any W0 q S hS hf b (hok.on b hbm) k1 (by omega) [111, 110, 32] (by simp) (by simp) w s v e h hb hx)
  rw [hk1]
  obtain ⟨B, hB⟩ : ∃ B, W0.heap.size = B := ⟨_, rfl⟩
  rw [hB] at h hb HR HL HHD ⊢
  have hle := h.le
  have hqr := h.lt
  have hbw : B ≤ w.heap.size := by omega
  have HB := Lib.hid hb
  obtain ⟨n, hnn⟩ : ∃ n, Hid (r.on.length = n) := ⟨_, Lib.hid rfl⟩
  rw [hnn.out] at hc ⊢
  have HQ0 := Lib.hid (heap_new w (.cells #[.string (strOf r.name), .slice AP nP cP, .slice A n c, .int .i64 r.ln] 85))
  have HS0 := Lib.hid (h.alloc (.cells #[.string (strOf r.name), .slice AP nP cP, .slice A n c, .int .i64 r.ln] 85))
  have HK0 := Lib.hid ((Ks.refl B q w).alloc hbw (.cells #[.string (strOf r.name), .slice AP nP cP, .slice A n c, .int .i64 r.ln] 85))
  have hqn : ¬ w.heap.size = q := by omega
  have HG := Lib.hid (fun w' s' v' (h' : ShAt B q w' s' lv v') i (hi : i = w'.heap.size) => begin_at B q w' s' lv hlv0 v' h' [[97, 99, 116, 111, 114, 32]] #[.string ⟨#[97, 99, 116, 111, 114, 32]⟩] rfl (by simp) (by simp) 1 1 i rfl hi)
  have HP := Lib.hid (fun w' s' v' (h' : ShAt B q w' s' lv v') i (hi : i = w'.heap.size) => put_at B q w' s' lv v' h' [[32, 123, 10]] #[.string ⟨#[32, 123, 10]⟩] rfl (by simp) (by simp) 1 1 i rfl hi)
  have HE := Lib.hid (fun w' s' v' (h' : ShAt B q w' s' lv v') i (hi : i = w'.heap.size) => begin_at B q w' s' lv hlv0 v' h' [[125, 10]] #[.string ⟨#[125, 10]⟩] rfl (by simp) (by simp) 1 1 i rfl hi)
  obtain ⟨⟨z0, z1, z2, z3⟩, -⟩ := box4f HQ0.out
  clear h hb h8 hl8 hx hy hr hS hB hok hlv
  obtain ⟨N, hN⟩ : ∃ N, strOf r.name = N := ⟨_, rfl⟩
  rw [hN] at HQ0 HS0 HK0 z0 z1 z2 z3 HHD ⊢
  obtain ⟨R, hRR⟩ : ∃ R, Hid (bdsS k1 [111, 110, 32] r.on (putS (headS r.name r.ps (beginS lv [[97, 99, 116, 111, 114, 32]] s)) [32, 123, 10]) = R) := ⟨_, Lib.hid rfl⟩
  rw [hRR.out]
  have HK1E := Lib.hid hk1
  unfold maxLen at hcm
  clear hN hk1
  unfold at0 at *
  go_enter Tryz.func62, Tryz.ntmps62
  go_wp2_with (first
    | (go_at_call 120
       refine (HG.out _ _ _ HS0.out _ (by simp)).mono ?_
       rintro e w1 ⟨rfl, ⟨v1, hv1⟩, hk1⟩
       have HS1 := Lib.hid hv1
       have HK1 := Lib.hid (HK0.out.trans hk1)
       have HQ1 := Lib.hid (hk1.o.heap HQ0.out hqn (by decide))
       obtain ⟨⟨a0, a1, a2, a3⟩, -⟩ := box4f HQ1.out
       clear hv1 hk1 HG)
    | (go_at_call 121
       refine (HHD.out _ _ _ HS1.out (HB.out.trans HK1.out.b)).mono ?_
       rintro e w2 ⟨rfl, ⟨v2, hv2⟩, hk2⟩
       have HS2 := Lib.hid hv2
       have HK2 := Lib.hid (HK1.out.trans hk2)
       have HQ2 := Lib.hid (hk2.o.heap HQ1.out hqn (by decide))
       clear hv2 hk2 HHD)
    | (go_at_call 123
       refine (HP.out _ _ _ HS2.out _ rfl).mono ?_
       rintro e w3 ⟨rfl, ⟨v3, hv3⟩, hk3⟩
       have HS3 := Lib.hid (hv3.setV (k := k1))
       have hqw : q < w3.heap.size := hv3.lt
       have HK3 := Lib.hid ((HK2.out.trans hk3).set hle (by omega) 2 (.int .i64 (k1 : Int)))
       have HQ3 := Lib.hid (heap_set_ne (hk3.o.heap HQ2.out hqn (by decide)) hqn 2 (.int .i64 (k1 : Int)))
       obtain ⟨⟨p0, p1, p2⟩, f0, f1, f2⟩ := bx3 hv3.h
       obtain ⟨⟨d0, d1, d2, d3⟩, -⟩ := box4f HQ3.out
       clear hv3 hk3 HP)
    | (fail))
  clear p0 p1 p2 f0 f1 f2 hqw d0 d1 d2 d3 a0 a1 a2 a3 z0 z1 z2 z3
  go_loopg [28] n (fun g i wr => ∃ (j : Nat) (sj : Sw) (vj : Value), j + g = n ∧ i = .int .i64 (j : Int) ∧ Hid (bdsS k1 [111, 110, 32] (r.on.drop j) sj = R) ∧ Hid (ShAt B q wr sj k1 vj) ∧ Hid (Ks B q w wr))
  case atStart => exact ⟨0, _, _, by omega, rfl, Lib.hid (by rw [List.drop_zero]; exact hRR.out), HS3, HK3⟩
  case round =>
    obtain ⟨j, sj, vj, hj, rfl, HF, HS, HK⟩ := hrel
    have hqw : q < wr.heap.size := HS.out.lt
    cases gk with
    | zero =>
      have h1 : ¬ (j : Int) < (n : Int) := by omega
      have HE2 : Hid (sj = R) := Lib.hid (by rw [← HF.out, List.drop_eq_nil_of_le (by rw [hnn.out]; omega)]; rfl)
      obtain ⟨⟨p0, p1, p2⟩, f0, f1, f2⟩ := bx3 HS.out.h
      have HS4 := Lib.hid (HS.out.setV (k := lv))
      have HK4 := Lib.hid (HK.out.set hle (by omega) 2 (.int .i64 (lv : Int)))
      clear HF HR HL
      go_wp2_with (first
        | (go_at_call 120
           refine (HE.out _ _ _ HS4.out _ (by simp)).mono ?_
           rintro e w5 ⟨rfl, ⟨v5, hv5⟩, hk5⟩
           have HS5 := Lib.hid hv5
           have HK5 := Lib.hid (HK4.out.trans hk5)
           clear hv5 hk5)
        | (fail))
      go_end0
      exact ⟨rfl, ⟨_, by rw [← HE2.out]; exact HS5.out⟩, HK5.out⟩
    | succ g =>
      have h1 : (j : Int) < (n : Int) := by omega
      have h2 : j < n := by omega
      have hjl : j < r.on.length := by rw [hnn.out]; exact h2
      have HBR := Lib.hid (HB.out.trans HK.out.b)
      obtain ⟨b, o, es, A1, n1, c1, A2, n2, c2, rfl, hSb, hcell, hx⟩ := HR.out j r.on[j] (by simp [hjl])
      obtain ⟨y0, y1, y2, y3⟩ := hcell wr HBR.out
      have HD := Lib.hid (List.drop_eq_getElem_cons hjl)
      have HX := Lib.hid hx
      have HC := Lib.hid (HL.out r.on[j] (List.getElem_mem hjl))
      have HF2 : Hid (bdsS k1 [111, 110, 32] (r.on.drop (j + 1)) (bdS k1 [111, 110, 32] r.on[j] sj) = R) := Lib.hid (by rw [← HF.out, HD.out]; rfl)
      have hbr : b < wr.heap.size := by have := HK.out.b.size; have := HB.out.size; omega
      obtain ⟨t, ht⟩ : ∃ t, r.on[j] = t := ⟨_, rfl⟩
      rw [ht] at HX HC HF2 y3
      have HQ := Lib.hid (heap_new wr (.cells #[.string es, .slice A1 n1 c1, .slice A2 n2 c2, .int .i64 t.ln] 55))
      have HS4 := Lib.hid (HS.out.alloc (.cells #[.string es, .slice A1 n1 c1, .slice A2 n2 c2, .int .i64 t.ln] 55))
      have HK4 := Lib.hid (HK.out.alloc (by omega) (.cells #[.string es, .slice A1 n1 c1, .slice A2 n2 c2, .int .i64 t.ln] 55))
      obtain ⟨⟨z0, z1, z2, z3⟩, -⟩ := box4f HQ.out
      clear HF HD hx HE HR HL hcell ht hjl
      go_wp2_with (first
        | (go_at_call 61
           refine (HC.out _ _ _ _ HS4.out (HB.out.trans HK4.out.b) HX.out).mono ?_
           rintro e w5 ⟨rfl, ⟨v5, hv5⟩, hk5⟩
           have HS5 := Lib.hid hv5
           have HK5 := Lib.hid (HK4.out.trans hk5)
           clear hv5 hk5)
        | (fail))
      go_roundg g
      case measure => omega
      case rel => exact ⟨j + 1, _, _, by omega, by go_num, HF2, HS5, HK5⟩
end Go.Proofs.YteacmanbiamhoaaGreatDoor
namespace Go.Proofs.YteacmanbiamhoaaGreatDoor
open Go.RowKit
set_option linter.unusedVariables false

theorem okBs : ∀ {l : List Bd} {c c' : Nat}, bodiesR l c = some c' → (∀ b ∈ l, NbSs b.st) → ∀ b ∈ l, OkB b
  | [], c, c', h, hn, b, hb => by cases hb
  | x :: r, c, c', h, hn, b, hb => by
    rw [bodiesR] at h
    split at h
    · cases h
    · rename_i c1 h1
      rcases List.mem_cons.1 hb with rfl | hb
      · unfold bodyR at h1
        split at h1
        · rename_i hh
          unfold headR at hh
          simp only [Bool.and_eq_true, decide_eq_true_eq] at hh
          exact ⟨hh.1.2, ⟨c, c1, h1⟩, hn _ (by simp)⟩
        · cases h1
      · exact okBs h (fun y hy => hn y (by simp [hy])) b hb
theorem okRs : ∀ {l : List Rl} {c c' : Nat}, rolesR l c = some c' → (∀ r ∈ l, ∀ b ∈ r.on, NbSs b.st) → ∀ r ∈ l, OkR r
  | [], c, c', h, hn, b, hb => by cases hb
  | x :: r, c, c', h, hn, b, hb => by
    rw [rolesR] at h
    split at h
    · cases h
    · rename_i c1 h1
      rcases List.mem_cons.1 hb with rfl | hb
      · unfold roleR at h1
        split at h1
        · rename_i hh
          unfold headR at hh
          simp only [Bool.and_eq_true, decide_eq_true_eq] at hh
          exact ⟨hh.1.1.2, okBs h1 (hn _ (by simp))⟩
        · cases h1
      · exact okRs h (fun y hy => hn y (by simp [hy])) b hb
/-- A program's numbers are int64s. -/
def NbP (g : Pg) : Prop := (∀ b ∈ g.fns, NbSs b.st) ∧ ∀ r ∈ g.roles, ∀ b ∈ r.on, NbSs b.st
theorem okPg {g : Pg} (h : rightP g = true) (hn : NbP g) : (∀ b ∈ g.fns, OkB b) ∧ ∀ r ∈ g.roles, OkR r := by
  unfold rightP at h
  split at h
  · cases h
  · split at h
    · cases h
    · rename_i c hc
      obtain ⟨c', hc'⟩ := Option.isSome_iff_exists.1 h
      exact ⟨okBs hc hn.1, okRs hc' hn.2⟩
set_option maxRecDepth 100000 in
set_option maxHeartbeats 8000000 in
/-- Show, of any program. -/
theorem showP_any (w : World) (hw : Wt w) (hF : ∀ w', Below w.heap.size w w' → Fmt w' w'.heap.size) (g : Pg) (hlen : g.fns.length + g.roles.length ≤ 1000000) (hnb : NbP g) (S : Nat → Prop) (hS : ∀ b, S b → b < w.heap.size) (v : Value) (hv : Rd w S g.nd v) :
    Calls Tryz.prog 20 #[v] w fun e w' => e = .returned (.tuple #[.string (strOf (showF g).1), .int .i64 ((showF g).2 : Int)]) ∧ Below w.heap.size w w' ∧ ∀ x ∈ (showF g).1, x < 256 := by
  obtain ⟨y, z, rfl, hy, hz⟩ := (Pg.rd g v).1 hv
  rw [Rd] at hy hz
  obtain ⟨AF, cF, rfl, hcF, hmF, hrF⟩ := hy
  obtain ⟨AR, cR, rfl, hcR, hmR, hrR⟩ := hz
  rw [List.length_map] at hcF hcR
  rw [List.length_map, List.length_map] at hv ⊢
  obtain ⟨nF, hnF⟩ : ∃ n, g.fns.length = n := ⟨_, rfl⟩
  obtain ⟨nR, hnR⟩ : ∃ n, g.roles.length = n := ⟨_, rfl⟩
  rw [hnF] at hcF hv hlen ⊢
  rw [hnR] at hcR hv hlen ⊢
  have hB0 : Below w.heap.size w (w.alloc (.cells #[.slice AF nF cF, .slice AR nR cR] 26)) := (Below.refl _ _).alloc (Nat.le_refl _) _
  have HB0 := Lib.hid hB0
  have HQ0 := Lib.hid (heap_new w (.cells #[.slice AF nF cF, .slice AR nR cR] 26))
  have HRT := Lib.hid (right_any w hw g (w.alloc (.cells #[.slice AF nF cF, .slice AR nR cR] 26)) S _ (by rw [hnF, hnR]; exact hlen) hB0 (fun b h => by have := hS b h; simp; omega) (Rd.keep (fun p hp => hB0.cell (hS _ hp)) (fun _ h => h) _ _ hv))
  obtain ⟨⟨q0, q1⟩, -⟩ := bx2 HQ0.out
  unfold showF
  cases hrp : rightP g with
  | false =>
    rw [hrp] at HRT
    clear hv hrF hrR hB0 hS hF hw hrp
    go_enter Tryz.func20, Tryz.ntmps20
    go_wp2_with (first
      | (go_at_call 22
         refine HRT.out.mono ?_
         rintro e w1 ⟨rfl, hb1⟩
         have HB1 := Lib.hid (HB0.out.trans (hb1.mono HB0.out.size))
         clear hb1)
      | (fail))
    exact bodyPost_ret (v := .tuple #[.string ⟨#[]⟩, .int .i64 103]) (by simp [results, Tryz.results20, go_sem]) rfl (by first | exact ⟨rfl, HB1.out⟩ | exact ⟨rfl, HB1.out, by simp⟩)
  | true =>
    rw [hrp] at HRT
    obtain ⟨RS, hRS⟩ : ∃ r, Hid ((if true = true then if (pgS g).long = true then (([] : List Nat), 3) else ((pgS g).t, 0) else ([], 103)) = r) := ⟨_, Lib.hid rfl⟩
    rw [hRS.out]
    obtain ⟨okf, okr⟩ := okPg hrp hnb
    have HOF := Lib.hid okf
    have HOR := Lib.hid okr
    have HV := Lib.hid hv
    have HSS := Lib.hid hS
    have HFM := Lib.hid hF
    have HRF := Lib.hid hrF
    have HRR := Lib.hid hrR
    have HNF := Lib.hid hnF
    have HNR := Lib.hid hnR
    unfold maxLen at hmF hmR
    clear hv hrF hrR hB0 hS hF hw hrp okf okr hnF hnR
    go_enter Tryz.func20, Tryz.ntmps20
    go_wp2_with (first
      | (go_at_call 22
         refine HRT.out.mono ?_
         rintro e w1 ⟨rfl, hb1⟩
         have HB1 := Lib.hid (HB0.out.trans (hb1.mono HB0.out.size))
         have HQ1 := Lib.hid (heap_below HQ0.out hb1)
         obtain ⟨⟨r0, r1⟩, -⟩ := bx2 HQ1.out
         have hs1 : w.heap.size < w1.heap.size := lt_heap HQ1.out
         clear hb1)
      | (fail))
    have hkw : ∀ p : Addr, S p.block → w1.cell? p = w.cell? p := fun p hp => HB1.out.cell (HSS.out _ hp)
    have hS1 : ∀ b, S b → b < w1.heap.size := fun b hb => by have := HSS.out b hb; omega
    have HBD := Lib.hid (fun (b : Bd) (hb : b ∈ g.fns) => bodyL_any w1 w1.heap.size S hS1 (HFM.out w1 HB1.out) b (HOF.out b hb) 0 (by omega) [102, 117, 110, 99, 32] (by simp) (by simp))
    have HRL := Lib.hid (fun (r : Rl) (hr : r ∈ g.roles) => roleL_any w1 w1.heap.size S hS1 (HFM.out w1 HB1.out) r (HOR.out r hr) 0 rfl)
    have HCF := Lib.hid (fun j (b : Bd) (hj : g.fns[j]? = some b) => hd_all (Rds.keep hkw (fun _ h => h) AF 4 0 _ HRF.out) hS1 j b.name b.ps 6 (b.st.map Sm.nd) b.ln (by rw [List.getElem?_map, hj]; rfl))
    have HCR := Lib.hid (fun j (r : Rl) (hj : g.roles[j]? = some r) => hd_all (Rds.keep hkw (fun _ h => h) AR 4 0 _ HRR.out) hS1 j r.name r.ps 4 (r.on.map Bd.nd) r.ln (by rw [List.getElem?_map, hj]; rfl))
    have HS0 : Hid (ShAt w1.heap.size w1.heap.size (w1.alloc (.cells #[.slice none 0 0, .bool false, .int .i64 0] 120)) ⟨[], false⟩ 0 (.slice none 0 0)) := Lib.hid ⟨heap_new w1 _, World.ownsRow_nil _ _ _ 1, Nat.le_refl _, by simp, by simp⟩
    have HK0 : Hid (Below w1.heap.size w1 (w1.alloc (.cells #[.slice none 0 0, .bool false, .int .i64 0] 120))) := Lib.hid ((Below.refl _ _).alloc (Nat.le_refl _) _)
    have HQW := Lib.hid (heap_old HQ1.out (.cells #[.slice none 0 0, .bool false, .int .i64 0] 120))
    clear hkw hS1 HRT HFM HOF HOR HRF HRR HV q0 q1 r0 r1
    obtain ⟨q, hq⟩ : ∃ q, w1.heap.size = q := ⟨_, rfl⟩
    obtain ⟨W2, hW2⟩ : ∃ W, Hid (w1.alloc (.cells #[.slice none 0 0, .bool false, .int .i64 0] 120) = W) := ⟨_, Lib.hid rfl⟩
    rw [hW2.out] at HS0 HK0 HQW ⊢
    rw [hq] at HS0 HK0 HBD HRL HCF HCR hs1 ⊢
    have HQQ := Lib.hid hq
    obtain ⟨RF, hRF⟩ : ∃ R, Hid (bdsS 0 [102, 117, 110, 99, 32] g.fns ⟨[], false⟩ = R) := ⟨_, Lib.hid rfl⟩
    unfold at0 at *
    clear hq hW2
    go_loopg [17] nF (fun g1 i wr => ∃ (j : Nat) (sj : Sw) (vj : Value), j + g1 = nF ∧ i = .int .i64 (j : Int) ∧ Hid (bdsS 0 [102, 117, 110, 99, 32] (g.fns.drop j) sj = RF) ∧ Hid (ShAt q q wr sj 0 vj) ∧ Hid (Below q w1 wr) ∧ Hid (wr.heap[w.heap.size]? = some (.cells #[.slice AF nF cF, .slice AR nR cR] 26 (0, 0))))
    case atStart => exact ⟨0, _, _, by omega, rfl, Lib.hid (by rw [List.drop_zero]; exact hRF.out), HS0, HK0, HQW⟩
    case round =>
      obtain ⟨j, sj, vj, hj, rfl, HF, HS, HK, HQ⟩ := hrel
      have hqw : q < wr.heap.size := HS.out.lt
      cases gk with
      | zero =>
        have h1 : ¬ (j : Int) < (nF : Int) := by omega
        have HE1 : Hid (sj = RF) := Lib.hid (by rw [← HF.out, List.drop_eq_nil_of_le (by rw [HNF.out]; omega)]; rfl)
        obtain ⟨⟨r0, r1⟩, -⟩ := bx2 HQ.out
        obtain ⟨R, hR⟩ : ∃ R, Hid (rlsS g.roles RF = R) := ⟨_, Lib.hid rfl⟩
        have HPG : Hid (pgS g = R) := Lib.hid (by unfold pgS; rw [hRF.out]; exact hR.out)
        clear HF HBD HCF HQ hRF
        go_wp2_with fail
        go_loopg [28] nR (fun g2 i wr2 => ∃ (j : Nat) (sj : Sw) (vj : Value), j + g2 = nR ∧ i = .int .i64 (j : Int) ∧ Hid (rlsS (g.roles.drop j) sj = R) ∧ Hid (ShAt q q wr2 sj 0 vj) ∧ Hid (Below q w1 wr2))
        case atStart => exact ⟨0, _, _, by omega, rfl, Lib.hid (by rw [List.drop_zero, HE1.out]; exact hR.out), HS, HK⟩
        case round =>
          clear HS HK HE1 r0 r1 hqw
          obtain ⟨j2, sj2, vj2, hj2, rfl, HF, HS, HK⟩ := hrel
          have hqw : q < wr.heap.size := HS.out.lt
          cases gk with
          | zero =>
            have h3 : ¬ (j2 : Int) < (nR : Int) := by omega
            have HE2 : Hid (sj2 = R) := Lib.hid (by rw [← HF.out, List.drop_eq_nil_of_le (by rw [HNR.out]; omega)]; rfl)
            have HBW : Hid (Below w.heap.size w wr) := Lib.hid (HB1.out.trans (HK.out.mono (Nat.le_of_lt hs1)))
            obtain ⟨tt, lg⟩ := sj2
            obtain ⟨Av, cv, rfl, hcv, hcmv, hat, -⟩ := HS.out.own.form
            have hcs := run_strOf wr wr.heap.size Av cv tt hat HS.out.ok
            obtain ⟨ST, hST⟩ : ∃ ST, Hid (strOf tt = ST) := ⟨_, Lib.hid rfl⟩
            rw [hST.out] at hcs
            obtain ⟨⟨c0, c1, c2⟩, -⟩ := bx3 HS.out.h
            dsimp only at c0 c1 c2 hcs
            clear HF HRL HCR hR hat
            cases lg with
            | true =>
              have hsf : RS = ([], 3) := by rw [← hRS.out, HPG.out, ← HE2.out]; rfl
              clear hRS
              subst hsf
              go_wp2_with fail
              exact bodyPost_ret (v := .tuple #[.string ⟨#[]⟩, .int .i64 3]) (by simp [results, Tryz.results20, go_sem]) rfl (by first | exact ⟨rfl, HBW.out⟩ | exact ⟨rfl, HBW.out, by simp⟩)
            | false =>
              have hsf : RS = (tt, 0) := by rw [← hRS.out, HPG.out, ← HE2.out]; rfl
              clear hRS
              subst hsf
              go_wp2_with fail
              exact bodyPost_ret (v := .tuple #[.string ST, .int .i64 0]) (by simp [results, Tryz.results20, go_sem]) rfl ⟨by rw [← hST.out], HBW.out, HS.out.ok⟩
          | succ g2 =>
            have h3 : (j2 : Int) < (nR : Int) := by omega
            have h2 : j2 < nR := by omega
            have hjl : j2 < g.roles.length := by rw [HNR.out]; exact h2
            obtain ⟨b, o, es, A1, n1, c1, A2, n2, c2, rfl, hSb, hcell, hx⟩ := HCR.out j2 g.roles[j2] (by simp [hjl])
            have hbq : Below q w1 wr := HK.out
            obtain ⟨y0, y1, y2, y3⟩ := hcell wr hbq
            have HD := Lib.hid (List.drop_eq_getElem_cons hjl)
            have HX := Lib.hid hx
            have HC := Lib.hid (HRL.out g.roles[j2] (List.getElem_mem hjl))
            have HF2 : Hid (rlsS (g.roles.drop (j2 + 1)) (rlS g.roles[j2] sj2) = R) := Lib.hid (by rw [← HF.out, HD.out]; rfl)
            obtain ⟨t, ht⟩ : ∃ t, g.roles[j2] = t := ⟨_, rfl⟩
            rw [ht] at HX HC HF2 y3
            have hbr : b < wr.heap.size := by omega
            have HQB := Lib.hid (heap_new wr (.cells #[.string es, .slice A1 n1 c1, .slice A2 n2 c2, .int .i64 t.ln] 85))
            have HS4 := Lib.hid (HS.out.alloc (.cells #[.string es, .slice A1 n1 c1, .slice A2 n2 c2, .int .i64 t.ln] 85))
            have HK4 := Lib.hid (HK.out.alloc (by omega) (.cells #[.string es, .slice A1 n1 c1, .slice A2 n2 c2, .int .i64 t.ln] 85))
            obtain ⟨⟨z0, z1, z2, z3⟩, -⟩ := box4f HQB.out
            clear HF HD hx HCR HRL hcell ht hjl hbq
            go_wp2_with (first
              | (go_at_call 62
                 refine (HC.out _ _ _ _ HS4.out HK4.out HX.out).mono ?_
                 rintro e w5 ⟨rfl, ⟨v5, hv5⟩, hk5⟩
                 have HS5 := Lib.hid hv5
                 have HK5 := Lib.hid (HK4.out.trans hk5.b)
                 clear hv5 hk5)
              | (fail))
            go_roundg g2
            case measure => omega
            case rel => exact ⟨j2 + 1, _, _, by omega, by go_num, HF2, HS5, HK5⟩
      | succ g1 =>
        have h1 : (j : Int) < (nF : Int) := by omega
        have h2 : j < nF := by omega
        have hjl : j < g.fns.length := by rw [HNF.out]; exact h2
        obtain ⟨b, o, es, A1, n1, c1, A2, n2, c2, rfl, hSb, hcell, hx⟩ := HCF.out j g.fns[j] (by simp [hjl])
        have hbq : Below q w1 wr := HK.out
        obtain ⟨y0, y1, y2, y3⟩ := hcell wr hbq
        have HD := Lib.hid (List.drop_eq_getElem_cons hjl)
        have HX := Lib.hid hx
        have HC := Lib.hid (HBD.out g.fns[j] (List.getElem_mem hjl))
        have HF2 : Hid (bdsS 0 [102, 117, 110, 99, 32] (g.fns.drop (j + 1)) (bdS 0 [102, 117, 110, 99, 32] g.fns[j] sj) = RF) := Lib.hid (by rw [← HF.out, HD.out]; rfl)
        obtain ⟨t, ht⟩ : ∃ t, g.fns[j] = t := ⟨_, rfl⟩
        rw [ht] at HX HC HF2 y3
        have hbr : b < wr.heap.size := by omega
        have HQB := Lib.hid (heap_new wr (.cells #[.string es, .slice A1 n1 c1, .slice A2 n2 c2, .int .i64 t.ln] 55))
        have HS4 := Lib.hid (HS.out.alloc (.cells #[.string es, .slice A1 n1 c1, .slice A2 n2 c2, .int .i64 t.ln] 55))
        have HK4 := Lib.hid (HK.out.alloc (by omega) (.cells #[.string es, .slice A1 n1 c1, .slice A2 n2 c2, .int .i64 t.ln] 55))
        have HQ4 := Lib.hid (heap_old HQ.out (.cells #[.string es, .slice A1 n1 c1, .slice A2 n2 c2, .int .i64 t.ln] 55))
        obtain ⟨⟨z0, z1, z2, z3⟩, -⟩ := box4f HQB.out
        clear HF HD hx HCF HCR HRL HBD hcell ht hjl hbq
        go_wp2_with (first
          | (go_at_call 61
             refine (HC.out _ _ _ _ HS4.out HK4.out HX.out).mono ?_
             rintro e w5 ⟨rfl, ⟨v5, hv5⟩, hk5⟩
             have HS5 := Lib.hid hv5
             have HK5 := Lib.hid (HK4.out.trans hk5.b)
             have HQ5 := Lib.hid ((hk5.b.block _ hs1).trans HQ4.out)
             clear hv5 hk5)
          | (fail))
        go_roundg g1
        case measure => omega
        case rel => exact ⟨j + 1, _, _, by omega, by go_num, HF2, HS5, HK5, HQ5⟩
end Go.Proofs.YteacmanbiamhoaaGreatDoor
namespace Go.Proofs.YteacmanbiamhoaaGreatDoor
open Go.RowKit
set_option linter.unusedVariables false

/-- The table that FormatInt reads, in every world that keeps what lies below block B. -/
def Tab9 (w : World) (B : Nat) : Prop := Lib.TabBelow Tryz.prog B w "internal/strconv.uint64pow10" .u64 Lib.pow10Tab
theorem Tab9.below {w w' : World} {B : Nat} (h : Tab9 w B) (hb : Below B w w') : Tab9 w' B := fun w2 h2 => h w2 (hb.trans h2)
theorem Tab9.is {w : World} {B : Nat} (h : Tab9 w B) : Lib.TabIs Tryz.prog w "internal/strconv.uint64pow10" .u64 Lib.pow10Tab := h w (Below.refl _ _)
theorem strOf_num (n : Int) : (⟨(Lib.itoa n).toArray⟩ : ByteArray) = strOf (numT n) := by
  unfold strOf numT
  rw [List.map_map]
  congr 2
  conv => lhs; rw [← List.map_id (Lib.itoa n)]
  refine List.map_congr_left fun x _ => ?_
  simp
theorem fmt_any {w0 : World} (ht : Tab9 w0 w0.heap.size) (w' : World) (hb : Below w0.heap.size w0 w') : Fmt w' w'.heap.size := by
  refine ⟨fun z h0 h1 => ⟨?_, fun w hw => ?_⟩, fun b w => ?_⟩
  · unfold numT
    rw [List.length_map]
    have := Lib.itoa_length_le z (by omega) h1
    omega
  · refine (Tryz.strconv_FormatInt_10 z (by omega) h1 w (ht.below (hb.trans (hw.mono hb.size))).is).mono ?_
    rintro e w2 ⟨rfl, k, os, rfl⟩
    exact ⟨by rw [strOf_num], Lib.below_grow _ _ (Nat.le_refl _) k os⟩
  · refine (Tryz.strconv_FormatBool b w).mono ?_
    rintro e w2 ⟨rfl, rfl⟩
    refine ⟨?_, rfl⟩
    cases b <;> rfl
end Go.Proofs.YteacmanbiamhoaaGreatDoor
namespace Go.Proofs.YteacmanbiamhoaaGreatDoor
set_option linter.unusedVariables false

theorem tok_num {l : List Nat} {t : Tk} (h : tok l = some t) (hk : t.k = 1) : t.n ≤ 9223372036854775807 := by
  unfold tok at h
  split at h
  · cases h; cases hk
  · split at h
    · unfold num at h
      split at h
      · cases h; assumption
      · cases h
    · split at h
      · obtain ⟨a, _, rfl⟩ := Option.map_eq_some_iff.1 h; cases hk
      · split at h
        · cases h
          dsimp only at hk
          split at hk <;> cases hk
        · obtain ⟨a, _, rfl⟩ := Option.map_eq_some_iff.1 h; cases hk
/-- A number that stands there is an int64. -/
def Okp (p : Pst) : Prop := p.k = 1 → (p.n : Int) ≤ 9223372036854775807
def Rok {α : Type} (A : α → Prop) (f : Rr α) : Prop := ∀ p x q, Okp p → f p = some (x, q) → A x ∧ Okp q
section
variable {T : List Nat} {p : Pst}
theorem ok_step : Okp (p.step T) := by
  intro h
  unfold Pst.step at h ⊢
  split at h
  · cases h
  · split at h
    · cases h
    · split at h
      · cases h
      · rename_i h1 h2 _ t ht
        have := tok_num ht h
        rw [if_neg h1, if_neg h2]
        show (t.n : Int) ≤ _
        omega
theorem ok_fail {e : Nat} (h : Okp p) : Okp (p.fail e) := by
  unfold Pst.fail
  split
  · intro h; cases h
  · exact h
theorem ok_one {k : Nat} {s : List (List Nat)} (h : Okp p) : Okp (p.one T k s).2 := by
  unfold Pst.one
  split
  · exact ok_step
  · exact h
theorem ok_must {s : List Nat} (h : Okp p) : Okp (p.must T s).2 := by
  unfold Pst.must
  split
  · exact ok_fail (ok_one h)
  · exact ok_one h
theorem ok_name (h : Okp p) : Okp (p.name T).2 := by
  unfold Pst.name
  split
  · exact ok_step
  · exact ok_fail h
theorem ok_begin (h : Okp p) : Okp p.begin := by
  unfold Pst.begin
  split
  · exact ok_fail (e := 102) h
  · exact h
theorem ok_fin (h : Okp p) : Okp p.fin := h
theorem all_snoc {α : Type} {A : α → Prop} {l : List α} {x : α} (h : ∀ y ∈ l, A y) (hx : A x) : ∀ y ∈ l ++ [x], A y := by
  intro y hy
  rcases List.mem_append.1 hy with hy | hy
  · exact h y hy
  · rw [List.mem_singleton.1 hy]; exact hx
theorem moreF_ok {α : Type} {A : α → Prop} {one : Rr α} (h1 : Rok A one) : ∀ (m : Nat) (l : List α), (∀ x ∈ l, A x) → Rok (fun l => ∀ x ∈ l, A x) (moreF T one m l)
  | 0, l, hl => fun p x q hp h => by rw [moreF] at h; cases h
  | m + 1, l, hl => fun p x q hp h => by
    rw [moreF] at h
    split at h
    · cases h; exact ⟨hl, ok_must (ok_one hp)⟩
    · split at h
      · cases h
      · rename_i y r hy
        obtain ⟨ha, hr⟩ := h1 _ _ _ (ok_one hp) hy
        exact moreF_ok h1 m _ (all_snoc hl ha) _ _ _ hr h
theorem listF_ok {α : Type} {A : α → Prop} {one : Rr α} (h1 : Rok A one) (m : Nat) : Rok (fun l => ∀ x ∈ l, A x) (listF T one m) := by
  intro p x q hp h
  unfold listF at h
  split at h
  · cases h; exact ⟨by simp, ok_must hp⟩
  · split at h
    · cases h; exact ⟨by simp, ok_one (ok_must hp)⟩
    · split at h
      · cases h
      · rename_i y r hy
        obtain ⟨ha, hr⟩ := h1 _ _ _ (ok_one (ok_must hp)) hy
        exact moreF_ok h1 m _ (by simpa using ha) _ _ _ hr h
theorem Nbs.of : ∀ {l : List Ex}, (∀ y ∈ l, Nb y) → Nbs l
  | [], h => by rw [Nbs]; trivial
  | x :: r, h => by rw [Nbs]; exact ⟨h x (by simp), Nbs.of fun y hy => h y (by simp [hy])⟩
theorem nb_mk {k : Nat} {s : List Nat} {z : Int} {l : List Ex} (hz : z ≤ 9223372036854775807) (h : ∀ y ∈ l, Nb y) : Nb (.mk k s z l) := by
  rw [Nb]; exact ⟨hz, Nbs.of h⟩
section
variable {or : Rr Ex} (ho : Rok Nb or)
include ho
theorem withF_ok (m kind : Nat) : Rok Nb (withF T or m kind) := by
  intro p x q hp h
  unfold withF at h
  split at h
  · cases h
  · rename_i l r hl
    obtain ⟨ha, hr⟩ := listF_ok ho m _ _ _ (ok_name hp) hl
    cases h
    exact ⟨nb_mk (by decide) ha, hr⟩
theorem keyedF_ok (m : Nat) : Rok Nb (keyedF T or m) := by
  intro p x q hp h
  unfold keyedF at h
  split at h
  · cases h; exact ⟨nb_mk (by decide) (by simp), ok_one hp⟩
  · split at h
    · cases h; exact ⟨nb_mk (by decide) (by simp), ok_one hp⟩
    · split at h
      · cases h; exact ⟨nb_mk (by decide) (by simp), ok_one hp⟩
      · split at h
        · split at h
          · cases h
          · rename_i y r hy
            obtain ⟨ha, hr⟩ := ho _ _ _ (ok_must (ok_one hp)) hy
            cases h
            exact ⟨nb_mk (by decide) (by simpa using ha), ok_must hr⟩
        · split at h
          · exact withF_ok ho m _ _ _ _ (ok_one hp) h
          · split at h
            · exact withF_ok ho m _ _ _ _ (ok_one hp) h
            · cases h; exact ⟨nb_mk (by decide) (by simp), ok_fail (ok_one hp)⟩
theorem primaryF_ok (m : Nat) : Rok Nb (primaryF T or m) := by
  intro p x q hp h
  unfold primaryF at h
  split at h
  · rename_i h1
    cases h
    exact ⟨nb_mk (hp h1) (by simp), ok_step⟩
  · split at h
    · cases h; exact ⟨nb_mk (by decide) (by simp), ok_step⟩
    · split at h
      · cases h; exact ⟨nb_mk (by decide) (by simp), ok_step⟩
      · split at h
        · exact keyedF_ok ho m _ _ _ hp h
        · split at h
          · cases h
          · rename_i l r hl
            obtain ⟨ha, hr⟩ := listF_ok ho m _ _ _ hp hl
            cases h
            refine ⟨?_, hr⟩
            unfold tupF
            split
            · exact ha _ (by simp)
            · exact nb_mk (by decide) ha
theorem placesF_ok : ∀ (m : Nat) (x : Ex), Nb x → Rok Nb (placesF T or m x)
  | 0, x, hx => fun p y q hp h => by rw [placesF] at h; cases h
  | m + 1, x, hx => fun p y q hp h => by
    rw [placesF] at h
    split at h
    · cases h; exact ⟨hx, ok_one hp⟩
    · split at h
      · cases h
      · rename_i y r hy
        obtain ⟨ha, hr⟩ := ho _ _ _ (ok_one hp) hy
        exact placesF_ok m _ (nb_mk (by decide) (by
          intro z hz
          simp at hz
          rcases hz with rfl | rfl
          · exact hx
          · exact ha)) _ _ _ (ok_must hr) h
theorem postF_ok (m : Nat) : Rok Nb (postF T or m) := by
  intro p x q hp h
  unfold postF at h
  split at h
  · cases h
  · rename_i y r hy
    obtain ⟨ha, hr⟩ := primaryF_ok ho m _ _ _ hp hy
    exact placesF_ok ho m _ ha _ _ _ hr h
theorem unaryF_ok (m : Nat) : ∀ j, Rok Nb (unaryF T or m j)
  | 0 => fun p y q hp h => by rw [unaryF] at h; cases h
  | j + 1 => fun p y q hp h => by
    rw [unaryF] at h
    split at h
    · split at h
      · cases h
      · rename_i y r hy
        obtain ⟨ha, hr⟩ := unaryF_ok m j _ _ _ (ok_one (ok_begin hp)) hy
        cases h
        exact ⟨nb_mk (by decide) (by simpa using ha), ok_fin hr⟩
    · split at h
      · cases h
      · rename_i y r hy
        obtain ⟨ha, hr⟩ := postF_ok ho m _ _ _ (ok_one (ok_begin hp)) hy
        cases h
        exact ⟨ha, ok_fin hr⟩
end
theorem twoF_ok {below : Rr Ex} (hb : Rok Nb below) (sg : List (List Nat)) : ∀ (m : Nat) (x : Ex), Nb x → Rok Nb (twoF T below sg m x)
  | 0, x, hx => fun p y q hp h => by
    rw [twoF] at h
    cases h
    exact ⟨hx, hp⟩
  | m + 1, x, hx => fun p y q hp h => by
    rw [twoF] at h
    split at h
    · cases h; exact ⟨hx, ok_one hp⟩
    · split at h
      · cases h
      · rename_i y r hy
        obtain ⟨ha, hr⟩ := hb _ _ _ (ok_one hp) hy
        exact twoF_ok hb sg m _ (nb_mk (by decide) (by
          intro z hz
          simp at hz
          rcases hz with rfl | rfl
          · exact hx
          · exact ha)) _ _ _ hr h
theorem twosF_ok {below : Rr Ex} (hb : Rok Nb below) (most : Nat) (sg : List (List Nat)) : Rok Nb (twosF T below most sg) := by
  intro p x q hp h
  unfold twosF at h
  split at h
  · cases h
  · rename_i y r hy
    obtain ⟨ha, hr⟩ := hb _ _ _ hp hy
    exact twoF_ok hb sg most _ ha _ _ _ hr h
theorem orF_ok : ∀ n, Rok Nb (orF T n)
  | 0 => fun p y q hp h => by rw [orF] at h; cases h
  | n + 1 => fun p y q hp h => by
    rw [orF] at h
    exact twosF_ok (twosF_ok (twosF_ok (twosF_ok (twosF_ok (unaryF_ok (orF_ok n) n n) _ _) _ _) _ _) _ _) _ _ _ _ _ hp h
theorem NbSs.of : ∀ {l : List Sm}, (∀ y ∈ l, NbS y) → NbSs l
  | [], h => by rw [NbSs]; trivial
  | x :: r, h => by rw [NbSs]; exact ⟨h x (by simp), NbSs.of fun y hy => h y (by simp [hy])⟩
theorem nbS_mk {k : Nat} {s : List Nat} {x : List Ex} {b c : List Sm} {ln : Int} (hx : ∀ y ∈ x, Nb y) (hb : ∀ y ∈ b, NbS y) (hc : ∀ y ∈ c, NbS y) : NbS (.mk k s x b c ln) := by
  rw [NbS]; exact ⟨Nbs.of hx, NbSs.of hb, NbSs.of hc⟩
theorem stmtsF_ok {stmt : Rr Sm} (hs : Rok NbS stmt) : ∀ (m : Nat) (l : List Sm), (∀ x ∈ l, NbS x) → Rok (fun l => ∀ x ∈ l, NbS x) (stmtsF T stmt m l)
  | 0, l, hl => fun p x q hp h => by rw [stmtsF] at h; cases h
  | m + 1, l, hl => fun p x q hp h => by
    rw [stmtsF] at h
    split at h
    · cases h; exact ⟨hl, hp⟩
    · split at h
      · cases h; exact ⟨hl, ok_one hp⟩
      · split at h
        · cases h
        · rename_i y r hy
          obtain ⟨ha, hr⟩ := hs _ _ _ (ok_one hp) hy
          exact stmtsF_ok hs m _ (all_snoc hl ha) _ _ _ hr h
theorem bodyF_ok {stmt : Rr Sm} (hs : Rok NbS stmt) (m : Nat) : Rok (fun l => ∀ x ∈ l, NbS x) (bodyF T stmt m) := by
  intro p x q hp h
  unfold bodyF at h
  exact stmtsF_ok hs m [] (by simp) _ _ _ (ok_must hp) h
theorem branchF_ok {or : Rr Ex} (ho : Rok Nb or) {body : Rr (List Sm)} (hb : Rok (fun l => ∀ x ∈ l, NbS x) body) (kind ln : Nat) : Rok NbS (branchF T or body kind ln) := by
  intro p x q hp h
  unfold branchF at h
  split at h
  · cases h
  · rename_i y r hy
    obtain ⟨ha, hr⟩ := ho _ _ _ (ok_must hp) hy
    split at h
    · cases h
    · rename_i b r2 hbd
      obtain ⟨hbb, hr2⟩ := hb _ _ _ (ok_must hr) hbd
      split at h
      · split at h
        · split at h
          · cases h
          · rename_i c u hc
            obtain ⟨hcc, hu⟩ := hb _ _ _ (ok_one hr2) hc
            cases h
            exact ⟨nbS_mk (by simpa using ha) hbb hcc, hu⟩
        · cases h
          exact ⟨nbS_mk (by simpa using ha) hbb (by simp), ok_one hr2⟩
      · cases h
        exact ⟨nbS_mk (by simpa using ha) hbb (by simp), hr2⟩
theorem stmtK_ok {or : Rr Ex} (ho : Rok Nb or) {body : Rr (List Sm)} (hb : Rok (fun l => ∀ x ∈ l, NbS x) body) (m kind ln : Nat) : Rok NbS (stmtK T or body m kind ln) := by
  intro p x q hp h
  unfold stmtK at h
  split at h
  · split at h
    · cases h
    · rename_i y r hy
      obtain ⟨ha, hr⟩ := ho _ _ _ (ok_must (ok_name hp)) hy
      cases h
      exact ⟨nbS_mk (by simpa using ha) (by simp) (by simp), ok_must hr⟩
  · split at h
    · exact branchF_ok ho hb kind ln _ _ _ hp h
    · split at h
      · split at h
        · cases h
        · rename_i y r hy
          obtain ⟨ha, hr⟩ := ho _ _ _ hp hy
          cases h
          exact ⟨nbS_mk (by simpa using ha) (by simp) (by simp), ok_must hr⟩
      · split at h
        · split at h
          · cases h
          · rename_i y r hy
            obtain ⟨ha, hr⟩ := postF_ok ho m _ _ _ hp hy
            split at h
            · cases h
            · rename_i l u hl
              obtain ⟨hll, hu⟩ := listF_ok ho m _ _ _ (ok_name hr) hl
              cases h
              refine ⟨nbS_mk ?_ (by simp) (by simp), ok_must hu⟩
              intro z hz
              rcases List.mem_cons.1 hz with rfl | hz
              · exact ha
              · exact hll z hz
        · split at h
          · split at h
            · cases h
            · rename_i l u hl
              obtain ⟨hll, hu⟩ := listF_ok ho m _ _ _ (ok_name hp) hl
              cases h
              exact ⟨nbS_mk hll (by simp) (by simp), ok_must hu⟩
          · cases h
            exact ⟨nbS_mk (by simp) (by simp) (by simp), ok_must hp⟩
theorem stmtF_ok {or : Rr Ex} (ho : Rok Nb or) (m : Nat) : ∀ n, Rok NbS (stmtF T or m n)
  | 0 => fun p y q hp h => by rw [stmtF] at h; cases h
  | n + 1 => fun p y q hp h => by
    rw [stmtF] at h
    split at h
    · cases h
    · rename_i y r hy
      obtain ⟨ha, hr⟩ := stmtK_ok ho (bodyF_ok (stmtF_ok ho m n) m) m _ _ _ _ _ (ok_one (ok_begin hp)) hy
      cases h
      exact ⟨ha, ok_fin hr⟩
theorem nameP_ok : Rok (fun _ => True) (nameP T) := by
  intro p x q hp h
  unfold nameP at h
  simp only [Option.some.injEq] at h
  have := congrArg Prod.snd h
  dsimp only at this
  subst this
  exact ⟨trivial, ok_name hp⟩
theorem namedF_ok (n ln : Nat) : Rok (fun b : Bd => NbSs b.st) (namedF T n ln) := by
  intro p x q hp h
  unfold namedF at h
  split at h
  · cases h
  · rename_i l r hl
    obtain ⟨-, hr⟩ := listF_ok nameP_ok n _ _ _ (ok_name hp) hl
    split at h
    · cases h
    · rename_i b u hb
      obtain ⟨hbb, hu⟩ := bodyF_ok (stmtF_ok (orF_ok n) n n) n _ _ _ hr hb
      cases h
      exact ⟨NbSs.of hbb, hu⟩
theorem onsF_ok (n : Nat) : ∀ (m : Nat) (l : List Bd), (∀ b ∈ l, NbSs b.st) → Rok (fun l : List Bd => ∀ b ∈ l, NbSs b.st) (onsF T n m l)
  | 0, l, hl => fun p x q hp h => by rw [onsF] at h; cases h
  | m + 1, l, hl => fun p x q hp h => by
    rw [onsF] at h
    split at h
    · cases h; exact ⟨hl, hp⟩
    · split at h
      · cases h; exact ⟨hl, ok_one hp⟩
      · split at h
        · cases h
        · rename_i y r hy
          have hp2 : Okp (if ((p.one T 5 [[125]]).2.one T 4 [[111, 110]]).1 = [] then ((p.one T 5 [[125]]).2.one T 4 [[111, 110]]).2.fail 101 else ((p.one T 5 [[125]]).2.one T 4 [[111, 110]]).2) := by
            split
            · exact ok_fail (ok_one (ok_one hp))
            · exact ok_one (ok_one hp)
          obtain ⟨ha, hr⟩ := namedF_ok n _ _ _ _ hp2 hy
          exact onsF_ok n m _ (all_snoc (A := fun b : Bd => NbSs b.st) hl ha) _ _ _ hr h
theorem roleF_ok (n ln : Nat) : Rok (fun r : Rl => ∀ b ∈ r.on, NbSs b.st) (roleF T n ln) := by
  intro p x q hp h
  unfold roleF at h
  split at h
  · cases h
  · rename_i l r hl
    obtain ⟨-, hr⟩ := listF_ok nameP_ok n _ _ _ (ok_name hp) hl
    split at h
    · cases h
    · rename_i b u hb
      obtain ⟨hbb, hu⟩ := onsF_ok n n [] (by simp) _ _ _ (ok_must hr) hb
      cases h
      exact ⟨hbb, hu⟩
theorem progF_ok (n : Nat) : ∀ (m : Nat) (g : Pg), NbP g → Rok NbP (progF T n m g)
  | 0, g, hg => fun p x q hp h => by rw [progF] at h; cases h
  | m + 1, g, hg => fun p x q hp h => by
    rw [progF] at h
    split at h
    · cases h; exact ⟨hg, hp⟩
    · split at h
      · split at h
        · cases h
        · rename_i y r hy
          obtain ⟨ha, hr⟩ := namedF_ok n _ _ _ _ (ok_one hp) hy
          exact progF_ok n m { g with fns := g.fns ++ [y] } ⟨all_snoc (A := fun b : Bd => NbSs b.st) hg.1 ha, hg.2⟩ _ _ _ hr h
      · split at h
        · split at h
          · cases h
          · rename_i y r hy
            obtain ⟨ha, hr⟩ := roleF_ok n _ _ _ _ (ok_one hp) hy
            exact progF_ok n m { g with roles := g.roles ++ [y] } ⟨hg.1, all_snoc (A := fun r : Rl => ∀ b ∈ r.on, NbSs b.st) hg.2 ha⟩ _ _ _ hr h
        · exact progF_ok n m _ hg _ _ _ (ok_fail (ok_one hp)) h
end
/-- The numbers of what is parsed. -/
theorem parse_nb {T : List Nat} {n : Nat} {g : Pg} {er fl : Nat} (h : parseF T n = some (g, er, fl)) : NbP g := by
  have h0 : NbP ⟨[], []⟩ := ⟨by simp, by simp⟩
  unfold parseF at h
  split at h
  · cases h
  · rename_i g1 p hr
    unfold readF at hr
    have := (progF_ok n n _ h0 _ _ _ ok_step hr).1
    split at h
    · cases h; exact h0
    · split at h
      · cases h; exact this
      · cases h; exact h0
end Go.Proofs.YteacmanbiamhoaaGreatDoor
