/- Package tree: list: the walks. -/
import Derived.Test.YtpakjjefbholdaaGreatDoorTf
import Derived.Deep.LoopGhost
namespace Go.Proofs.YtpakjjefbholdaaGreatDoor
open Go.RowKit
set_option linter.unusedVariables false

/-- How many may be going on. -/
abbrev mostG : Nat := 1000000000000000
section
variable {w0 : World} {T : List Nat} {R : Ru} {q : Nat}
/-- What a rule leaves. -/
def OutX (w0 : World) (T : List Nat) (R : Ru) (q : Nat) (w : World) (nd : Nd) (p' : Pst) (e : Ending) (w' : World) : Prop :=
  ∃ v, e = .returned v ∧ Rd w' (Nw w w') nd v ∧ Cx w0 T R q w' p' ∧ Kp q w w'
/-- The function value of any expression does that. -/
def XC (w0 : World) (T : List Nat) (R : Ru) (q : Nat) (or : Rr Ex) (m : Nat) : Prop := ∀ w p (r : Ex × Pst), Cx w0 T R q w p → p.g + m ≤ mostG → or p = some r →
  Calls Tryz.prog 120 #[at0 R.or.bb, at0 R.or.bm, at0 R.or.bp, at0 R.or.bs] w (OutX w0 T R q w r.1.nd r.2)
theorem Cx.grown {w w5 w7 : World} {p0 p : Pst} {row : Option Nat} (h0 : Cx w0 T R q w p0) (hc : Cx w0 T R q w5 p) (hk : Kp q w w5) (hg : w5.grownBy w7 row) (hrow : ∀ g, row = some g → w.heap.size ≤ g) : Cx w0 T R q w7 p ∧ Kp q w w7 := by
  have hk7 : Kp q w w7 := ⟨hg.os.trans hk.os, hg.tape.trans hk.tape, hg.output.trans hk.output, Nat.le_trans hk.size hg.size, fun i hi hb => (hg.block i (Nat.lt_of_lt_of_le hi hk.size) (fun e => by have := hrow i e.symm; omega)).trans (hk.block i hi hb)⟩
  have h1 := h0.lt
  exact ⟨h0.on hk7 ((hg.block q hc.lt (fun e => by have := hrow q e.symm; omega)).trans hc.hp) hc.ok, hk7⟩
theorem name_sok {p p' : Pst} {s : List Nat} (h : p.name T = (s, p')) (ok : Sok p.s) : Sok s := by
  unfold Pst.name at h
  split at h
  · cases h; exact ok
  · cases h; exact ⟨by simp, by simp⟩
theorem expr_info : (Tryz.prog.info? 46).map (fun i => (i.zero, i.size, i.bytes)) = some (some (.agg #[.int .u8 0, .string ⟨#[]⟩, .int .i64 0, .slice none 0 0]), 4, 56) := by kernel_rfl
theorem str_info : (Tryz.prog.info? 9).map (fun i => (i.zero, i.size, i.bytes)) = some (some (.string ⟨#[]⟩), 1, 16) := by kernel_rfl

set_option maxRecDepth 100000 in
set_option maxHeartbeats 4000000 in
theorem listX_any (ht : TxtOk w0 T) {or : Rr Ex} {m : Nat} (HX : XC w0 T R q or m) (hG : Gk or) (w : World) (p : Pst) (r : List (Ex) × Pst) (h : Cx w0 T R q w p) (k : Nat) (hk : k ≤ 100000) (hg : p.g + m ≤ mostG) (hr : listF T or k p = some r) :
    Calls Tryz.prog 186 #[at0 q, lvF R.or] w (OutX w0 T R q w (.row 4 (r.1.map Ex.nd)) r.2) := by
  have HM := Lib.hid (must_any ht h [40] ⟨#[40]⟩ rfl (by decide))
  have HS := Lib.hid (fun w1 (h1 : Cx w0 T R q w1 (p.must T [40]).2) => sign_made ht h1 [[41]] #[.string ⟨#[41]⟩] 9 1 1 rfl rfl (by decide) (by decide))
  have hgm := must_g T [40] p
  have hq := h.lt
  have H0 := Lib.hid h
  unfold listF at hr
  have he : ((strOf ((p.must T [40]).2.one T 5 [[41]]).1).toList.isEmpty) = decide (((p.must T [40]).2.one T 5 [[41]]).1 = []) := one_empty _
  have hgs := one_g T 5 [[41]] (p.must T [40]).2
  obtain ⟨b1, p1, hP1⟩ : ∃ b1 p1, p.must T [40] = (b1, p1) := ⟨_, _, rfl⟩
  rw [hP1] at HM HS hr hgm he hgs
  dsimp only at HM HS hr hgm he hgs
  obtain ⟨s2, p2, hP2⟩ : ∃ s2 p2, p1.one T 5 [[41]] = (s2, p2) := ⟨_, _, rfl⟩
  rw [hP2] at HS hr he hgs
  dsimp only at HS hr he hgs
  clear hP1 hP2
  cases b1 with
  | false =>
    rw [if_pos rfl] at hr
    cases hr
    clear HS he hgm hgs HX hG hg ht h
    unfold at0 lvF at *
    go_enter Tryz.func186, Tryz.ntmps186
    go_wp2_with (first
      | (go_at_call 130
         refine HM.out.mono ?_
         rintro e w1 ⟨rfl, h1, hk1⟩)
      | (fail))
    go_ret
    exact ⟨_, rfl, Rd.nil _, h1, hk1⟩
  | true =>
    rw [if_neg (by decide)] at hr
    by_cases hs2 : s2 = []
    · rw [if_neg (fun hh => hh hs2)] at hr
      rw [decide_eq_true hs2] at he
      subst hs2
      cases ho : or p2 with
      | none => rw [ho] at hr; cases hr
      | some y =>
        obtain ⟨x, p3⟩ := y
        rw [ho] at hr
        dsimp only at hr
        have hg3 : p3.g = p.g := by have := hG _ _ ho; rw [show p3.g = _ from this, hgs, hgm]
        have HX1 := Lib.hid (fun w' (h' : Cx w0 T R q w' p2) => HX w' p2 _ h' (by omega) ho)
        have HXX := Lib.hid (fun w' p' (rr : Ex × Pst) (h' : Cx w0 T R q w' p') (hg' : p'.g = p.g) (ho' : or p' = some rr) => HX w' p' rr h' (by omega) ho')
        clear HX
        have HR := Lib.hid hr
        have HG3 := Lib.hid hg3
        have HMM := Lib.hid (fun p' w' (h' : Cx w0 T R q w' p') => must_any ht h' [41] ⟨#[41]⟩ rfl (by decide))
        have HSS := Lib.hid (fun p' w' (h' : Cx w0 T R q w' p') => sign_made ht h' [[44]] #[.string ⟨#[44]⟩] 9 1 1 rfl rfl (by decide) (by decide))
        have HGG := Lib.hid (fun p' : Pst => one_g T 5 [[44]] p')
        clear h hr ho hgm hgs ht hg3
        obtain ⟨i0, hi0, hz0, hz1, hz2⟩ := info_parts expr_info
        unfold at0 lvF at *
        go_enter Tryz.func186, Tryz.ntmps186
        go_wp2_with (first
          | (go_at_call 130
             refine HM.out.mono ?_
             rintro e w1 ⟨rfl, h1, hk1⟩
             have HH1 := Lib.hid h1
             have HK1 := Lib.hid hk1
             clear h1 hk1)
          | (go_at_call 121
             refine (HS.out _ HH1.out).mono ?_
             rintro e w2 ⟨rfl, h2, hk2⟩
             have HH2 := Lib.hid h2
             have HK2 := Lib.hid (HK1.out.trans hk2)
             clear h2 hk2)
          | (go_at_call 120
             refine (HX1.out _ HH2.out).mono ?_
             rintro e w3 ⟨v3, rfl, hx3, hc3, hk3⟩
             have HC3 := Lib.hid hc3
             have HK3 := Lib.hid (HK2.out.trans hk3)
             have HX3 := Lib.hid (hx3.early HK2.out.size)
             obtain ⟨k0, s0, n0, l0⟩ := x
             obtain ⟨y, rfl, -, -, -⟩ := (Ex.rd k0 s0 n0 l0 v3).1 hx3
             clear hc3 hk3 hx3)
          | (fail))
        have hsz2 : w.heap.size ≤ w3.heap.size := HK3.out.size
        go_loopg [5] k (fun g v wr => ∃ (l : List (Ex)) (L : List Nd) (pj : Pst), Hid (moreF T or g l pj = some r ∧ l.map Ex.nd = L) ∧ L.length + g ≤ 200000 ∧ Hid (pj.g = p.g) ∧ Hid (RowX w wr 46 4 v L) ∧ Hid (Cx w0 T R q wr pj) ∧ Hid (Kp q w wr))
        case atStart =>
          refine ⟨[_], [Ex.nd _], p3, Lib.hid ⟨HR.out, rfl⟩, by simp; omega, HG3, Lib.hid ?_, Lib.hid (HC3.out.alloc _), Lib.hid (HK3.out.alloc _)⟩
          exact RowX.lit w w3 _ _ _ 4 rfl hsz2 HX3.out
        case round =>
          obtain ⟨l, L, pj, HF, hlen, HGJ, HRow, HCj, HKj⟩ := hrel
          obtain ⟨Av, cv, rfl, hcv, hcmv⟩ := HRow.out.form
          cases gk with
          | zero => exact absurd HF.out.1 (by simp [moreF])
          | succ g =>
            have hF := HF.out.1
            have HLL := Lib.hid HF.out.2
            rw [moreF] at hF
            have HS4 := Lib.hid (HSS.out pj wr HCj.out)
            have hg4 := HGG.out pj
            obtain ⟨s4, p4, hP4⟩ : ∃ s4 p4, pj.one T 5 [[44]] = (s4, p4) := ⟨_, _, rfl⟩
            rw [hP4] at hF HS4 hg4
            dsimp only at hF HS4 hg4
            have he4 : (strOf s4).toList.isEmpty = decide (s4 = []) := one_empty _
            have hszr : w.heap.size ≤ wr.heap.size := HKj.out.size
            clear hP4
            by_cases h4 : s4 = []
            · rw [if_pos h4] at hF
              rw [decide_eq_true h4] at he4
              cases hF
              clear HF h4 HXX HX1 HX3 HM HS HH1 HK1 HH2 HK2 HR hg4
              go_wp2_with (first
                | (go_at_call 121
                   refine HS4.out.mono ?_
                   rintro e w5 ⟨rfl, h5, hk5⟩
                   have HH5 := Lib.hid h5
                   have HK5 := Lib.hid hk5
                   clear h5 hk5)
                | (go_at_call 130
                   refine (HMM.out _ _ HH5.out).mono ?_
                   rintro e w6 ⟨rfl, h6, hk6⟩
                   have HH6 := Lib.hid h6
                   have HK6 := Lib.hid (HK5.out.trans hk6)
                   clear h6 hk6)
                | (fail))
              go_ret
              refine ⟨_, rfl, ?_, HH6.out, HKj.out.trans HK6.out⟩
              show Rd _ _ (.row 4 (l.map Ex.nd)) _
              rw [HLL.out]
              exact (HRow.out.kp HK6.out hq).rd
            · rw [if_neg h4] at hF
              rw [decide_eq_false h4] at he4
              cases ho4 : or p4 with
              | none => rw [ho4] at hF; cases hF
              | some y4 =>
                obtain ⟨x4, p5⟩ := y4
                rw [ho4] at hF
                dsimp only at hF
                have HF5 := Lib.hid hF
                have HG5 : Hid (p5.g = p.g) := Lib.hid (by have := hG _ _ ho4; rw [show p5.g = _ from this, hg4, HGJ.out])
                have HX4 := Lib.hid (fun w' (h' : Cx w0 T R q w' p4) => HXX.out w' p4 _ h' (by rw [hg4, HGJ.out]) ho4)
                clear HF hF h4 HX1 HX3 HM HS HH1 HK1 HH2 HK2 HR hg4 ho4 HSS HMM HXX HGG
                go_wp2_with (first
                  | (go_at_call 121
                     refine HS4.out.mono ?_
                     rintro e w5 ⟨rfl, h5, hk5⟩
                     have HH5 := Lib.hid h5
                     have HK5 := Lib.hid hk5
                     clear h5 hk5)
                  | (go_at_call 120
                     refine (HX4.out _ HH5.out).mono ?_
                     rintro e w6 ⟨v6, rfl, hx6, hc6, hk6⟩
                     have HC6 := Lib.hid hc6
                     have HK6 := Lib.hid (HK5.out.trans hk6)
                     have HX6 := Lib.hid (hx6.early HK5.out.size)
                     obtain ⟨k4, s5, n4, l4⟩ := x4
                     obtain ⟨y5, rfl, -, -, hy5⟩ := (Ex.rd k4 s5 n4 l4 v6).1 hx6
                     have Y5 : Hid (y5.oneCell' = true) := Lib.hid (by rw [Rd] at hy5; obtain ⟨A, c, rfl, -⟩ := hy5; rfl)
                     have HRA := Lib.hid (fun o => (HRow.out.kp HK6.out hq).kp ((Kp.refl q w6).alloc o) hq)
                     clear hc6 hk6 hx6 hy5)
                  | (at_builtin
                     obtain ⟨xs, ho5, hf5⟩ := HRA.out (.cells #[.int .u8 (k4 : Int), .string (strOf s5), .int .i64 n4, y5] 46)
                     have hs6 : w.heap.size ≤ w6.heap.size := Nat.le_trans hszr HK6.out.size
                     refine wpList_append_at _ rfl (.tmp 22) (.tmp 25) 44 rfl w.heap.size 46 i0 _ 4 56 Tryz.underlying44 hi0 hz0 hz1 hz2 rfl (by omega) _ _ xs rfl ho5 _ _ 1 1 [.int .u8 (k4 : Int), .string (strOf s5), .int .i64 n4, y5] rfl (At.made _ _ _) rfl (by intro u hu; simp at hu; rcases hu with rfl | rfl | rfl | rfl <;> first | rfl | exact Y5.out) (by unfold maxLen; omega) (by omega) (by simp; omega) ?_
                     intro v' w7 ho7 hg7 hor7
                     have hx5 : Rd (w6.alloc (.cells #[.int .u8 (k4 : Int), .string (strOf s5), .int .i64 n4, y5] 46)) (fun b => Nw w (w6.alloc (.cells #[.int .u8 (k4 : Int), .string (strOf s5), .int .i64 n4, y5] 46)) b ∧ some b ≠ (Value.slice Av L.length cv).ownBlock) (Ex.nd (.mk k4 s5 n4 l4)) (.agg #[.int .u8 (k4 : Int), .string (strOf s5), .int .i64 n4, y5]) := by
                       refine Rd.keep (fun p hp => ((Below.refl _ w6).alloc (Nat.le_refl _) _).cell hp.2) (fun b hb => ⟨⟨Nat.le_trans hszr hb.1, by have := hb.2; simp; omega⟩, ?_⟩) _ _ HX6.out
                       rcases own_ge HRow.out.choose_spec.1 with e | ⟨g', e, -, e2⟩
                       · rw [e]; simp
                       · rw [e]
                         intro e3
                         have := Option.some.inj e3
                         have := hb.1
                         omega
                     have HR7 := Lib.hid (RowX.snoc (x := Ex.nd (.mk k4 s5 n4 l4)) (news := [.int .u8 (k4 : Int), .string (strOf s5), .int .i64 n4, y5]) ho5 hf5 hx5 rfl ho7 hg7 hor7)
                     have hcg := Cx.grown H0.out (HC6.out.alloc _) ((HKj.out.trans HK6.out).alloc _) hg7 (fun g' e0 => by
                       have e : (Value.slice Av L.length cv).ownBlock = some g' := e0
                       rcases own_ge HRow.out.choose_spec.1 with e2 | ⟨g2, e2, e3, -⟩
                       · rw [e2] at e; cases e
                       · rw [e2] at e
                         have := Option.some.inj e
                         omega)
                     have HC7 := Lib.hid hcg.1
                     have HK7 := Lib.hid hcg.2
                     clear hcg
                     clear ho5 hf5 hx5 ho7 hg7 hor7)
                  | (fail))
                go_roundg g
                case measure => omega
                case rel => exact ⟨l ++ [_], L ++ [_], p5, Lib.hid ⟨HF5.out, by rw [List.map_append, HLL.out]; rfl⟩, by simp; omega, HG5, HR7, HC7, HK7⟩
    · rw [if_pos hs2] at hr
      rw [decide_eq_false hs2] at he
      cases hr
      clear hgm hgs ht h HX hG hg
      unfold at0 lvF at *
      go_enter Tryz.func186, Tryz.ntmps186
      go_wp2_with (first
        | (go_at_call 130
           refine HM.out.mono ?_
           rintro e w1 ⟨rfl, h1, hk1⟩
           have HH1 := Lib.hid h1
           have HK1 := Lib.hid hk1
           clear h1 hk1)
        | (go_at_call 121
           refine (HS.out _ HH1.out).mono ?_
           rintro e w2 ⟨rfl, h2, hk2⟩
           have HH2 := Lib.hid h2
           have HK2 := Lib.hid (HK1.out.trans hk2)
           clear h2 hk2)
        | (fail))
      go_ret
      exact ⟨_, rfl, Rd.nil _, HH2.out, HK2.out⟩

set_option maxRecDepth 100000 in
set_option maxHeartbeats 4000000 in
theorem listN_any (ht : TxtOk w0 T) (w : World) (p : Pst) (r : List (List Nat) × Pst) (h : Cx w0 T R q w p) (k : Nat) (hk : k ≤ 100000) (hr : listF T (nameP T) k p = some r) :
    Calls Tryz.prog 128 #[at0 q, .func (.func 127) #[at0 q] #[]] w (OutX w0 T R q w (.row 1 (r.1.map nmNd)) r.2) := by
  have HM := Lib.hid (must_any ht h [40] ⟨#[40]⟩ rfl (by decide))
  have HS := Lib.hid (fun w1 (h1 : Cx w0 T R q w1 (p.must T [40]).2) => sign_made ht h1 [[41]] #[.string ⟨#[41]⟩] 9 1 1 rfl rfl (by decide) (by decide))
  have hgm := must_g T [40] p
  have hq := h.lt
  have H0 := Lib.hid h
  unfold listF at hr
  have he : ((strOf ((p.must T [40]).2.one T 5 [[41]]).1).toList.isEmpty) = decide (((p.must T [40]).2.one T 5 [[41]]).1 = []) := one_empty _
  have hgs := one_g T 5 [[41]] (p.must T [40]).2
  obtain ⟨b1, p1, hP1⟩ : ∃ b1 p1, p.must T [40] = (b1, p1) := ⟨_, _, rfl⟩
  rw [hP1] at HM HS hr hgm he hgs
  dsimp only at HM HS hr hgm he hgs
  obtain ⟨s2, p2, hP2⟩ : ∃ s2 p2, p1.one T 5 [[41]] = (s2, p2) := ⟨_, _, rfl⟩
  rw [hP2] at HS hr he hgs
  dsimp only at HS hr he hgs
  clear hP1 hP2
  cases b1 with
  | false =>
    rw [if_pos rfl] at hr
    cases hr
    clear HS he hgm hgs ht h
    unfold at0 at *
    go_enter Tryz.func128, Tryz.ntmps128
    go_wp2_with (first
      | (go_at_call 130
         refine HM.out.mono ?_
         rintro e w1 ⟨rfl, h1, hk1⟩)
      | (fail))
    go_ret
    exact ⟨_, rfl, Rd.nil _, h1, hk1⟩
  | true =>
    rw [if_neg (by decide)] at hr
    by_cases hs2 : s2 = []
    · rw [if_neg (fun hh => hh hs2)] at hr
      rw [decide_eq_true hs2] at he
      subst hs2
      cases ho : (nameP T) p2 with
      | none => rw [ho] at hr; cases hr
      | some y =>
        obtain ⟨x, p3⟩ := y
        rw [ho] at hr
        dsimp only at hr
        have hg3 : p3.g = p.g := by have := (show p3.g = p2.g by have e := name_g T p2; rw [show p2.name T = (x, p3) from Option.some.inj ho] at e; exact e); rw [show p3.g = _ from this, hgs, hgm]
        have HX1 := Lib.hid (fun w' (h' : Cx w0 T R q w' p2) => name_any' ht h')
        have HXX := Lib.hid (fun w' p' (h' : Cx w0 T R q w' p') => name_any' ht h')
        have hx1 : (p2.name T) = (x, p3) := Option.some.inj ho
        rw [hx1] at HX1
        have NXX := Lib.hid hx1
        clear hx1
        have HR := Lib.hid hr
        have HG3 := Lib.hid hg3
        have HMM := Lib.hid (fun p' w' (h' : Cx w0 T R q w' p') => must_any ht h' [41] ⟨#[41]⟩ rfl (by decide))
        have HSS := Lib.hid (fun p' w' (h' : Cx w0 T R q w' p') => sign_made ht h' [[44]] #[.string ⟨#[44]⟩] 9 1 1 rfl rfl (by decide) (by decide))
        have HGG := Lib.hid (fun p' : Pst => one_g T 5 [[44]] p')
        clear h hr ho hgm hgs ht hg3
        obtain ⟨i0, hi0, hz0, hz1, hz2⟩ := info_parts str_info
        unfold at0 at *
        go_enter Tryz.func128, Tryz.ntmps128
        go_wp2_with (first
          | (go_at_call 130
             refine HM.out.mono ?_
             rintro e w1 ⟨rfl, h1, hk1⟩
             have HH1 := Lib.hid h1
             have HK1 := Lib.hid hk1
             clear h1 hk1)
          | (go_at_call 121
             refine (HS.out _ HH1.out).mono ?_
             rintro e w2 ⟨rfl, h2, hk2⟩
             have HH2 := Lib.hid h2
             have HK2 := Lib.hid (HK1.out.trans hk2)
             clear h2 hk2)
          | (go_at_call 127
             refine (HX1.out _ HH2.out).mono ?_
             rintro e w3 ⟨rfl, hc3, hk3⟩
             have NOK := Lib.hid (name_sok NXX.out HH2.out.ok)
             have HC3 := Lib.hid hc3
             have HK3 := Lib.hid (HK2.out.trans hk3)
             have HX3 : Hid (Rd w3 (Nw w w3) (nmNd x) (.agg #[.string (strOf x)])) := Lib.hid ((nm_rd x _).2 ⟨rfl, NOK.out.1, by have := NOK.out.2; omega⟩)
             clear hc3 hk3)
          | (fail))
        have hsz2 : w.heap.size ≤ w3.heap.size := HK3.out.size
        go_loopg [5] k (fun g v wr => ∃ (l : List (List Nat)) (L : List Nd) (pj : Pst), Hid (moreF T (nameP T) g l pj = some r ∧ l.map nmNd = L) ∧ L.length + g ≤ 200000 ∧ Hid (pj.g = p.g) ∧ Hid (RowX w wr 9 1 v L) ∧ Hid (Cx w0 T R q wr pj) ∧ Hid (Kp q w wr))
        case atStart =>
          refine ⟨[_], [nmNd _], p3, Lib.hid ⟨HR.out, rfl⟩, by simp; omega, HG3, Lib.hid ?_, Lib.hid (HC3.out.alloc _), Lib.hid (HK3.out.alloc _)⟩
          exact RowX.lit w w3 _ _ _ 1 rfl hsz2 HX3.out
        case round =>
          obtain ⟨l, L, pj, HF, hlen, HGJ, HRow, HCj, HKj⟩ := hrel
          obtain ⟨Av, cv, rfl, hcv, hcmv⟩ := HRow.out.form
          cases gk with
          | zero => exact absurd HF.out.1 (by simp [moreF])
          | succ g =>
            have hF := HF.out.1
            have HLL := Lib.hid HF.out.2
            rw [moreF] at hF
            have HS4 := Lib.hid (HSS.out pj wr HCj.out)
            have hg4 := HGG.out pj
            obtain ⟨s4, p4, hP4⟩ : ∃ s4 p4, pj.one T 5 [[44]] = (s4, p4) := ⟨_, _, rfl⟩
            rw [hP4] at hF HS4 hg4
            dsimp only at hF HS4 hg4
            have he4 : (strOf s4).toList.isEmpty = decide (s4 = []) := one_empty _
            have hszr : w.heap.size ≤ wr.heap.size := HKj.out.size
            clear hP4
            by_cases h4 : s4 = []
            · rw [if_pos h4] at hF
              rw [decide_eq_true h4] at he4
              cases hF
              clear HF h4 HXX HX1 HX3 HM HS HH1 HK1 HH2 HK2 HR hg4
              go_wp2_with (first
                | (go_at_call 121
                   refine HS4.out.mono ?_
                   rintro e w5 ⟨rfl, h5, hk5⟩
                   have HH5 := Lib.hid h5
                   have HK5 := Lib.hid hk5
                   clear h5 hk5)
                | (go_at_call 130
                   refine (HMM.out _ _ HH5.out).mono ?_
                   rintro e w6 ⟨rfl, h6, hk6⟩
                   have HH6 := Lib.hid h6
                   have HK6 := Lib.hid (HK5.out.trans hk6)
                   clear h6 hk6)
                | (fail))
              go_ret
              refine ⟨_, rfl, ?_, HH6.out, HKj.out.trans HK6.out⟩
              show Rd _ _ (.row 1 (l.map nmNd)) _
              rw [HLL.out]
              exact (HRow.out.kp HK6.out hq).rd
            · rw [if_neg h4] at hF
              rw [decide_eq_false h4] at he4
              cases ho4 : (nameP T) p4 with
              | none => rw [ho4] at hF; cases hF
              | some y4 =>
                obtain ⟨x4, p5⟩ := y4
                rw [ho4] at hF
                dsimp only at hF
                have HF5 := Lib.hid hF
                have HG5 : Hid (p5.g = p.g) := Lib.hid (by have := (show p5.g = p4.g by have e := name_g T p4; rw [show p4.name T = (x4, p5) from Option.some.inj ho4] at e; exact e); rw [show p5.g = _ from this, hg4, HGJ.out])
                have hx4 : p4.name T = (x4, p5) := Option.some.inj ho4
                have HX4 := Lib.hid (fun w' (h' : Cx w0 T R q w' p4) => HXX.out w' p4 h')
                rw [hx4] at HX4
                have NX4 := Lib.hid hx4
                clear hx4
                clear HF hF h4 HX1 HX3 HM HS HH1 HK1 HH2 HK2 HR hg4 ho4 HSS HMM HXX HGG
                go_wp2_with (first
                  | (go_at_call 121
                     refine HS4.out.mono ?_
                     rintro e w5 ⟨rfl, h5, hk5⟩
                     have HH5 := Lib.hid h5
                     have HK5 := Lib.hid hk5
                     clear h5 hk5)
                  | (go_at_call 127
                     refine (HX4.out _ HH5.out).mono ?_
                     rintro e w6 ⟨rfl, hc6, hk6⟩
                     have NOK4 := Lib.hid (name_sok NX4.out HH5.out.ok)
                     have HC6 := Lib.hid hc6
                     have HK6 := Lib.hid (HK5.out.trans hk6)
                     have HX6 : Hid (Rd w6 (Nw wr w6) (nmNd x4) (.agg #[.string (strOf x4)])) := Lib.hid ((nm_rd x4 _).2 ⟨rfl, NOK4.out.1, by have := NOK4.out.2; omega⟩)
                     have HRA := Lib.hid (fun o => (HRow.out.kp HK6.out hq).kp ((Kp.refl q w6).alloc o) hq)
                     clear hc6 hk6)
                  | (at_builtin
                     obtain ⟨xs, ho5, hf5⟩ := HRA.out (.cells #[.string (strOf x4)] 9)
                     have hs6 : w.heap.size ≤ w6.heap.size := Nat.le_trans hszr HK6.out.size
                     refine wpList_append_at _ rfl (.tmp 22) (.tmp 25) 41 rfl w.heap.size 9 i0 _ 1 16 Tryz.underlying41 hi0 hz0 hz1 hz2 rfl (by omega) _ _ xs rfl ho5 _ _ 1 1 [.string (strOf x4)] rfl (At.made _ _ _) rfl (by intro u hu; simp at hu; subst hu; rfl) (by unfold maxLen; omega) (by omega) (by simp; omega) ?_
                     intro v' w7 ho7 hg7 hor7
                     have hx5 : Rd (w6.alloc (.cells #[.string (strOf x4)] 9)) (fun b => Nw w (w6.alloc (.cells #[.string (strOf x4)] 9)) b ∧ some b ≠ (Value.slice Av L.length cv).ownBlock) (nmNd x4) (.agg #[.string (strOf x4)]) := by
                       refine Rd.keep (fun p hp => ((Below.refl _ w6).alloc (Nat.le_refl _) _).cell hp.2) (fun b hb => ⟨⟨Nat.le_trans hszr hb.1, by have := hb.2; simp; omega⟩, ?_⟩) _ _ HX6.out
                       rcases own_ge HRow.out.choose_spec.1 with e | ⟨g', e, -, e2⟩
                       · rw [e]; simp
                       · rw [e]
                         intro e3
                         have := Option.some.inj e3
                         have := hb.1
                         omega
                     have HR7 := Lib.hid (RowX.snoc (x := nmNd x4) (news := [.string (strOf x4)]) ho5 hf5 hx5 rfl ho7 hg7 hor7)
                     have hcg := Cx.grown H0.out (HC6.out.alloc _) ((HKj.out.trans HK6.out).alloc _) hg7 (fun g' e0 => by
                       have e : (Value.slice Av L.length cv).ownBlock = some g' := e0
                       rcases own_ge HRow.out.choose_spec.1 with e2 | ⟨g2, e2, e3, -⟩
                       · rw [e2] at e; cases e
                       · rw [e2] at e
                         have := Option.some.inj e
                         omega)
                     have HC7 := Lib.hid hcg.1
                     have HK7 := Lib.hid hcg.2
                     clear hcg
                     clear ho5 hf5 hx5 ho7 hg7 hor7)
                  | (fail))
                go_roundg g
                case measure => omega
                case rel => exact ⟨l ++ [_], L ++ [_], p5, Lib.hid ⟨HF5.out, by rw [List.map_append, HLL.out]; rfl⟩, by simp; omega, HG5, HR7, HC7, HK7⟩
    · rw [if_pos hs2] at hr
      rw [decide_eq_false hs2] at he
      cases hr
      clear hgm hgs ht h
      unfold at0 at *
      go_enter Tryz.func128, Tryz.ntmps128
      go_wp2_with (first
        | (go_at_call 130
           refine HM.out.mono ?_
           rintro e w1 ⟨rfl, h1, hk1⟩
           have HH1 := Lib.hid h1
           have HK1 := Lib.hid hk1
           clear h1 hk1)
        | (go_at_call 121
           refine (HS.out _ HH1.out).mono ?_
           rintro e w2 ⟨rfl, h2, hk2⟩
           have HH2 := Lib.hid h2
           have HK2 := Lib.hid (HK1.out.trans hk2)
           clear h2 hk2)
        | (fail))
      go_ret
      exact ⟨_, rfl, Rd.nil _, HH2.out, HK2.out⟩
end
end Go.Proofs.YtpakjjefbholdaaGreatDoor
