/- Package tree: body: the walk. -/
import Derived.Test.YtpakjjefbholdaaGreatDoorTm
namespace Go.Proofs.YtpakjjefbholdaaGreatDoor
open Go.RowKit
set_option linter.unusedVariables false

section
variable {w0 : World} {T : List Nat} {R : Ru} {q : Nat}
/-- stmt reads a statement by that rule; body statements. -/
def SC (w0 : World) (T : List Nat) (R : Ru) (q : Nat) (B : Rr Sm) (m : Nat) : Prop := ∀ w p (r : Sm × Pst), Cx w0 T R q w p → p.g + m ≤ mostG → B p = some r → Calls Tryz.prog 160 #[at0 q] w (OutX w0 T R q w r.1.nd r.2)
def BC (w0 : World) (T : List Nat) (R : Ru) (q : Nat) (B : Rr (List Sm)) (m : Nat) : Prop := ∀ w p (r : List Sm × Pst), Cx w0 T R q w p → p.g + m ≤ mostG → B p = some r → Calls Tryz.prog 129 #[at0 q] w (OutX w0 T R q w (.row 6 (r.1.map Sm.nd)) r.2)
theorem ok_at {w : World} {p : Pst} (h : Cx w0 T R q w p) : Calls Tryz.prog 86 #[at0 q] w fun e w' => e = .returned (.bool (decide (p.er = 0))) ∧ w' = w := ok_any h
set_option maxRecDepth 100000 in
set_option maxHeartbeats 4000000 in
theorem body_any (ht : TxtOk w0 T) {B : Rr Sm} {m : Nat} (HX : SC w0 T R q B m) (hG : Gk B) (k : Nat) (hk : k ≤ 100000) : BC w0 T R q (bodyF T B k) m := by
  intro w p r h hg hr
  have HM := Lib.hid (must_any ht h [123] ⟨#[123]⟩ rfl (by decide))
  have hgm := must_g T [123] p
  have hq := h.lt
  have H0 := Lib.hid h
  unfold bodyF at hr
  obtain ⟨b1, p1, hP1⟩ : ∃ b1 p1, p.must T [123] = (b1, p1) := ⟨_, _, rfl⟩
  rw [hP1] at HM hr hgm
  dsimp only at HM hr hgm
  have HR := Lib.hid hr
  have HG3 := Lib.hid hgm
  have HXX := Lib.hid (fun w' p' (rr : Sm × Pst) (h' : Cx w0 T R q w' p') (hg' : p'.g = p.g) (ho' : B p' = some rr) => HX w' p' rr h' (by omega) ho')
  have HSS := Lib.hid (fun p' w' (h' : Cx w0 T R q w' p') => sign_made ht h' [[125]] #[.string ⟨#[125]⟩] 9 1 1 rfl rfl (by decide) (by decide))
  have HGG := Lib.hid (fun p' : Pst => one_g T 5 [[125]] p')
  have HOK := Lib.hid (fun p' w' (h' : Cx w0 T R q w' p') => ok_at h')
  clear h hr ht hgm hP1 HX
  obtain ⟨i0, hi0, hz0, hz1, hz2⟩ := info_parts stmt_info
  unfold at0 at *
  go_enter Tryz.func129, Tryz.ntmps129
  go_wp2_with (first
    | (go_at_call 130
       refine HM.out.mono ?_
       rintro e w1 ⟨rfl, h1, hk1⟩
       have HH1 := Lib.hid h1
       have HK1 := Lib.hid hk1
       clear h1 hk1)
    | (fail))
  go_loopg [3] k (fun g v wr => ∃ (l : List Sm) (L : List Nd) (pj : Pst), Hid (stmtsF T B g l pj = some r ∧ l.map Sm.nd = L) ∧ L.length + g ≤ 200000 ∧ Hid (pj.g = p.g) ∧ Hid (RowX w wr 58 6 v L) ∧ Hid (Cx w0 T R q wr pj) ∧ Hid (Kp q w wr))
  case atStart => exact ⟨[], [], p1, Lib.hid ⟨HR.out, rfl⟩, by simp; omega, HG3, Lib.hid (RowX.nil _ _ _ _), HH1, HK1⟩
  case round =>
    obtain ⟨l, L, pj, HF, hlen, HGJ, HRow, HCj, HKj⟩ := hrel
    obtain ⟨Av, cv, rfl, hcv, hcmv⟩ := HRow.out.form
    cases gk with
    | zero => exact absurd HF.out.1 (by simp [stmtsF])
    | succ g =>
      have hF := HF.out.1
      have HLL := Lib.hid HF.out.2
      rw [stmtsF] at hF
      have HS4 := Lib.hid (HSS.out pj wr HCj.out)
      have HO4 := Lib.hid (HOK.out pj wr HCj.out)
      have hg4 := HGG.out pj
      obtain ⟨s4, p4, hP4⟩ : ∃ s4 p4, pj.one T 5 [[125]] = (s4, p4) := ⟨_, _, rfl⟩
      rw [hP4] at hF HS4 hg4
      dsimp only at hF HS4 hg4
      have he4 : (strOf s4).toList.isEmpty = decide (s4 = []) := one_empty _
      have hszr : w.heap.size ≤ wr.heap.size := HKj.out.size
      clear hP4 HF HM HH1 HK1 HR
      by_cases her : pj.er = 0
      · rw [if_neg (fun hh => hh her)] at hF
        rw [decide_eq_true her] at HO4
        clear her
        by_cases h4 : s4 = []
        · rw [if_neg (fun hh => hh h4)] at hF
          rw [decide_eq_true h4] at he4
          cases ho4 : B p4 with
          | none => rw [ho4] at hF; cases hF
          | some y4 =>
            obtain ⟨x4, p5⟩ := y4
            rw [ho4] at hF
            dsimp only at hF
            have HF5 := Lib.hid hF
            have HG5 : Hid (p5.g = p.g) := Lib.hid (by have := hG _ _ ho4; rw [show p5.g = _ from this, hg4, HGJ.out])
            have HX4 := Lib.hid (fun w' (h' : Cx w0 T R q w' p4) => HXX.out w' p4 _ h' (by rw [hg4, HGJ.out]) ho4)
            clear hF h4 hg4 ho4 HSS HXX HGG HOK
            go_wp2_with (first
              | (go_at_call 86
                 refine HO4.out.mono ?_
                 rintro e w5 ⟨rfl, rfl⟩)
              | (go_at_call 121
                 refine HS4.out.mono ?_
                 rintro e w5 ⟨rfl, h5, hk5⟩
                 have HH5 := Lib.hid h5
                 have HK5 := Lib.hid hk5
                 clear h5 hk5)
              | (go_at_call 160
                 refine (HX4.out _ HH5.out).mono ?_
                 rintro e w6 ⟨v6, rfl, hx6, hc6, hk6⟩
                 have HC6 := Lib.hid hc6
                 have HK6 := Lib.hid (HK5.out.trans hk6)
                 have HX6 := Lib.hid (hx6.early HK5.out.size)
                 obtain ⟨k4, s5, x5, b5, c5, ln5⟩ := x4
                 obtain ⟨yx, yb, yc, rfl, -, -, hyx, hyb, hyc⟩ := (Sm.rd k4 s5 x5 b5 c5 ln5 v6).1 hx6
                 obtain ⟨A1, n1, c1, rfl⟩ := hyx.row_form
                 obtain ⟨A2, n2, c2, rfl⟩ := hyb.row_form
                 obtain ⟨A3, n3, c3, rfl⟩ := hyc.row_form
                 have HRA := Lib.hid (fun o => (HRow.out.kp HK6.out hq).kp ((Kp.refl q w6).alloc o) hq)
                 clear hc6 hk6 hx6 hyx hyb hyc)
              | (at_builtin
                 obtain ⟨xs, ho5, hf5⟩ := HRA.out (.cells #[.int .u8 (k4 : Int), .string (strOf s5), .slice A1 n1 c1, .slice A2 n2 c2, .slice A3 n3 c3, .int .i64 ln5] 58)
                 have hs6 : w.heap.size ≤ w6.heap.size := Nat.le_trans hszr HK6.out.size
                 refine wpList_append_at _ rfl (.tmp 14) (.tmp 17) 53 rfl w.heap.size 58 i0 _ 6 104 Tryz.underlying53 hi0 hz0 hz1 hz2 rfl (by omega) _ _ xs rfl ho5 _ _ 1 1 [.int .u8 (k4 : Int), .string (strOf s5), .slice A1 n1 c1, .slice A2 n2 c2, .slice A3 n3 c3, .int .i64 ln5] rfl (At.made _ _ _) rfl (by intro u hu; simp at hu; rcases hu with rfl | rfl | rfl | rfl | rfl | rfl <;> rfl) (by unfold maxLen; omega) (by omega) (by simp; omega) ?_
                 intro v' w7 ho7 hg7 hor7
                 have hx5 : Rd (w6.alloc (.cells #[.int .u8 (k4 : Int), .string (strOf s5), .slice A1 n1 c1, .slice A2 n2 c2, .slice A3 n3 c3, .int .i64 ln5] 58)) (fun b => Nw w (w6.alloc (.cells #[.int .u8 (k4 : Int), .string (strOf s5), .slice A1 n1 c1, .slice A2 n2 c2, .slice A3 n3 c3, .int .i64 ln5] 58)) b ∧ some b ≠ (Value.slice Av L.length cv).ownBlock) (Sm.nd (.mk k4 s5 x5 b5 c5 ln5)) (.agg #[.int .u8 (k4 : Int), .string (strOf s5), .slice A1 n1 c1, .slice A2 n2 c2, .slice A3 n3 c3, .int .i64 ln5]) := by
                   refine Rd.keep (fun p hp => ((Below.refl _ w6).alloc (Nat.le_refl _) _).cell hp.2) (fun b hb => ⟨⟨Nat.le_trans hszr hb.1, by have := hb.2; simp; omega⟩, ?_⟩) _ _ HX6.out
                   rcases own_ge HRow.out.choose_spec.1 with e | ⟨g', e, -, e2⟩
                   · rw [e]; simp
                   · rw [e]
                     intro e3
                     have := Option.some.inj e3
                     have := hb.1
                     omega
                 have HR7 := Lib.hid (RowX.snoc (x := Sm.nd (.mk k4 s5 x5 b5 c5 ln5)) (news := [.int .u8 (k4 : Int), .string (strOf s5), .slice A1 n1 c1, .slice A2 n2 c2, .slice A3 n3 c3, .int .i64 ln5]) ho5 hf5 hx5 rfl ho7 hg7 hor7)
                 have hcg := Cx.grown H0.out (HC6.out.alloc _) ((HKj.out.trans HK6.out).alloc _) hg7 (fun g' e0 => by
                   have e : (Value.slice Av L.length cv).ownBlock = some g' := e0
                   rcases own_ge HRow.out.choose_spec.1 with e2 | ⟨g2, e2, e3, -⟩
                   · rw [e2] at e; cases e
                   · rw [e2] at e
                     have := Option.some.inj e
                     omega)
                 have HC7 := Lib.hid hcg.1
                 have HK7 := Lib.hid hcg.2
                 clear hcg
                 clear ho5 hf5 hx5 ho7 hg7 hor7)
              | (fail))
            go_roundg g
            case measure => omega
            case rel => exact ⟨l ++ [_], L ++ [_], p5, Lib.hid ⟨HF5.out, by rw [List.map_append, HLL.out]; rfl⟩, by simp; omega, HG5, HR7, HC7, HK7⟩
        · rw [if_pos h4] at hF
          rw [decide_eq_false h4] at he4
          cases hF
          clear h4 HXX hg4
          go_wp2_with (first
            | (go_at_call 86
               refine HO4.out.mono ?_
               rintro e w5 ⟨rfl, rfl⟩)
            | (go_at_call 121
               refine HS4.out.mono ?_
               rintro e w5 ⟨rfl, h5, hk5⟩
               have HH5 := Lib.hid h5
               have HK5 := Lib.hid hk5
               clear h5 hk5)
            | (fail))
          go_ret
          refine ⟨_, rfl, ?_, HH5.out, HKj.out.trans HK5.out⟩
          show Rd _ _ (.row 6 (l.map Sm.nd)) _
          rw [HLL.out]
          exact (HRow.out.kp HK5.out hq).rd
      · rw [if_pos her] at hF
        rw [decide_eq_false her] at HO4
        cases hF
        clear her HXX hg4 HS4 he4
        go_wp2_with (first
          | (go_at_call 86
             refine HO4.out.mono ?_
             rintro e w5 ⟨rfl, rfl⟩)
          | (fail))
        go_ret
        refine ⟨_, rfl, ?_, HCj.out, HKj.out⟩
        show Rd _ _ (.row 6 (l.map Sm.nd)) _
        rw [HLL.out]
        exact HRow.out.rd
end
end Go.Proofs.YtpakjjefbholdaaGreatDoor
