/- Package tree: branch: the walk. -/
import Derived.Test.YtpakjjefbholdaaGreatDoorTn
namespace Go.Proofs.YtpakjjefbholdaaGreatDoor
open Go.RowKit
set_option linter.unusedVariables false

section
variable {w0 : World} {T : List Nat} {R : Ru} {q : Nat} {or : Rr Ex} {body : Rr (List Sm)} {m : Nat}
/-- What branch leaves in the variable. -/
def BrOut (w0 : World) (T : List Nat) (R : Ru) (q : Nat) (wS : World) (g0 g3 k ln : Nat) (r : Sm × Pst) (w' : World) : Prop :=
  ∃ x b c yx yb yc, r.1 = .mk k [] x b c ln ∧ StAt wS w' g0 g3 k [] x b c ln yx yb yc ∧ Cx w0 T R q w' r.2 ∧ Kp q wS w'
/-- A list of one expression, in an array that was just made. -/
theorem Sg.one {wS w1 X : World} {g0 g3 : Nat} {k1 : Nat} {s1 : List Nat} {n1 : Int} {l1 : List Ex} {A1 : Option Addr} {m1 c1 : Nat} (hx : Rd X (Nw w1 X) (Ex.nd (.mk k1 s1 n1 l1)) (.agg #[.int .u8 (k1 : Int), .string (strOf s1), .int .i64 n1, .slice A1 m1 c1]))
    (hw : wS.heap.size ≤ w1.heap.size) (h0 : g0 < w1.heap.size) (h3 : g3 < w1.heap.size) (h1 : w1.heap.size ≤ X.heap.size) :
    Rd (X.alloc (.cells #[.int .u8 (k1 : Int), .string (strOf s1), .int .i64 n1, .slice A1 m1 c1] 46)) (Sg wS (X.alloc (.cells #[.int .u8 (k1 : Int), .string (strOf s1), .int .i64 n1, .slice A1 m1 c1] 46)) g0 g3) (.row 4 (([.mk k1 s1 n1 l1] : List Ex).map Ex.nd)) (.slice (some ⟨X.heap.size, 0, none⟩) 1 1) := by
  have hf : Flat X (Sg wS X g0 g3) 4 [.int .u8 (k1 : Int), .string (strOf s1), .int .i64 n1, .slice A1 m1 c1] [Ex.nd (.mk k1 s1 n1 l1)] := Flat.one rfl (Sg.of hx hw h0 h3)
  have hl := Rd.lit (E := 46) (arr := #[.int .u8 (k1 : Int), .string (strOf s1), .int .i64 n1, .slice A1 m1 c1]) (k := 1) (fun b hb => hb.1.2) hf rfl (by omega)
  refine Rd.keep (fun _ _ => rfl) (fun b hb => ?_) _ _ hl
  rcases hb with hb | hb
  · exact ⟨⟨hb.1.1, by have := hb.1.2; simp; omega⟩, hb.2⟩
  · subst hb
    exact ⟨⟨by omega, by simp⟩, by omega, by omega⟩
set_option maxRecDepth 100000 in
set_option maxHeartbeats 4000000 in
theorem branch_any (ht : TxtOk w0 T) (HX : XC w0 T R q or m) (HB : BC w0 T R q body m) (hG : Gk or) (hGb : Gk body) (wS : World) (pS : Pst) (hS : Cx w0 T R q wS pS) (w : World) (p : Pst) (h : Cx w0 T R q w p) (hK : Kp q wS w) (g0 g3 k ln : Nat) (hg0 : wS.heap.size ≤ g0) (hg3 : wS.heap.size ≤ g3) (hn : g0 ≠ g3)
    (hk : k = 3 ∨ k = 4) (yx yb yc : Value) (hst : StAt wS w g0 g3 k [] [] [] [] ln yx yb yc) (hg : p.g + m ≤ mostG) (r : Sm × Pst) (hr : branchF T or body k ln p = some r) :
    Calls Tryz.prog 198 #[at0 q, at0 g3] w fun e w' => e = .returned (.tuple #[]) ∧ BrOut w0 T R q wS g0 g3 k ln r w' := by
  have HM := Lib.hid (must_any ht h [40] ⟨#[40]⟩ rfl (by decide))
  have HMM := Lib.hid (fun p' w' (h' : Cx w0 T R q w' p') => must_any ht h' [41] ⟨#[41]⟩ rfl (by decide))
  have HKE := Lib.hid (fun p' w' (h' : Cx w0 T R q w' p') => key_made ht h' [[101, 108, 115, 101]] #[.string ⟨#[101, 108, 115, 101]⟩] 9 1 1 rfl rfl (by decide) (by decide))
  have hgm := must_g T [40] p
  have hqS := hS.lt
  have HqS := Lib.hid hS.lt
  have hq := h.lt
  have hq0 : g0 ≠ q := by omega
  have hq3 : g3 ≠ q := by omega
  unfold branchF at hr
  obtain ⟨b1, p1, hP1⟩ : ∃ b1 p1, p.must T [40] = (b1, p1) := ⟨_, _, rfl⟩
  rw [hP1] at HM hr hgm
  dsimp only at HM hr hgm
  cases ho : or p1 with
  | none => rw [ho] at hr; cases hr
  | some y =>
    obtain ⟨x, p2⟩ := y
    rw [ho] at hr
    dsimp only at hr
    have hg2 := hG _ _ ho
    have hg3' := must_g T [41] p2
    obtain ⟨b3, p3, hP3⟩ : ∃ b3 p3, p2.must T [41] = (b3, p3) := ⟨_, _, rfl⟩
    have HM2 := Lib.hid (HMM.out p2)
    rw [hP3] at hr hg3' HM2
    dsimp only at hr hg3' HM2
    cases hb : body p3 with
    | none => rw [hb] at hr; cases hr
    | some yb' =>
      obtain ⟨bd, p4⟩ := yb'
      rw [hb] at hr
      dsimp only at hr
      have hg4 := hGb _ _ hb
      have hgg : p4.g = p.g := by rw [show p4.g = _ from hg4, hg3', show p2.g = _ from hg2, hgm]
      have HXX := Lib.hid (fun w' (h' : Cx w0 T R q w' p1) => HX w' p1 (x, p2) h' (by omega) ho)
      have HBB := Lib.hid (fun w' (h' : Cx w0 T R q w' p3) => HB w' p3 (bd, p4) h' (by rw [hg3', show p2.g = _ from hg2, hgm]; exact hg) hb)
      have HB2 := Lib.hid (fun w' p' (rr : List Sm × Pst) (h' : Cx w0 T R q w' p') (hg' : p'.g = p.g) (hb' : body p' = some rr) => HB w' p' rr h' (by omega) hb')
      have HGG := Lib.hid hgg
      have HR := Lib.hid hr
      have HS0 := Lib.hid hS
      have HK0 := Lib.hid hK
      have HST := Lib.hid hst
      have hl3 := Lib.hid (lt_heap hst.e)
      have hl0 := Lib.hid (lt_heap hst.z)
      clear HX HB hG hGb ht h hS hK hst hP1 hP3 ho hb hg2 hg3' hg4 hgm hgg hr HMM
      unfold at0 at *
      go_enter Tryz.func198, Tryz.ntmps198
      go_upto_region 2 with (first
        | (go_at_call 130
           refine HM.out.mono ?_
           rintro e w1 ⟨rfl, h1, hk1⟩
           have HH1 := Lib.hid h1
           have HK1 := Lib.hid (HK0.out.trans hk1)
           have HS1 := Lib.hid (HST.out.kp hk1 HqS.out hq0 hq3)
           have HL1 := Lib.hid (show g3 < w1.heap.size ∧ g0 < w1.heap.size from ⟨lt_heap HS1.out.e, lt_heap HS1.out.z⟩)
           have hz1 := lt_heap HS1.out.e
           obtain ⟨⟨-, -, -, -, -, -, -, -, -, -, c10⟩, -⟩ := box11 h1.hp
           unfold lvF at0 at c10
           have hlt1 := h1.lt
           clear h1 hk1)
        | (go_at_call 120
           refine (HXX.out _ HH1.out).mono ?_
           rintro e w2 ⟨v2, rfl, hx2, h2, hk2⟩
           obtain ⟨k1, s1, n1, l1⟩ := x
           obtain ⟨y, rfl, -, -, hy⟩ := (Ex.rd k1 s1 n1 l1 v2).1 hx2
           obtain ⟨A1, m1, c1, rfl⟩ := hy.row_form
           have HH2 := Lib.hid h2
           have HK2 := Lib.hid (HK1.out.trans hk2)
           have HS2 := Lib.hid (HS1.out.kp hk2 HqS.out hq0 hq3)
           have HX2 := Lib.hid hx2
           have HZ2 := Lib.hid hk2.size
           obtain ⟨⟨d0, d1, d2, d3, d4, d5⟩, f0, f1, f2, f3, f4, f5⟩ := bx6 HS2.out.e
           have hz2 := lt_heap HS2.out.e
           clear h2 hk2 hx2 hy c10)
        | (fail))
      have hs3 := HS2.out.setXo hn (.cells #[.int .u8 (k1 : Int), .string (strOf s1), .int .i64 n1, .slice A1 m1 c1] 46) (Sg.one HX2.out HK1.out.size HL1.out.2 HL1.out.1 HZ2.out)
      have hc3 := Cx.one HS0.out HH2.out HK2.out hg3 2 (.slice (some ⟨w2.heap.size, 0, none⟩) 1 1)
      have hc3a := hc3.1.alloc (.cells #[.int .u8 (k1 : Int), .string (strOf s1), .int .i64 n1, .slice A1 m1 c1] 46)
      have hc3b := hc3.2.alloc (.cells #[.int .u8 (k1 : Int), .string (strOf s1), .int .i64 n1, .slice A1 m1 c1] 46)
      clear hc3 d0 d1 d2 d3 d4 d5 f0 f1 f2 f3 f4 f5
      obtain ⟨W3, hW3⟩ : ∃ W, (w2.setCell ⟨g3, 2, none⟩ (.slice (some ⟨w2.heap.size, 0, none⟩) 1 1)).alloc (.cells #[.int .u8 (k1 : Int), .string (strOf s1), .int .i64 n1, .slice A1 m1 c1] 46) = W := ⟨_, rfl⟩
      rw [hW3] at hs3 hc3a hc3b ⊢
      have HS3 := Lib.hid hs3
      have HC3 := Lib.hid hc3a
      have HK3 := Lib.hid hc3b
      clear hs3 hc3a hc3b hW3 HS2 HH2 HK2 HX2 HH1 HK1 HXX HM HZ2 HL1 HS1 hz2 hz1 hlt1 hl3 hl0 HST HK0 hq
      go_upto_region 4 with (first
        | (go_at_call 130
           refine (HM2.out _ HC3.out).mono ?_
           rintro e w4 ⟨rfl, h4, hk4⟩
           have HH4 := Lib.hid h4
           have HK4 := Lib.hid (HK3.out.trans hk4)
           have HS4 := Lib.hid (HS3.out.kp hk4 HqS.out hq0 hq3)
           have HL4 := Lib.hid (show g3 < w4.heap.size ∧ g0 < w4.heap.size from ⟨lt_heap HS4.out.e, lt_heap HS4.out.z⟩)
           clear h4 hk4)
        | (go_at_call 129
           refine (HBB.out _ HH4.out).mono ?_
           rintro e w5 ⟨v5, rfl, hx5, h5, hk5⟩
           obtain ⟨A5, n5, c5, rfl⟩ := hx5.row_form
           have HH5 := Lib.hid h5
           have HK5 := Lib.hid (HK4.out.trans hk5)
           have HS5 := Lib.hid (HS4.out.kp hk5 HqS.out hq0 hq3)
           have HX5 := Lib.hid hx5
           obtain ⟨⟨d0, d1, d2, d3, d4, d5⟩, f0, f1, f2, f3, f4, f5⟩ := bx6 HS5.out.e
           have hz5 := lt_heap HS5.out.e
           clear h5 hk5 hx5)
        | (fail))
      have hs6 := HS5.out.setB hn (b' := bd) (Sg.of HX5.out HK4.out.size HL4.out.2 HL4.out.1)
      have hc6 := Cx.one HS0.out HH5.out HK5.out hg3 3 (.slice A5 n5 c5)
      clear d0 d1 d2 d3 d4 d5 f0 f1 f2 f3 f4 f5
      obtain ⟨W6, hW6⟩ : ∃ W, w5.setCell ⟨g3, 3, none⟩ (.slice A5 n5 c5) = W := ⟨_, rfl⟩
      rw [hW6] at hs6 hc6 ⊢
      have HS6 := Lib.hid hs6
      have HC6 := Lib.hid hc6.1
      have HK6 := Lib.hid hc6.2
      clear hs6 hc6 hW6 HS5 HH5 HK5 HX5 HC3 HK3 HS3 HH4 HK4 HS4 HL4 HBB HM2 hz5
      obtain ⟨⟨d0, -⟩, -⟩ := bx6 HS6.out.e
      have hz6 := lt_heap HS6.out.e
      have hR := HR.out
      rcases hk with rfl | rfl
      · rw [if_pos rfl] at hR
        have HE := Lib.hid (HKE.out p4 W6 HC6.out)
        have hge := one_g T 4 [[101, 108, 115, 101]] p4
        obtain ⟨s7, p7, hP7⟩ : ∃ s7 p7, p4.one T 4 [[101, 108, 115, 101]] = (s7, p7) := ⟨_, _, rfl⟩
        rw [hP7] at hR HE hge
        dsimp only at hR HE hge
        have he7 : (strOf s7).toList.isEmpty = decide (s7 = []) := one_empty _
        by_cases h7 : s7 = []
        · rw [if_neg (fun hh => hh h7)] at hR
          rw [decide_eq_true h7] at he7
          cases hR
          clear h7 HR HKE HB2 hP7 hge
          go_wp2_with (first
            | (go_at_call 87
               refine HE.out.mono ?_
               rintro e w7 ⟨rfl, h7, hk7⟩
               have HC7 := Lib.hid h7
               have HK7 := Lib.hid (HK6.out.trans hk7)
               have HS7 := Lib.hid (HS6.out.kp hk7 HqS.out hq0 hq3)
               clear h7 hk7)
            | (fail))
          go_end0
          exact ⟨rfl, _, _, _, _, _, _, rfl, HS7.out, HC7.out, HK7.out⟩
        · rw [if_pos h7] at hR
          rw [decide_eq_false h7] at he7
          cases hb8 : body p7 with
          | none => rw [hb8] at hR; cases hR
          | some y8 =>
            obtain ⟨bc, p8⟩ := y8
            rw [hb8] at hR
            cases hR
            have HB8 := Lib.hid (fun w' (h' : Cx w0 T R q w' p7) => HB2.out w' p7 _ h' (by rw [hge, HGG.out]) hb8)
            clear h7 HR HKE HB2 hP7 hge hb8
            go_wp2_with (first
              | (go_at_call 87
                 refine HE.out.mono ?_
                 rintro e w7 ⟨rfl, h7, hk7⟩
                 have HC7 := Lib.hid h7
                 have HK7 := Lib.hid (HK6.out.trans hk7)
                 have HS7 := Lib.hid (HS6.out.kp hk7 HqS.out hq0 hq3)
                 have HL7 := Lib.hid (show g3 < w7.heap.size ∧ g0 < w7.heap.size from ⟨lt_heap HS7.out.e, lt_heap HS7.out.z⟩)
                 clear h7 hk7)
              | (go_at_call 129
                 refine (HB8.out _ HC7.out).mono ?_
                 rintro e w8 ⟨v8, rfl, hx8, h8, hk8⟩
                 obtain ⟨A8, n8, c8, rfl⟩ := hx8.row_form
                 have HC8 := Lib.hid h8
                 have HK8 := Lib.hid (HK7.out.trans hk8)
                 have HS8 := Lib.hid (HS7.out.kp hk8 HqS.out hq0 hq3)
                 have HX8 := Lib.hid hx8
                 obtain ⟨⟨e0, e1, e2, e3, e4, e5⟩, f0, f1, f2, f3, f4, f5⟩ := bx6 HS8.out.e
                 have hz8 := lt_heap HS8.out.e
                 clear h8 hk8 hx8)
              | (fail))
            go_end0
            have hs9 := HS8.out.setC hn (c' := bc) (Sg.of HX8.out HK7.out.size HL7.out.2 HL7.out.1)
            have hc9 := Cx.one HS0.out HC8.out HK8.out hg3 4 (.slice A8 n8 c8)
            exact ⟨rfl, _, _, _, _, _, _, rfl, hs9, hc9.1, hc9.2⟩
      · rw [if_neg (by decide)] at hR
        cases hR
        clear HR HKE HB2
        go_wp2_with fail
        go_end0
        exact ⟨rfl, _, _, _, _, _, _, rfl, HS6.out, HC6.out, HK6.out⟩
end
end Go.Proofs.YtpakjjefbholdaaGreatDoor
