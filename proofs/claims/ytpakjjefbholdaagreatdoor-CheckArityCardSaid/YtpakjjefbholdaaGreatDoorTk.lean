/- Package tree: a rule of two, of one: the walks. -/
import Derived.Test.YtpakjjefbholdaaGreatDoorTj
namespace Go.Proofs.YtpakjjefbholdaaGreatDoor
open Go.RowKit
set_option linter.unusedVariables false

section
variable {w0 : World} {T : List Nat} {R : Ru} {q : Nat}
/-- A function that reads an expression by that rule. -/
def RC (w0 : World) (T : List Nat) (R : Ru) (q : Nat) (f : FuncId) (args : Array Value) (B : Rr Ex) (m : Nat) : Prop := ∀ w p (r : Ex × Pst), Cx w0 T R q w p → p.g + m ≤ mostG → B p = some r → Calls Tryz.prog f args w (OutX w0 T R q w r.1.nd r.2)
def lvA (l : Lv) : Array Value := #[at0 l.bb, at0 l.bm, at0 l.bp, at0 l.bs]

set_option maxRecDepth 100000 in
set_option maxHeartbeats 4000000 in
theorem twosL_any (ht : TxtOk w0 T) {B : Rr Ex} {m : Nat} (l l2 : Lv) (most : Nat) (hmost : most ≤ 32768) (sg : List (List Nat)) (h8 : ∀ t ∈ sg, ∀ x ∈ t, x < 256) (hsl : sg.length ≤ 1000) (hl : ∀ w p, Cx w0 T R q w p → LvAt w q l (lvF l2) (most : Int) sg)
    (HB : RC w0 T R q 120 (lvA l2) B m) (hG : Gk B) : RC w0 T R q 120 (lvA l) (twosF T B most sg) m := by
  intro w p r h hg hr
  unfold twosF at hr
  cases hp : B p with
  | none => rw [hp] at hr; cases hr
  | some y =>
    obtain ⟨x, p1⟩ := y
    rw [hp] at hr
    dsimp only at hr
    have HP := Lib.hid (HB _ p (x, p1) (h.alloc exZ) hg hp)
    have HG1 : Hid (p1.g = p.g) := Lib.hid (hG _ _ hp)
    have HXX := Lib.hid (fun w' p' (rr : Ex × Pst) (h' : Cx w0 T R q w' p') (hg' : p'.g = p.g) (ho' : B p' = some rr) => HB w' p' rr h' (by omega) ho')
    have HLV := Lib.hid hl
    have HSS := Lib.hid (fun p' w' (h' : Cx w0 T R q w' p') => sign_any' ht h' sg (some ⟨l.sa, 0, none⟩) sg.length sg.length rfl (Tx.cells (hl w' p' h').a) h8 hsl (fun a e => by cases e; exact lt_heap (hl w' p' h').a))
    have HGG := Lib.hid (fun p' : Pst => one_g T 5 sg p')
    have HOK := Lib.hid (fun p' w' (h' : Cx w0 T R q w' p') => (one_sok ht 5 sg h'.ok).1)
    have HR := Lib.hid hr
    have H0 := Lib.hid h
    have HZ := Lib.hid (heap_new w exZ)
    have hq := h.lt
    have hqa : ¬ w.heap.size = q := by omega
    have b0 := cell_of_one (hl _ _ (h.alloc exZ)).b
    have hbl := lt_heap (hl _ _ h).b
    have b0' := cell_of_one (hl _ _ h).b
    obtain ⟨ns, hns⟩ : ∃ n, Hid (sg.length = n) := ⟨_, Lib.hid rfl⟩
    clear h ht HB hp hr hg hl h8 hsl
    unfold lvF lvA at0 exZ at *
    go_enter Tryz.func120, Tryz.ntmps120
    go_upto_region 2 with (first
      | (go_at_call 120
         refine HP.out.mono ?_
         rintro e w2 ⟨v2, rfl, hx2, h2, hk2⟩
         obtain ⟨k0, s0, n0, l0⟩ := x
         obtain ⟨y, rfl, -, -, hy⟩ := (Ex.rd k0 s0 n0 l0 v2).1 hx2
         obtain ⟨A2, n2, c2, rfl⟩ := hy.row_form
         have HC2 := Lib.hid h2
         have HK2 := Lib.hid (((Kp.refl q w).alloc _).trans hk2)
         have HE2 := Lib.hid (EAt.made (w := w) (b := w.alloc (.cells #[.int .u8 0, .string ⟨#[]⟩, .int .i64 0, .slice none 0 0] 46)) (hk2.heap HZ.out hqa) (by simp) (by simp) hx2)
         have hz2 := lt_heap (hk2.heap HZ.out hqa)
         clear h2 hk2 hx2 hy b0 b0' hbl)
      | (fail))
    have m1 := cell_of_one (HLV.out _ _ (HC2.out.alloc (.cells #[.int .u8 (k0 : Int), .string (strOf s0), .int .i64 n0, .slice A2 n2 c2] 46))).m
    go_upto_region 3 with fail
    clear m1
    go_loopg [10] most (fun g i wr => ∃ (j : Nat) (x : Ex) (pj : Pst) (k0 : Nat) (s0 : List Nat) (n0 : Int) (A : Option Addr) (n c : Nat), i = .int .i64 (j : Int) ∧ j + g = most ∧ Hid (twoF T B sg g x pj = some r) ∧ Hid (pj.g = p.g) ∧ Hid (EAt w wr w.heap.size w2.heap.size x k0 s0 n0 A n c) ∧ Hid (Cx w0 T R q wr pj) ∧ Hid (Kp q w wr))
    case atStart => exact ⟨0, _, p1, k0, s0, n0, A2, n2, c2, rfl, by omega, HR, HG1, HE2, Lib.hid (HC2.out.alloc _), Lib.hid (HK2.out.alloc _)⟩
    case round =>
      obtain ⟨j, x, pj, k0, s0, n0, A, n, c, rfl, hjg, HF, HGJ, HE, HCj, HKj⟩ := hrel
      have hszr : w.heap.size ≤ wr.heap.size := HKj.out.size
      have hqb : ¬ w2.heap.size = q := by have := HK2.out.size; omega
      have hlw : w.heap.size < w2.heap.size := hz2
      have hF := HF.out
      clear HE2 HC2 HF
      cases gk with
      | zero =>
        cases hF
        have hj1 : ¬ j < most := by omega
        have hj2 : ¬ (j : Int) < (most : Int) := by omega
        obtain ⟨⟨d0, d1, d2, d3⟩, -⟩ := box4f HE.out.e
        obtain ⟨⟨i0, i1, i2, i3⟩, f0, f1, f2, f3⟩ := box4f HE.out.z
        have hz5 := lt_heap HE.out.z
        clear HXX HR HSS HGG HOK HLV hjg hj1
        go_wp2_with fail
        obtain ⟨⟨e0, e1, e2, e3⟩, -⟩ := box4f (set4 HE.out.z (.int .u8 (k0 : Int)) (.string (strOf s0)) (.int .i64 n0) (.slice A n c))
        refine bodyPost_ret (v := .agg #[.int .u8 (k0 : Int), .string (strOf s0), .int .i64 n0, .slice A n c]) (by simp [results, Tryz.results120, go_sem, e0, e1, e2, e3]) rfl ?_
        exact endX H0.out HCj.out HKj.out (Nat.le_refl _) HE.out.r (fun b hb => ⟨hb.2.1, hb.1⟩)
      | succ g =>
        rw [twoF] at hF
        have hj1 : j < most := by omega
        have hj2 : (j : Int) < (most : Int) := by omega
        have hjm : (j : Int) ≤ 32768 := by omega
        have HS4 := Lib.hid (HSS.out pj wr HCj.out)
        have HO4 := Lib.hid (HOK.out pj wr HCj.out)
        have hg4 := HGG.out pj
        obtain ⟨s4, p4, hP4⟩ : ∃ s4 p4, pj.one T 5 sg = (s4, p4) := ⟨_, _, rfl⟩
        rw [hP4] at hF HS4 hg4 HO4
        rw [hns.out] at HS4
        dsimp only at hF HS4 hg4 HO4
        have he4 : (strOf s4).toList.isEmpty = decide (s4 = []) := one_empty _
        have hLV := HLV.out _ _ HCj.out
        have b1 := cell_of_one hLV.p
        have b2 := cell_of_one hLV.s
        rw [hns.out] at b2
        unfold at0 at b1
        clear hP4 hLV
        by_cases h4 : s4 = []
        · rw [if_pos h4] at hF
          rw [decide_eq_true h4] at he4
          cases hF
          clear h4 HXX HR hg4 HSS HGG HOK HLV hjg hj1
          go_wp2_with (first
            | (go_at_call 121
               refine HS4.out.mono ?_
               rintro e w5 ⟨rfl, h5, hk5⟩
               have HH5 := Lib.hid h5
               have HK5 := Lib.hid (HKj.out.trans hk5)
               have HE5 := Lib.hid (HE.out.kp hk5 hq hqa hqb)
               obtain ⟨⟨d0, d1, d2, d3⟩, -⟩ := box4f HE5.out.e
               obtain ⟨⟨i0, i1, i2, i3⟩, f0, f1, f2, f3⟩ := box4f HE5.out.z
               have hz5 := lt_heap HE5.out.z
               clear h5 hk5 b1 b2)
            | (fail))
          obtain ⟨⟨e0, e1, e2, e3⟩, -⟩ := box4f (set4 HE5.out.z (.int .u8 (k0 : Int)) (.string (strOf s0)) (.int .i64 n0) (.slice A n c))
          refine bodyPost_ret (v := .agg #[.int .u8 (k0 : Int), .string (strOf s0), .int .i64 n0, .slice A n c]) (by simp [results, Tryz.results120, go_sem, e0, e1, e2, e3]) rfl ?_
          exact endX H0.out HH5.out HK5.out (Nat.le_refl _) HE5.out.r (fun b hb => ⟨hb.2.1, hb.1⟩)
        · rw [if_neg h4] at hF
          rw [decide_eq_false h4] at he4
          cases ho4 : B p4 with
          | none => rw [ho4] at hF; cases hF
          | some y4 =>
            obtain ⟨x4, p5⟩ := y4
            rw [ho4] at hF
            dsimp only at hF
            have HF5 := Lib.hid hF
            have HG5 : Hid (p5.g = p.g) := Lib.hid (by have := hG _ _ ho4; rw [show p5.g = _ from this, hg4, HGJ.out])
            have HX4 := Lib.hid (fun w' (h' : Cx w0 T R q w' p4) => HXX.out w' p4 _ h' (by rw [hg4, HGJ.out]) ho4)
            clear hF h4 HR hg4 ho4 HSS HXX HGG HOK
            go_upto_region 6 with (first
              | (go_at_call 121
                 refine HS4.out.mono ?_
                 rintro e w5 ⟨rfl, h5, hk5⟩
                 have HH5 := Lib.hid h5
                 have HK5 := Lib.hid (HKj.out.trans hk5)
                 have HE5 := Lib.hid (HE.out.kp hk5 hq hqa hqb)
                 clear h5 hk5 b1 b2)
              | (fail))
            obtain ⟨⟨d0, d1, d2, d3⟩, -⟩ := box4f HE5.out.e
            have c10 := cell_of_one (HLV.out _ _ HH5.out).b
            skip
            have hlt5 := HH5.out.lt
            have hz5 := lt_heap HE5.out.e
            have HL5 := Lib.hid (lt_heap HE5.out.z)
            clear HLV
            have hjw : (j : Int) + 1 ≤ 32768 := by omega
            go_region_law (first
              | (go_simp
                 go_at_call 120
                 refine (HX4.out _ HH5.out.drew).mono ?_
                 rintro e w6 ⟨v6, rfl, hx6, h6, hk6⟩
                 have hk6' : Kp q w5 w6 := ((Kp.refl q w5).drew).trans hk6
                 obtain ⟨k1, s1, n1, l1⟩ := x4
                 obtain ⟨y, rfl, -, -, hy⟩ := (Ex.rd k1 s1 n1 l1 v6).1 hx6
                 obtain ⟨A1, m1, c1, rfl⟩ := hy.row_form
                 have HX6 : Hid (Rd w6 (Nw w5 w6) (Ex.nd (.mk k1 s1 n1 l1)) (.agg #[.int .u8 (k1 : Int), .string (strOf s1), .int .i64 n1, .slice A1 m1 c1])) := Lib.hid hx6
                 have HC6 := Lib.hid h6
                 have HE6 := Lib.hid (HE5.out.kp hk6' hq hqa hqb)
                 have HK6 := Lib.hid (HK5.out.trans hk6')
                 obtain ⟨⟨i0, i1, i2, i3⟩, f0, f1, f2, f3⟩ := box4f HE6.out.e
                 have hz6 := lt_heap HE6.out.e
                 clear h6 hk6 hk6' hx6 hy)
              | (fail))
            all_goals
              go_wp2_with fail
              go_roundg g
              case measure => omega
              case rel =>
                exact ⟨j + 1, _, _, 7, s4, 0, some ⟨w6.heap.size, 0, none⟩, 2, 2, by go_num, by omega, HF5, HG5, Lib.hid (EAt.step HE6.out HX6.out (by omega) (by omega) hz5 (by omega) (Nat.le_refl _) 7 s4 HO4.out), Lib.hid ((H0.out.p4 HC6.out HK6.out (by omega)).alloc _), Lib.hid ((HK6.out.p4 (by omega)).alloc _)⟩

set_option maxRecDepth 100000 in
set_option maxHeartbeats 4000000 in
theorem twosU_any (ht : TxtOk w0 T) {B : Rr Ex} {m : Nat} (l : Lv) (most : Nat) (hmost : most ≤ 32768) (sg : List (List Nat)) (h8 : ∀ t ∈ sg, ∀ x ∈ t, x < 256) (hsl : sg.length ≤ 1000) (hl : ∀ w p, Cx w0 T R q w p → LvAt w q l (unF q) (most : Int) sg)
    (HB : RC w0 T R q 84 #[at0 q] B m) (hG : Gk B) : RC w0 T R q 120 (lvA l) (twosF T B most sg) m := by
  intro w p r h hg hr
  unfold twosF at hr
  cases hp : B p with
  | none => rw [hp] at hr; cases hr
  | some y =>
    obtain ⟨x, p1⟩ := y
    rw [hp] at hr
    dsimp only at hr
    have HP := Lib.hid (HB _ p (x, p1) (h.alloc exZ) hg hp)
    have HG1 : Hid (p1.g = p.g) := Lib.hid (hG _ _ hp)
    have HXX := Lib.hid (fun w' p' (rr : Ex × Pst) (h' : Cx w0 T R q w' p') (hg' : p'.g = p.g) (ho' : B p' = some rr) => HB w' p' rr h' (by omega) ho')
    have HLV := Lib.hid hl
    have HSS := Lib.hid (fun p' w' (h' : Cx w0 T R q w' p') => sign_any' ht h' sg (some ⟨l.sa, 0, none⟩) sg.length sg.length rfl (Tx.cells (hl w' p' h').a) h8 hsl (fun a e => by cases e; exact lt_heap (hl w' p' h').a))
    have HGG := Lib.hid (fun p' : Pst => one_g T 5 sg p')
    have HOK := Lib.hid (fun p' w' (h' : Cx w0 T R q w' p') => (one_sok ht 5 sg h'.ok).1)
    have HR := Lib.hid hr
    have H0 := Lib.hid h
    have HZ := Lib.hid (heap_new w exZ)
    have hq := h.lt
    have hqa : ¬ w.heap.size = q := by omega
    have b0 := cell_of_one (hl _ _ (h.alloc exZ)).b
    have hbl := lt_heap (hl _ _ h).b
    have b0' := cell_of_one (hl _ _ h).b
    obtain ⟨ns, hns⟩ : ∃ n, Hid (sg.length = n) := ⟨_, Lib.hid rfl⟩
    clear h ht HB hp hr hg hl h8 hsl
    unfold unF lvA at0 exZ at *
    go_enter Tryz.func120, Tryz.ntmps120
    go_upto_region 2 with (first
      | (go_at_call 84
         refine HP.out.mono ?_
         rintro e w2 ⟨v2, rfl, hx2, h2, hk2⟩
         obtain ⟨k0, s0, n0, l0⟩ := x
         obtain ⟨y, rfl, -, -, hy⟩ := (Ex.rd k0 s0 n0 l0 v2).1 hx2
         obtain ⟨A2, n2, c2, rfl⟩ := hy.row_form
         have HC2 := Lib.hid h2
         have HK2 := Lib.hid (((Kp.refl q w).alloc _).trans hk2)
         have HE2 := Lib.hid (EAt.made (w := w) (b := w.alloc (.cells #[.int .u8 0, .string ⟨#[]⟩, .int .i64 0, .slice none 0 0] 46)) (hk2.heap HZ.out hqa) (by simp) (by simp) hx2)
         have hz2 := lt_heap (hk2.heap HZ.out hqa)
         clear h2 hk2 hx2 hy b0 b0' hbl)
      | (fail))
    have m1 := cell_of_one (HLV.out _ _ (HC2.out.alloc (.cells #[.int .u8 (k0 : Int), .string (strOf s0), .int .i64 n0, .slice A2 n2 c2] 46))).m
    go_upto_region 3 with fail
    clear m1
    go_loopg [10] most (fun g i wr => ∃ (j : Nat) (x : Ex) (pj : Pst) (k0 : Nat) (s0 : List Nat) (n0 : Int) (A : Option Addr) (n c : Nat), i = .int .i64 (j : Int) ∧ j + g = most ∧ Hid (twoF T B sg g x pj = some r) ∧ Hid (pj.g = p.g) ∧ Hid (EAt w wr w.heap.size w2.heap.size x k0 s0 n0 A n c) ∧ Hid (Cx w0 T R q wr pj) ∧ Hid (Kp q w wr))
    case atStart => exact ⟨0, _, p1, k0, s0, n0, A2, n2, c2, rfl, by omega, HR, HG1, HE2, Lib.hid (HC2.out.alloc _), Lib.hid (HK2.out.alloc _)⟩
    case round =>
      obtain ⟨j, x, pj, k0, s0, n0, A, n, c, rfl, hjg, HF, HGJ, HE, HCj, HKj⟩ := hrel
      have hszr : w.heap.size ≤ wr.heap.size := HKj.out.size
      have hqb : ¬ w2.heap.size = q := by have := HK2.out.size; omega
      have hlw : w.heap.size < w2.heap.size := hz2
      have hF := HF.out
      clear HE2 HC2 HF
      cases gk with
      | zero =>
        cases hF
        have hj1 : ¬ j < most := by omega
        have hj2 : ¬ (j : Int) < (most : Int) := by omega
        obtain ⟨⟨d0, d1, d2, d3⟩, -⟩ := box4f HE.out.e
        obtain ⟨⟨i0, i1, i2, i3⟩, f0, f1, f2, f3⟩ := box4f HE.out.z
        have hz5 := lt_heap HE.out.z
        clear HXX HR HSS HGG HOK HLV hjg hj1
        go_wp2_with fail
        obtain ⟨⟨e0, e1, e2, e3⟩, -⟩ := box4f (set4 HE.out.z (.int .u8 (k0 : Int)) (.string (strOf s0)) (.int .i64 n0) (.slice A n c))
        refine bodyPost_ret (v := .agg #[.int .u8 (k0 : Int), .string (strOf s0), .int .i64 n0, .slice A n c]) (by simp [results, Tryz.results120, go_sem, e0, e1, e2, e3]) rfl ?_
        exact endX H0.out HCj.out HKj.out (Nat.le_refl _) HE.out.r (fun b hb => ⟨hb.2.1, hb.1⟩)
      | succ g =>
        rw [twoF] at hF
        have hj1 : j < most := by omega
        have hj2 : (j : Int) < (most : Int) := by omega
        have hjm : (j : Int) ≤ 32768 := by omega
        have HS4 := Lib.hid (HSS.out pj wr HCj.out)
        have HO4 := Lib.hid (HOK.out pj wr HCj.out)
        have hg4 := HGG.out pj
        obtain ⟨s4, p4, hP4⟩ : ∃ s4 p4, pj.one T 5 sg = (s4, p4) := ⟨_, _, rfl⟩
        rw [hP4] at hF HS4 hg4 HO4
        rw [hns.out] at HS4
        dsimp only at hF HS4 hg4 HO4
        have he4 : (strOf s4).toList.isEmpty = decide (s4 = []) := one_empty _
        have hLV := HLV.out _ _ HCj.out
        have b1 := cell_of_one hLV.p
        have b2 := cell_of_one hLV.s
        rw [hns.out] at b2
        unfold at0 at b1
        clear hP4 hLV
        by_cases h4 : s4 = []
        · rw [if_pos h4] at hF
          rw [decide_eq_true h4] at he4
          cases hF
          clear h4 HXX HR hg4 HSS HGG HOK HLV hjg hj1
          go_wp2_with (first
            | (go_at_call 121
               refine HS4.out.mono ?_
               rintro e w5 ⟨rfl, h5, hk5⟩
               have HH5 := Lib.hid h5
               have HK5 := Lib.hid (HKj.out.trans hk5)
               have HE5 := Lib.hid (HE.out.kp hk5 hq hqa hqb)
               obtain ⟨⟨d0, d1, d2, d3⟩, -⟩ := box4f HE5.out.e
               obtain ⟨⟨i0, i1, i2, i3⟩, f0, f1, f2, f3⟩ := box4f HE5.out.z
               have hz5 := lt_heap HE5.out.z
               clear h5 hk5 b1 b2)
            | (fail))
          obtain ⟨⟨e0, e1, e2, e3⟩, -⟩ := box4f (set4 HE5.out.z (.int .u8 (k0 : Int)) (.string (strOf s0)) (.int .i64 n0) (.slice A n c))
          refine bodyPost_ret (v := .agg #[.int .u8 (k0 : Int), .string (strOf s0), .int .i64 n0, .slice A n c]) (by simp [results, Tryz.results120, go_sem, e0, e1, e2, e3]) rfl ?_
          exact endX H0.out HH5.out HK5.out (Nat.le_refl _) HE5.out.r (fun b hb => ⟨hb.2.1, hb.1⟩)
        · rw [if_neg h4] at hF
          rw [decide_eq_false h4] at he4
          cases ho4 : B p4 with
          | none => rw [ho4] at hF; cases hF
          | some y4 =>
            obtain ⟨x4, p5⟩ := y4
            rw [ho4] at hF
            dsimp only at hF
            have HF5 := Lib.hid hF
            have HG5 : Hid (p5.g = p.g) := Lib.hid (by have := hG _ _ ho4; rw [show p5.g = _ from this, hg4, HGJ.out])
            have HX4 := Lib.hid (fun w' (h' : Cx w0 T R q w' p4) => HXX.out w' p4 _ h' (by rw [hg4, HGJ.out]) ho4)
            clear hF h4 HR hg4 ho4 HSS HXX HGG HOK
            go_upto_region 6 with (first
              | (go_at_call 121
                 refine HS4.out.mono ?_
                 rintro e w5 ⟨rfl, h5, hk5⟩
                 have HH5 := Lib.hid h5
                 have HK5 := Lib.hid (HKj.out.trans hk5)
                 have HE5 := Lib.hid (HE.out.kp hk5 hq hqa hqb)
                 clear h5 hk5 b1 b2)
              | (fail))
            obtain ⟨⟨d0, d1, d2, d3⟩, -⟩ := box4f HE5.out.e
            have c10 := cell_of_one (HLV.out _ _ HH5.out).b
            skip
            have hlt5 := HH5.out.lt
            have hz5 := lt_heap HE5.out.e
            have HL5 := Lib.hid (lt_heap HE5.out.z)
            clear HLV
            have hjw : (j : Int) + 1 ≤ 32768 := by omega
            go_region_law (first
              | (go_simp
                 go_at_call 84
                 refine (HX4.out _ HH5.out.drew).mono ?_
                 rintro e w6 ⟨v6, rfl, hx6, h6, hk6⟩
                 have hk6' : Kp q w5 w6 := ((Kp.refl q w5).drew).trans hk6
                 obtain ⟨k1, s1, n1, l1⟩ := x4
                 obtain ⟨y, rfl, -, -, hy⟩ := (Ex.rd k1 s1 n1 l1 v6).1 hx6
                 obtain ⟨A1, m1, c1, rfl⟩ := hy.row_form
                 have HX6 : Hid (Rd w6 (Nw w5 w6) (Ex.nd (.mk k1 s1 n1 l1)) (.agg #[.int .u8 (k1 : Int), .string (strOf s1), .int .i64 n1, .slice A1 m1 c1])) := Lib.hid hx6
                 have HC6 := Lib.hid h6
                 have HE6 := Lib.hid (HE5.out.kp hk6' hq hqa hqb)
                 have HK6 := Lib.hid (HK5.out.trans hk6')
                 obtain ⟨⟨i0, i1, i2, i3⟩, f0, f1, f2, f3⟩ := box4f HE6.out.e
                 have hz6 := lt_heap HE6.out.e
                 clear h6 hk6 hk6' hx6 hy)
              | (fail))
            all_goals
              go_wp2_with fail
              go_roundg g
              case measure => omega
              case rel =>
                exact ⟨j + 1, _, _, 7, s4, 0, some ⟨w6.heap.size, 0, none⟩, 2, 2, by go_num, by omega, HF5, HG5, Lib.hid (EAt.step HE6.out HX6.out (by omega) (by omega) hz5 (by omega) (Nat.le_refl _) 7 s4 HO4.out), Lib.hid ((H0.out.p4 HC6.out HK6.out (by omega)).alloc _), Lib.hid ((HK6.out.p4 (by omega)).alloc _)⟩
end
end Go.Proofs.YtpakjjefbholdaaGreatDoor
