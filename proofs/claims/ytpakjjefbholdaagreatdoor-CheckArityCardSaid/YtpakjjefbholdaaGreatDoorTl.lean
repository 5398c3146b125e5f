/- Package tree: unary, and any expression: the walks. -/
import Derived.Test.YtpakjjefbholdaaGreatDoorTk
namespace Go.Proofs.YtpakjjefbholdaaGreatDoor
open Go.RowKit
set_option linter.unusedVariables false

section
variable {w0 : World} {T : List Nat} {R : Ru} {q : Nat} {or : Rr Ex} {m : Nat}
theorem OutX.more {w X Y : World} {nd : Nd} {p p' : Pst} {e : Ending} (h : OutX w0 T R q w nd p e X) (k : Kp q X Y) (hc : Cx w0 T R q Y p') (hq : q < w.heap.size) : OutX w0 T R q w nd p' e Y := by
  obtain ⟨v, h1, h2, h3, h4⟩ := h
  exact ⟨v, h1, h2.more k hq, hc, h4.trans k⟩
set_option maxRecDepth 100000 in
set_option maxHeartbeats 4000000 in
theorem unary_any (ht : TxtOk w0 T) (HX : XC w0 T R q or m) (hG : Gk or) (k : Nat) (hk : k ≤ 100000) : ∀ j : Nat, RC w0 T R q 84 #[at0 q] (unaryF T or k j) (m + j + 1) := by
  intro j
  induction j with
  | zero =>
    intro w p r h hg hr
    simp [unaryF] at hr
  | succ j ih =>
    intro w p r h hg hr
    rw [unaryF] at hr
    have HB := Lib.hid (begin_any (h.alloc exZ) (by unfold mostG at hg; omega))
    have hgb := begin_g p
    have HSS := Lib.hid (fun w' (h' : Cx w0 T R q w' p.begin) => sign_made ht h' [[45], [33]] #[.string ⟨#[45]⟩, .string ⟨#[33]⟩] 9 2 2 rfl rfl (by decide) (by decide))
    have hgs := one_g T 5 [[45], [33]] p.begin
    have HO := Lib.hid (fun w' (h' : Cx w0 T R q w' p.begin) => (one_sok ht 5 [[45], [33]] h'.ok).1)
    obtain ⟨p1, hp1⟩ : ∃ p1, p.begin = p1 := ⟨_, rfl⟩
    rw [hp1] at HB HSS hr hgb hgs HO
    obtain ⟨s2, p2, hP2⟩ : ∃ s2 p2, p1.one T 5 [[45], [33]] = (s2, p2) := ⟨_, _, rfl⟩
    rw [hP2] at HSS hr hgs HO
    dsimp only at HSS hr hgs HO
    have he2 : (strOf s2).toList.isEmpty = decide (s2 = []) := one_empty _
    have HFD := Lib.hid (fun u w' p' (h' : Cx w0 T R q w' p') (h1 : 1 ≤ p'.g) (h2 : p'.g ≤ mostG) => finD_any u h' h1 h2)
    have H0 := Lib.hid h
    have HZ := Lib.hid (heap_new w exZ)
    have hq := h.lt
    have hqa : ¬ w.heap.size = q := by omega
    clear hp1 hP2
    by_cases h2 : s2 = []
    · rw [if_neg (fun hh => hh h2)] at hr
      rw [decide_eq_true h2] at he2
      cases ho : postF T or k p2 with
      | none => rw [ho] at hr; cases hr
      | some y =>
        obtain ⟨x, p3⟩ := y
        rw [ho] at hr
        cases hr
        have hg3 : p3.g = p2.g := postF_g hG k _ _ ho
        have HP := Lib.hid (fun w' (h' : Cx w0 T R q w' p2) => post_any ht HX hG w' p2 (x, p3) h' k hk (by omega) ho)
        have HG3 : Hid (1 ≤ p3.g ∧ p3.g ≤ mostG) := Lib.hid (by omega)
        clear h ht HX hG ih hg hgb hgs ho hg3 h2
        unfold at0 exZ at *
        go_enter_defers Tryz.func84, Tryz.ntmps84
        go_wp2_with (first
          | (go_at_call 122
             refine HB.out.mono ?_
             rintro e w2 ⟨rfl, h2, hk2⟩
             have HC2 := Lib.hid h2
             have HK2 := Lib.hid (((Kp.refl q w).alloc _).trans hk2)
             have HZ2 := Lib.hid (hk2.heap HZ.out hqa)
             clear h2 hk2)
          | (go_at_call 121
             refine (HSS.out _ HC2.out).mono ?_
             rintro e w3 ⟨rfl, h3, hk3⟩
             have HC3 := Lib.hid h3
             have HK3 := Lib.hid (HK2.out.trans hk3)
             have HZ3 := Lib.hid (hk3.heap HZ2.out hqa)
             have hz3 := Lib.hid (lt_heap HZ3.out)
             clear h3 hk3)
          | (go_at_call 124
             refine (HP.out _ HC3.out).mono ?_
             rintro e w4 ⟨v4, rfl, hx4, h4, hk4⟩
             have HC4 := Lib.hid h4
             have HK4 := Lib.hid (HK3.out.trans hk4)
             have HZ4 := Lib.hid (hk4.heap HZ3.out hqa)
             obtain ⟨k0, s0, n0, l0⟩ := x
             obtain ⟨y, rfl, -, -, hy⟩ := (Ex.rd k0 s0 n0 l0 v4).1 hx4
             obtain ⟨A4, n4, c4, rfl⟩ := hy.row_form
             have HX4 := Lib.hid hx4
             have hz4 := lt_heap HZ4.out
             obtain ⟨⟨d0, d1, d2, d3⟩, f0, f1, f2, f3⟩ := box4f HZ4.out
             clear h4 hk4 hx4 hy)
          | (fail))
        have hcx := H0.out.p4 (z0 := .int .u8 (k0 : Int)) (z1 := .string (strOf s0)) (z2 := .int .i64 n0) (z3 := .slice A4 n4 c4) HC4.out HK4.out (Nat.le_refl _)
        have HEX := Lib.hid (endX (nd := Ex.nd (.mk k0 s0 n0 l0)) H0.out HC4.out HK4.out (Nat.le_refl _) HX4.out (fun b hb => ⟨by have := hb.1; have := hz3.out; omega, Nat.le_trans HK3.out.size hb.1, hb.2⟩))
        have q5 := set4 HZ4.out (.int .u8 (k0 : Int)) (.string (strOf s0)) (.int .i64 n0) (.slice A4 n4 c4)
        refine leaves_cons (f := 123) (args := #[.pointer (some ⟨q, 0, none⟩)]) (by simp) (by simp [go_sem]) ?_
        refine (HFD.out _ _ p3 hcx HG3.out.1 HG3.out.2).mono ?_
        rintro e u' w5 ⟨rfl, rfl, h5, k5⟩
        obtain ⟨⟨e0, e1, e2, e3⟩, -⟩ := box4f (k5.heap q5 hqa)
        refine ⟨.agg #[.int .u8 (k0 : Int), .string (strOf s0), .int .i64 n0, .slice A4 n4 c4], by simp [results, Tryz.results84, go_sem, e0, e1, e2, e3], ?_⟩
        exact HEX.out.more k5 h5 hq
    · rw [if_pos h2] at hr
      rw [decide_eq_false h2] at he2
      cases ho : unaryF T or k j p2 with
      | none => rw [ho] at hr; cases hr
      | some y =>
        obtain ⟨x, p3⟩ := y
        rw [ho] at hr
        cases hr
        have hg3 : p3.g = p2.g := unaryF_g hG k j _ _ ho
        have HP := Lib.hid (fun w' (h' : Cx w0 T R q w' p2) => ih w' p2 (x, p3) h' (by omega) ho)
        have HG3 : Hid (1 ≤ p3.g ∧ p3.g ≤ mostG) := Lib.hid (by omega)
        clear h ht HX hG ih hg hgb hgs ho hg3 h2
        unfold at0 exZ at *
        go_enter_defers Tryz.func84, Tryz.ntmps84
        go_wp2_with (first
          | (go_at_call 122
             refine HB.out.mono ?_
             rintro e w2 ⟨rfl, h2, hk2⟩
             have HC2 := Lib.hid h2
             have HK2 := Lib.hid (((Kp.refl q w).alloc _).trans hk2)
             have HZ2 := Lib.hid (hk2.heap HZ.out hqa)
             clear h2 hk2)
          | (go_at_call 121
             refine (HSS.out _ HC2.out).mono ?_
             rintro e w3 ⟨rfl, h3, hk3⟩
             have HC3 := Lib.hid h3
             have HK3 := Lib.hid (HK2.out.trans hk3)
             have HZ3 := Lib.hid (hk3.heap HZ2.out hqa)
             have hz3 := Lib.hid (lt_heap HZ3.out)
             have HSO := Lib.hid (HO.out _ HC2.out)
             clear h3 hk3)
          | (go_at_call 84
             refine (HP.out _ HC3.out).mono ?_
             rintro e w4 ⟨v4, rfl, hx4, h4, hk4⟩
             have HC4 := Lib.hid h4
             have HK4 := Lib.hid (HK3.out.trans hk4)
             have HZ4 := Lib.hid (hk4.heap HZ3.out hqa)
             obtain ⟨k0, s0, n0, l0⟩ := x
             obtain ⟨y, rfl, -, -, hy⟩ := (Ex.rd k0 s0 n0 l0 v4).1 hx4
             obtain ⟨A4, n4, c4, rfl⟩ := hy.row_form
             have HX4 := Lib.hid hx4
             have HS4 := Lib.hid hk4.size
             have hz4 := lt_heap HZ4.out
             obtain ⟨⟨d0, d1, d2, d3⟩, f0, f1, f2, f3⟩ := box4f HZ4.out
             clear h4 hk4 hx4 hy)
          | (fail))
        have HR5 := Lib.hid (RowX.lit w3 w4 46 #[.int .u8 (k0 : Int), .string (strOf s0), .int .i64 n0, .slice A4 n4 c4] (Ex.nd (.mk k0 s0 n0 l0)) 4 rfl HS4.out HX4.out).rd
        have hcx := (H0.out.p4 (z0 := .int .u8 7) (z1 := .string (strOf s2)) (z2 := .int .i64 0) (z3 := .slice (some ⟨w4.heap.size, 0, none⟩) 1 1) HC4.out HK4.out (Nat.le_refl _)).alloc (.cells #[.int .u8 (k0 : Int), .string (strOf s0), .int .i64 n0, .slice A4 n4 c4] 46)
        have HEX := Lib.hid (endXo (nd := Ex.nd (.mk 7 s2 0 [.mk k0 s0 n0 l0])) (z0 := .int .u8 7) (z1 := .string (strOf s2)) (z2 := .int .i64 0) (z3 := .slice (some ⟨w4.heap.size, 0, none⟩) 1 1) (.cells #[.int .u8 (k0 : Int), .string (strOf s0), .int .i64 n0, .slice A4 n4 c4] 46) H0.out HC4.out HK4.out (Nat.le_refl _) hz4 ((Ex.rd 7 s2 0 [.mk k0 s0 n0 l0] _).2 ⟨_, rfl, HSO.out.1, by have := HSO.out.2; omega, HR5.out⟩) (fun b hb => ⟨by have := hb.1; have := hz3.out; omega, Nat.le_trans HK3.out.size hb.1, hb.2⟩))
        have q5 := heap_old (set4 HZ4.out (.int .u8 7) (.string (strOf s2)) (.int .i64 0) (.slice (some ⟨w4.heap.size, 0, none⟩) 1 1)) (.cells #[.int .u8 (k0 : Int), .string (strOf s0), .int .i64 n0, .slice A4 n4 c4] 46)
        refine leaves_cons (f := 123) (args := #[.pointer (some ⟨q, 0, none⟩)]) (by simp) (by simp [go_sem]) ?_
        refine (HFD.out _ _ p3 hcx HG3.out.1 HG3.out.2).mono ?_
        rintro e u' w5 ⟨rfl, rfl, h5, k5⟩
        obtain ⟨⟨e0, e1, e2, e3⟩, -⟩ := box4f (k5.heap q5 hqa)
        refine ⟨.agg #[.int .u8 7, .string (strOf s2), .int .i64 0, .slice (some ⟨w4.heap.size, 0, none⟩) 1 1], by simp [results, Tryz.results84, go_sem, e0, e1, e2, e3], ?_⟩
        exact HEX.out.more k5 h5 hq
/-- Any expression, by any number of nests. -/
theorem or_any (ht : TxtOk w0 T) : ∀ n : Nat, n ≤ 100000 → XC w0 T R q (orF T n) (n * n)
  | 0, _ => fun w p r h hg hr => by simp [orF] at hr
  | n + 1, hn => fun w p r h hg hr => by
    rw [orF] at hr
    have e : n * n + n + 1 ≤ (n + 1) * (n + 1) := by
      rw [Nat.add_mul, Nat.mul_add]
      omega
    have hg' : p.g + (n * n + n + 1) ≤ mostG := by omega
    have g0 := unaryF_g (T := T) (orF_g (T := T) n) n n
    have g1 := twosF_g (T := T) g0 32768 sMul
    have g2 := twosF_g (T := T) g1 32768 sAdd
    have g3 := twosF_g (T := T) g2 1 sCmp
    have g4 := twosF_g (T := T) g3 32768 sAnd
    have u := unary_any ht (or_any ht n (by omega)) (orF_g n) n (by omega) n
    have c1 := twosU_any ht R.mul 32768 (by omega) sMul (by decide) (by decide) (fun w p h => h.hr.mul) u g0
    have c2 := twosL_any ht R.add R.mul 32768 (by omega) sAdd (by decide) (by decide) (fun w p h => h.hr.add) c1 g1
    have c3 := twosL_any ht R.cmp R.add 1 (by omega) sCmp (by decide) (by decide) (fun w p h => h.hr.cmp) c2 g2
    have c4 := twosL_any ht R.and R.cmp 32768 (by omega) sAnd (by decide) (by decide) (fun w p h => h.hr.and) c3 g3
    have c5 := twosL_any ht R.or R.and 32768 (by omega) sOr (by decide) (by decide) (fun w p h => h.hr.or) c4 g4
    exact c5 w p r h hg' hr
end
end Go.Proofs.YtpakjjefbholdaaGreatDoor
