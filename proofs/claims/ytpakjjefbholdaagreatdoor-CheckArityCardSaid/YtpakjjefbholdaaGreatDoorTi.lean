/- Package tree: primary, post: the walks. -/
import Derived.Test.YtpakjjefbholdaaGreatDoorTh
namespace Go.Proofs.YtpakjjefbholdaaGreatDoor
open Go.RowKit
set_option linter.unusedVariables false

section
variable {w0 : World} {T : List Nat} {R : Ru} {q : Nat} {or : Rr Ex} {m : Nat}
theorem Rd.row_one {w : World} {S : Nat → Prop} {sz : Nat} {x : Nd} {v : Value} (h : Rd w S (.row sz [x]) v) : ∃ b o c vs, v = .slice (some ⟨b, o, none⟩) 1 c ∧ S b ∧ vs.length = sz ∧ w.rangeAt b o vs ∧ Rd w S x (.agg vs.toArray) := by
  rw [Rd] at h
  obtain ⟨A, c, rfl, -, -, h⟩ := h
  obtain ⟨b, o, vs, rfl, h1, h2, h3, h4⟩ := h.at 0 x rfl
  exact ⟨b, o, c, vs, rfl, h1, h2, by simpa using h3, h4⟩
theorem range4 {w : World} {b o : Nat} {y0 y1 y2 y3 : Value} (h : w.rangeAt b o [y0, y1, y2, y3]) : w.cell? ⟨b, o, none⟩ = some y0 ∧ w.cell? ⟨b, o + 1, none⟩ = some y1 ∧ w.cell? ⟨b, o + 2, none⟩ = some y2 ∧ w.cell? ⟨b, o + 3, none⟩ = some y3 :=
  ⟨by simpa using h 0 _ rfl, h 1 _ rfl, h 2 _ rfl, h 3 _ rfl⟩
theorem Rd.row_len {w : World} {S : Nat → Prop} {sz : Nat} {l : List Nd} {v : Value} (h : Rd w S (.row sz l) v) : ∃ A n c, v = .slice A n c ∧ n = l.length := by
  rw [Rd] at h
  obtain ⟨A, c, rfl, -⟩ := h
  exact ⟨A, _, c, rfl, rfl⟩
set_option maxRecDepth 100000 in
set_option maxHeartbeats 4000000 in
theorem primary_any (ht : TxtOk w0 T) (HX : XC w0 T R q or m) (hG : Gk or) (w : World) (p : Pst) (r : Ex × Pst) (h : Cx w0 T R q w p) (k : Nat) (hk : k ≤ 100000) (hg : p.g + m ≤ mostG) (hr : primaryF T or k p = some r) :
    Calls Tryz.prog 156 #[at0 q] w (OutX w0 T R q w r.1.nd r.2) := by
  obtain ⟨⟨-, c1, c2, c3, c4, c5, c6, -, -, -, c10⟩, -⟩ := box11 h.hp
  unfold lvF at0 at c10
  have H0 := Lib.hid h
  have hq := h.lt
  have hqa : ¬ w.heap.size = q := by omega
  have hqb : ¬ w.heap.size + 1 = q := by omega
  have H2 := Lib.hid ((h.alloc exZ).alloc (.cells #[.int .u8 (p.k : Int), .string (strOf p.s), .int .i64 (p.n : Int), .int .i64 (p.ln : Int), .int .i64 (p.a : Int), .int .i64 (p.e : Int)] 76))
  have HK2 := Lib.hid (((Kp.refl q w).alloc exZ).alloc (.cells #[.int .u8 (p.k : Int), .string (strOf p.s), .int .i64 (p.n : Int), .int .i64 (p.ln : Int), .int .i64 (p.a : Int), .int .i64 (p.e : Int)] 76))
  have HZ2 := Lib.hid (heap_old (heap_new w exZ) (.cells #[.int .u8 (p.k : Int), .string (strOf p.s), .int .i64 (p.n : Int), .int .i64 (p.ln : Int), .int .i64 (p.a : Int), .int .i64 (p.e : Int)] 76))
  have HW2 := Lib.hid (heap_new' (w.alloc exZ) (.cells #[.int .u8 (p.k : Int), .string (strOf p.s), .int .i64 (p.n : Int), .int .i64 (p.ln : Int), .int .i64 (p.a : Int), .int .i64 (p.e : Int)] 76) (w.heap.size + 1) (by simp))
  have HST := Lib.hid (step_any ht H2.out)
  unfold primaryF at hr
  by_cases k1 : p.k = 1
  · rw [if_pos k1] at hr
    have t1 : ((p.k : Int) == 1) = true := by rw [k1]; rfl
    clear k1
    cases hr
    have HOK := Lib.hid h.ok
    clear ht HX hG hg h
    unfold at0 exZ at *
    go_enter Tryz.func156, Tryz.ntmps156
    go_wp2_with (first
      | (go_at_call 85
         refine HST.out.mono ?_
         rintro e w3 ⟨rfl, h3, hk3⟩
         have HC3 := Lib.hid h3
         have HK3 := Lib.hid (HK2.out.trans hk3)
         have HZ3 := Lib.hid (hk3.heap HZ2.out hqa)
         have hz3 := lt_heap HZ3.out
         obtain ⟨⟨d0, d1, d2, d3⟩, f0, f1, f2, f3⟩ := box4f HZ3.out
         obtain ⟨⟨y0, y1, y2, y3, y4, y5⟩, -⟩ := bx6 (hk3.heap HW2.out hqb)
         clear h3 hk3)
      | (fail))
    obtain ⟨⟨e0, e1, e2, e3⟩, -⟩ := box4f (set4 HZ3.out (.int .u8 1) (.string ⟨#[]⟩) (.int .i64 (p.n : Int)) (.slice none 0 0))
    refine bodyPost_ret (v := .agg #[.int .u8 1, .string ⟨#[]⟩, .int .i64 (p.n : Int), .slice none 0 0]) (by simp [results, Tryz.results156, go_sem, e0, e1, e2, e3]) rfl ?_
    exact endX H0.out HC3.out HK3.out (Nat.le_refl _) ((Ex.rd (S := fun _ => False) 1 [] (p.n : Int) [] _).2 ⟨_, rfl, by simp, by simp, Rd.nil _⟩) (fun _ hb => hb.elim)
  · rw [if_neg k1] at hr
    have t1 : ((p.k : Int) == 1) = false := beq_eq_false_iff_ne.2 (by omega)
    clear k1
    by_cases k2 : p.k = 2
    · rw [if_pos k2] at hr
      have t2 : ((p.k : Int) == 2) = true := by rw [k2]; rfl
      clear k2
      cases hr
      have HOK := Lib.hid h.ok
      clear ht HX hG hg h
      unfold at0 exZ at *
      go_enter Tryz.func156, Tryz.ntmps156
      go_wp2_with (first
        | (go_at_call 85
           refine HST.out.mono ?_
           rintro e w3 ⟨rfl, h3, hk3⟩
           have HC3 := Lib.hid h3
           have HK3 := Lib.hid (HK2.out.trans hk3)
           have HZ3 := Lib.hid (hk3.heap HZ2.out hqa)
           have hz3 := lt_heap HZ3.out
           obtain ⟨⟨d0, d1, d2, d3⟩, f0, f1, f2, f3⟩ := box4f HZ3.out
           obtain ⟨⟨y0, y1, y2, y3, y4, y5⟩, -⟩ := bx6 (hk3.heap HW2.out hqb)
           clear h3 hk3)
        | (fail))
      obtain ⟨⟨e0, e1, e2, e3⟩, -⟩ := box4f (set4 HZ3.out (.int .u8 3) (.string (strOf p.s)) (.int .i64 0) (.slice none 0 0))
      refine bodyPost_ret (v := .agg #[.int .u8 3, .string (strOf p.s), .int .i64 0, .slice none 0 0]) (by simp [results, Tryz.results156, go_sem, e0, e1, e2, e3]) rfl ?_
      exact endX H0.out HC3.out HK3.out (Nat.le_refl _) ((Ex.rd (S := fun _ => False) 3 p.s 0 [] _).2 ⟨_, rfl, HOK.out.1, by have := HOK.out.2; omega, Rd.nil _⟩) (fun _ hb => hb.elim)
    · rw [if_neg k2] at hr
      have t2 : ((p.k : Int) == 2) = false := beq_eq_false_iff_ne.2 (by omega)
      clear k2
      by_cases k3 : p.k = 3
      · rw [if_pos k3] at hr
        have t3 : ((p.k : Int) == 3) = true := by rw [k3]; rfl
        clear k3
        cases hr
        have HOK := Lib.hid h.ok
        clear ht HX hG hg h
        unfold at0 exZ at *
        go_enter Tryz.func156, Tryz.ntmps156
        go_wp2_with (first
          | (go_at_call 85
             refine HST.out.mono ?_
             rintro e w3 ⟨rfl, h3, hk3⟩
             have HC3 := Lib.hid h3
             have HK3 := Lib.hid (HK2.out.trans hk3)
             have HZ3 := Lib.hid (hk3.heap HZ2.out hqa)
             have hz3 := lt_heap HZ3.out
             obtain ⟨⟨d0, d1, d2, d3⟩, f0, f1, f2, f3⟩ := box4f HZ3.out
             obtain ⟨⟨y0, y1, y2, y3, y4, y5⟩, -⟩ := bx6 (hk3.heap HW2.out hqb)
             clear h3 hk3)
          | (fail))
        obtain ⟨⟨e0, e1, e2, e3⟩, -⟩ := box4f (set4 HZ3.out (.int .u8 4) (.string (strOf p.s)) (.int .i64 0) (.slice none 0 0))
        refine bodyPost_ret (v := .agg #[.int .u8 4, .string (strOf p.s), .int .i64 0, .slice none 0 0]) (by simp [results, Tryz.results156, go_sem, e0, e1, e2, e3]) rfl ?_
        exact endX H0.out HC3.out HK3.out (Nat.le_refl _) ((Ex.rd (S := fun _ => False) 4 p.s 0 [] _).2 ⟨_, rfl, HOK.out.1, by have := HOK.out.2; omega, Rd.nil _⟩) (fun _ hb => hb.elim)
      · rw [if_neg k3] at hr
        have t3 : ((p.k : Int) == 3) = false := beq_eq_false_iff_ne.2 (by omega)
        clear k3
        by_cases k4 : p.k = 4
        · rw [if_pos k4] at hr
          have t4 : ((p.k : Int) == 4) = true := by rw [k4]; rfl
          clear k4
          have HW := Lib.hid (keyed_any ht HX hG _ p r H2.out k hk hg hr)
          clear ht HX hG hg h hr HST
          obtain ⟨x, p2⟩ := r
          unfold at0 exZ at *
          go_enter Tryz.func156, Tryz.ntmps156
          go_wp2_with (first
            | (go_at_call 185
               refine HW.out.mono ?_
               rintro e w3 ⟨v3, rfl, hx3, h3, hk3⟩
               have HC3 := Lib.hid h3
               have HK3 := Lib.hid (HK2.out.trans hk3)
               have HZ3 := Lib.hid (hk3.heap HZ2.out hqa)
               obtain ⟨k0, s0, n0, l0⟩ := x
               obtain ⟨y, rfl, -, -, hy⟩ := (Ex.rd k0 s0 n0 l0 v3).1 hx3
               obtain ⟨A3, n3, c3', rfl⟩ := hy.row_form
               have HX3 := Lib.hid hx3
               have hz3 := lt_heap HZ3.out
               obtain ⟨⟨d0, d1, d2, d3⟩, f0, f1, f2, f3⟩ := box4f HZ3.out
               clear h3 hk3 hx3 hy)
            | (fail))
          obtain ⟨⟨e0, e1, e2, e3⟩, -⟩ := box4f (set4 HZ3.out (.int .u8 (k0 : Int)) (.string (strOf s0)) (.int .i64 n0) (.slice A3 n3 c3'))
          refine bodyPost_ret (v := .agg #[.int .u8 (k0 : Int), .string (strOf s0), .int .i64 n0, .slice A3 n3 c3']) (by simp [results, Tryz.results156, go_sem, e0, e1, e2, e3]) rfl ?_
          exact endX H0.out HC3.out HK3.out (Nat.le_refl _) HX3.out (fun b hb => ⟨by have := hb.1; simp at this; omega, by have := hb.1; simp at this; omega, hb.2⟩)
        · rw [if_neg k4] at hr
          have t4 : ((p.k : Int) == 4) = false := beq_eq_false_iff_ne.2 (by omega)
          clear k4
          cases hl : listF T or k p with
          | none => rw [hl] at hr; cases hr
          | some y =>
            obtain ⟨l, p2⟩ := y
            rw [hl] at hr
            cases hr
            have HL := Lib.hid (listX_any ht HX hG _ p (l, p2) H2.out k hk hg hl)
            have c10' := (box11 H2.out.hp).1.2.2.2.2.2.2.2.2.2.2
            unfold lvF at0 at c10'
            clear ht HX hG hg h HST hl
            by_cases h1 : l.length = 1
            · obtain ⟨x, rfl⟩ : ∃ x, l = [x] := List.length_eq_one_iff.1 h1
              clear h1
              unfold tupF
              unfold lvF at HL
              unfold at0 exZ at *
              go_enter Tryz.func156, Tryz.ntmps156
              go_wp2_with (first
                | (go_at_call 186
                   refine HL.out.mono ?_
                   rintro e w3 ⟨v3, rfl, hx3, h3, hk3⟩
                   have HC3 := Lib.hid h3
                   have HK3 := Lib.hid (HK2.out.trans hk3)
                   have HZ3 := Lib.hid (hk3.heap HZ2.out hqa)
                   obtain ⟨b, o, cc, vs, rfl, hS, hvl, hrg, hxx⟩ := hx3.row_one
                   obtain ⟨k0, s0, n0, l0⟩ := x
                   obtain ⟨y, hv, -, -, hy⟩ := (Ex.rd k0 s0 n0 l0 _).1 hxx
                   obtain ⟨A3, n3, c3', rfl⟩ := hy.row_form
                   have hv2 : vs = [.int .u8 (k0 : Int), .string (strOf s0), .int .i64 n0, .slice A3 n3 c3'] := by
                     injection hv with hv
                     have := congrArg Array.toList hv
                     simpa using this
                   subst hv2
                   have HX3 := Lib.hid hxx
                   obtain ⟨r0, r1, r2, r3⟩ := range4 hrg
                   have hz3 := lt_heap HZ3.out
                   obtain ⟨⟨d0, d1, d2, d3⟩, f0, f1, f2, f3⟩ := box4f HZ3.out
                   clear h3 hk3 hx3 hy hrg hxx hv hvl hS)
                | (fail))
              obtain ⟨⟨e0, e1, e2, e3⟩, -⟩ := box4f (set4 HZ3.out (.int .u8 (k0 : Int)) (.string (strOf s0)) (.int .i64 n0) (.slice A3 n3 c3'))
              refine bodyPost_ret (v := .agg #[.int .u8 (k0 : Int), .string (strOf s0), .int .i64 n0, .slice A3 n3 c3']) (by simp [results, Tryz.results156, go_sem, e0, e1, e2, e3]) rfl ?_
              exact endX H0.out HC3.out HK3.out (Nat.le_refl _) HX3.out (fun b hb => ⟨by have := hb.1; simp at this; omega, by have := hb.1; simp at this; omega, hb.2⟩)
            · have htu : tupF l = .mk 6 [] 0 l := by
                match l, h1 with
                | [], _ => rfl
                | [x], h1 => simp at h1
                | x :: y :: z, _ => rfl
              rw [htu]
              have h1' := Lib.hid h1
              clear h1 htu
              unfold lvF at HL
              unfold at0 exZ at *
              go_enter Tryz.func156, Tryz.ntmps156
              go_wp2_with (first
                | (go_at_call 186
                   refine HL.out.mono ?_
                   rintro e w3 ⟨v3, rfl, hx3, h3, hk3⟩
                   have HC3 := Lib.hid h3
                   have HK3 := Lib.hid (HK2.out.trans hk3)
                   have HZ3 := Lib.hid (hk3.heap HZ2.out hqa)
                   obtain ⟨A3, n3, c3', rfl, hn⟩ := hx3.row_len
                   have g1 : ((n3 : Int) == 1) = false := beq_eq_false_iff_ne.2 (by rw [List.length_map] at hn; have := h1'.out; omega)
                   have HX3 := Lib.hid hx3
                   have hz3 := lt_heap HZ3.out
                   obtain ⟨⟨d0, d1, d2, d3⟩, f0, f1, f2, f3⟩ := box4f HZ3.out
                   clear h3 hk3 hx3 hn)
                | (fail))
              obtain ⟨⟨e0, e1, e2, e3⟩, -⟩ := box4f (set4 HZ3.out (.int .u8 6) (.string ⟨#[]⟩) (.int .i64 0) (.slice A3 n3 c3'))
              refine bodyPost_ret (v := .agg #[.int .u8 6, .string ⟨#[]⟩, .int .i64 0, .slice A3 n3 c3']) (by simp [results, Tryz.results156, go_sem, e0, e1, e2, e3]) rfl ?_
              exact endX H0.out HC3.out HK3.out (Nat.le_refl _) ((Ex.rd 6 [] 0 l _).2 ⟨_, rfl, by simp, by simp, HX3.out⟩) (fun b hb => ⟨by have := hb.1; simp at this; omega, by have := hb.1; simp at this; omega, hb.2⟩)
end
end Go.Proofs.YtpakjjefbholdaaGreatDoor
