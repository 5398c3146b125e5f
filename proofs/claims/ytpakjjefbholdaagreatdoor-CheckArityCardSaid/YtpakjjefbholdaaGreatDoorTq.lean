/- Package tree: any statement; what has a head; named: the walks. -/
import Derived.Test.YtpakjjefbholdaaGreatDoorTp
namespace Go.Proofs.YtpakjjefbholdaaGreatDoor
open Go.RowKit
set_option linter.unusedVariables false

section
variable {w0 : World} {T : List Nat} {R : Ru} {q : Nat}
theorem XC.mono {or : Rr Ex} {m m' : Nat} (h : XC w0 T R q or m) (hm : m ≤ m') : XC w0 T R q or m' := fun w p r hc hg hr => h w p r hc (by omega) hr
theorem stmt_any (ht : TxtOk w0 T) {or : Rr Ex} {m : Nat} (HX : XC w0 T R q or m) (hG : Gk or) (k : Nat) (hk : k ≤ 100000) : ∀ j : Nat, SC w0 T R q (stmtF T or k j) (m + j)
  | 0 => fun w p r h hg hr => by simp [stmtF] at hr
  | j + 1 => fun w p r h hg hr => by
    rw [stmtF] at hr
    have hs := stmt_any ht HX hG k hk j
    have gs := stmtF_g (T := T) hG k j
    cases hx : stmtK T or (bodyF T (stmtF T or k j) k) k (kindF (p.begin.one T 4 keysS).1) p.ln (p.begin.one T 4 keysS).2 with
    | none => rw [hx] at hr; cases hr
    | some y =>
      rw [hx] at hr
      obtain ⟨x, p'⟩ := y
      cases hr
      exact stmt_step ht (HX.mono (Nat.le_add_right m j)) hG k hk (body_any ht hs gs k hk) (bodyF_g gs k) w p h (by omega) (x, p') hx

/-- A variable that holds something with a head: a name, names, a row, a line. -/
structure HdAt (w X : World) (g0 g3 : Nat) (E : TypeId) (sz : Nat) (s : List Nat) (ps : List (List Nat)) (L : List Nd) (ln : Nat) (yp ys : Value) : Prop where
  e : X.heap[g3]? = some (.cells #[.string (strOf s), yp, ys, .int .i64 (ln : Int)] E (0, 0))
  z : X.heap[g0]? = some (.cells #[.string ⟨#[]⟩, .slice none 0 0, .slice none 0 0, .int .i64 0] E (0, 0))
  rp : Rd X (Sg w X g0 g3) (.row 1 (ps.map nmNd)) yp
  rs : Rd X (Sg w X g0 g3) (.row sz L) ys
  ok : Sok s
section
variable {w X Y : World} {g0 g3 : Nat} {E : TypeId} {sz : Nat} {s : List Nat} {ps : List (List Nat)} {L : List Nd} {ln : Nat} {yp ys : Value}
theorem HdAt.kp (h : HdAt w X g0 g3 E sz s ps L ln yp ys) (hk : Kp q X Y) (hq : q < w.heap.size) (h0 : g0 ≠ q) (h3 : g3 ≠ q) : HdAt w Y g0 g3 E sz s ps L ln yp ys :=
  ⟨hk.heap h.e h3, hk.heap h.z h0, Sg.keep hk hq h.rp, Sg.keep hk hq h.rs, h.ok⟩
theorem HdAt.alloc (h : HdAt w X g0 g3 E sz s ps L ln yp ys) (o : Obj) : HdAt w (X.alloc o) g0 g3 E sz s ps L ln yp ys := ⟨heap_old h.e o, heap_old h.z o, Sg.alloc o h.rp, Sg.alloc o h.rs, h.ok⟩
theorem HdAt.setS (h : HdAt w X g0 g3 E sz s ps L ln yp ys) (hn : g0 ≠ g3) (s' : List Nat) (hs : Sok s') : HdAt w (X.setCell ⟨g3, 0, none⟩ (.string (strOf s'))) g0 g3 E sz s' ps L ln yp ys :=
  ⟨by simpa using heap_set h.e 0 (.string (strOf s')), heap_set_ne h.z hn _ _, Sg.set _ _ h.rp, Sg.set _ _ h.rs, hs⟩
theorem HdAt.setP (h : HdAt w X g0 g3 E sz s ps L ln yp ys) (hn : g0 ≠ g3) {ps' : List (List Nat)} {y : Value} (hx : Rd X (Sg w X g0 g3) (.row 1 (ps'.map nmNd)) y) : HdAt w (X.setCell ⟨g3, 1, none⟩ y) g0 g3 E sz s ps' L ln y ys :=
  ⟨by simpa using heap_set h.e 1 y, heap_set_ne h.z hn _ _, Sg.set _ _ hx, Sg.set _ _ h.rs, h.ok⟩
theorem HdAt.setR (h : HdAt w X g0 g3 E sz s ps L ln yp ys) (hn : g0 ≠ g3) {L' : List Nd} {y : Value} (hx : Rd X (Sg w X g0 g3) (.row sz L') y) : HdAt w (X.setCell ⟨g3, 2, none⟩ y) g0 g3 E sz s ps L' ln yp y :=
  ⟨by simpa using heap_set h.e 2 y, heap_set_ne h.z hn _ _, Sg.set _ _ h.rp, Sg.set _ _ hx, h.ok⟩
theorem HdAt.start {w : World} (E : TypeId) (sz ln : Nat) : HdAt w ((w.alloc (.cells #[.string ⟨#[]⟩, .slice none 0 0, .slice none 0 0, .int .i64 0] E)).alloc (.cells #[.string ⟨#[]⟩, .slice none 0 0, .slice none 0 0, .int .i64 (ln : Int)] E)) w.heap.size (w.heap.size + 1) E sz [] [] [] ln (.slice none 0 0) (.slice none 0 0) :=
  ⟨heap_new' _ _ _ (by simp), heap_old (heap_new _ _) _, Rd.nil _, Rd.nil _, ⟨by simp, by simp⟩⟩
/-- The end: it is stored in the result's variable, and told. -/
theorem endH {p0 p : Pst} (h0 : Cx w0 T R q w p0) (hc : Cx w0 T R q X p) (hk : Kp q w X) (hg : w.heap.size ≤ g0) (h : HdAt w X g0 g3 E sz s ps L ln yp ys) :
    OutX w0 T R q w (.st [.str s, .row 1 (ps.map nmNd), .row sz L, .num .i64 (ln : Int)]) p (.returned (.agg #[.string (strOf s), yp, ys, .int .i64 (ln : Int)])) (P4 X g0 (.string (strOf s)) yp ys (.int .i64 (ln : Int))) :=
  endX h0 hc hk hg ((hd_rd s ps sz L (ln : Int) _).2 ⟨yp, ys, rfl, h.ok.1, by have := h.ok.2; omega, h.rp, h.rs⟩) (fun b hb => ⟨hb.2.1, hb.1⟩)
end
/-- named reads a body by that rule. -/
def NC (w0 : World) (T : List Nat) (R : Ru) (q : Nat) (n m : Nat) : Prop := ∀ w p (r : Bd × Pst) (ln : Nat), Cx w0 T R q w p → p.g + m ≤ mostG → namedF T n ln p = some r → Calls Tryz.prog 88 #[at0 q, .int .i64 (ln : Int)] w (OutX w0 T R q w r.1.nd r.2)
set_option maxRecDepth 100000 in
set_option maxHeartbeats 4000000 in
theorem named_any (ht : TxtOk w0 T) (n : Nat) (hn : n ≤ 100000) : NC w0 T R q n (n * n + n) := by
  intro w p r ln h hg hr
  have HB := Lib.hid (body_any (R := R) (q := q) ht (stmt_any (R := R) (q := q) ht (or_any ht n hn) (orF_g (T := T) n) n hn n) (stmtF_g (T := T) (orF_g (T := T) n) n n) n hn)
  have HN := Lib.hid (name_any' ht ((h.alloc (.cells #[.string ⟨#[]⟩, .slice none 0 0, .slice none 0 0, .int .i64 0] 55)).alloc (.cells #[.string ⟨#[]⟩, .slice none 0 0, .slice none 0 0, .int .i64 (ln : Int)] 55)))
  have hgn := name_g T p
  have HOK := Lib.hid (fun s p' (e : p.name T = (s, p')) => name_sok e h.ok)
  unfold namedF at hr
  obtain ⟨s1, p1, hP1⟩ : ∃ s1 p1, p.name T = (s1, p1) := ⟨_, _, rfl⟩
  have HSO := Lib.hid (HOK.out _ _ hP1)
  rw [hP1] at HN hr hgn
  dsimp only at HN hr hgn
  clear HOK hP1
  cases hl : listF T (nameP T) n p1 with
  | none => rw [hl] at hr; cases hr
  | some y =>
    obtain ⟨l, p2⟩ := y
    rw [hl] at hr
    dsimp only at hr
    have hg2 : p2.g = p1.g := listF_g (one := nameP T) (fun p r hr => by cases hr; exact name_g T p) n _ _ hl
    cases hb : bodyF T (stmtF T (orF T n) n n) n p2 with
    | none => rw [hb] at hr; cases hr
    | some y =>
      obtain ⟨b, p3⟩ := y
      rw [hb] at hr
      cases hr
      have HL := Lib.hid (fun w' (h' : Cx w0 T R q w' p1) => listN_any ht w' p1 (l, p2) h' n hn hl)
      have HBB := Lib.hid (fun w' (h' : Cx w0 T R q w' p2) => HB.out w' p2 (b, p3) h' (by omega) hb)
      have HSt := Lib.hid (HdAt.start (w := w) 55 6 ln)
      have H0 := Lib.hid h
      have hq := h.lt
      have hqa : ¬ w.heap.size = q := by omega
      have hqb : ¬ w.heap.size + 1 = q := by omega
      have hne : w.heap.size ≠ w.heap.size + 1 := by omega
      clear h ht hg HB hgn hl hg2 hb
      unfold at0 at *
      go_enter Tryz.func88, Tryz.ntmps88
      go_upto_region 3 with (first
        | (go_at_call 127
           refine HN.out.mono ?_
           rintro e w2 ⟨rfl, h9, hk9⟩
           have HC2 := Lib.hid h9
           have HK2 := Lib.hid ((((Kp.refl q w).alloc _).alloc _).trans hk9)
           have HS2 := Lib.hid (HSt.out.kp hk9 hq hqa hqb)
           obtain ⟨⟨d0, d1, d2, d3⟩, f0, f1, f2, f3⟩ := box4f HS2.out.e
           have hz2 := lt_heap HS2.out.e
           clear h9 hk9)
        | (fail))
      have hs3 := HS2.out.setS hne s1 HSO.out
      have hc3 := Cx.one H0.out HC2.out HK2.out (g3 := w.heap.size + 1) (by omega) 0 (.string (strOf s1))
      clear d0 d1 d2 d3 f0 f1 f2 f3 hz2
      obtain ⟨W3, hW3⟩ : ∃ W, w2.setCell ⟨w.heap.size + 1, 0, none⟩ (.string (strOf s1)) = W := ⟨_, rfl⟩
      rw [hW3] at hs3 hc3 ⊢
      have HS3 := Lib.hid hs3
      have HC3 := Lib.hid hc3.1
      have HK3 := Lib.hid hc3.2
      have HL3 := Lib.hid (And.intro (lt_heap hs3.e) (lt_heap hs3.z))
      clear hs3 hc3 hW3 HS2 HC2 HK2 HSt HN
      go_upto_region 4 with (first
        | (go_at_call 128
           refine (HL.out _ HC3.out).mono ?_
           rintro e w4 ⟨v4, rfl, hx4, h9, hk9⟩
           obtain ⟨A4, n4, c4, rfl⟩ := hx4.row_form
           have HC4 := Lib.hid h9
           have HK4 := Lib.hid (HK3.out.trans hk9)
           have HS4 := Lib.hid (HS3.out.kp hk9 hq hqa hqb)
           have HX4 := Lib.hid hx4
           obtain ⟨⟨d0, d1, d2, d3⟩, f0, f1, f2, f3⟩ := box4f HS4.out.e
           have hz4 := lt_heap HS4.out.e
           clear h9 hk9 hx4)
        | (fail))
      have hs5 := HS4.out.setP hne (ps' := l) (Sg.of HX4.out HK3.out.size HL3.out.2 HL3.out.1)
      have hc5 := Cx.one H0.out HC4.out HK4.out (g3 := w.heap.size + 1) (by omega) 1 (.slice A4 n4 c4)
      clear d0 d1 d2 d3 f0 f1 f2 f3 hz4
      obtain ⟨W5, hW5⟩ : ∃ W, w4.setCell ⟨w.heap.size + 1, 1, none⟩ (.slice A4 n4 c4) = W := ⟨_, rfl⟩
      rw [hW5] at hs5 hc5 ⊢
      have HS5 := Lib.hid hs5
      have HC5 := Lib.hid hc5.1
      have HK5 := Lib.hid hc5.2
      have HL5 := Lib.hid (And.intro (lt_heap hs5.e) (lt_heap hs5.z))
      clear hs5 hc5 hW5 HS4 HC4 HK4 HS3 HC3 HK3 HL3 HX4 HL
      go_upto_region 5 with (first
        | (go_at_call 129
           refine (HBB.out _ HC5.out).mono ?_
           rintro e w6 ⟨v6, rfl, hx6, h9, hk9⟩
           obtain ⟨A6, n6, c6, rfl⟩ := hx6.row_form
           have HC6 := Lib.hid h9
           have HK6 := Lib.hid (HK5.out.trans hk9)
           have HS6 := Lib.hid (HS5.out.kp hk9 hq hqa hqb)
           have HX6 := Lib.hid hx6
           obtain ⟨⟨d0, d1, d2, d3⟩, f0, f1, f2, f3⟩ := box4f HS6.out.e
           have hz6 := lt_heap HS6.out.e
           clear h9 hk9 hx6)
        | (fail))
      have hs7 := HS6.out.setR hne (L' := b.map Sm.nd) (Sg.of HX6.out HK5.out.size HL5.out.2 HL5.out.1)
      have hc7 := Cx.one H0.out HC6.out HK6.out (g3 := w.heap.size + 1) (by omega) 2 (.slice A6 n6 c6)
      clear d0 d1 d2 d3 f0 f1 f2 f3 hz6
      obtain ⟨W7, hW7⟩ : ∃ W, w6.setCell ⟨w.heap.size + 1, 2, none⟩ (.slice A6 n6 c6) = W := ⟨_, rfl⟩
      rw [hW7] at hs7 hc7 ⊢
      have HS7 := Lib.hid hs7
      have HC7 := Lib.hid hc7.1
      have HK7 := Lib.hid hc7.2
      obtain ⟨⟨d0, d1, d2, d3⟩, -⟩ := box4f hs7.e
      obtain ⟨⟨i0, i1, i2, i3⟩, f0, f1, f2, f3⟩ := box4f hs7.z
      have hz7 := lt_heap hs7.z
      clear hs7 hc7 hW7 HS6 HC6 HK6 HX6
      go_wp2_with fail
      obtain ⟨⟨e0, e1, e2, e3⟩, -⟩ := box4f (set4 HS7.out.z (.string (strOf s1)) (.slice A4 n4 c4) (.slice A6 n6 c6) (.int .i64 (ln : Int)))
      refine bodyPost_ret (v := .agg #[.string (strOf s1), .slice A4 n4 c4, .slice A6 n6 c6, .int .i64 (ln : Int)]) (by simp [results, Tryz.results88, go_sem, e0, e1, e2, e3]) rfl ?_
      exact endH H0.out HC7.out HK7.out (Nat.le_refl _) HS7.out
end
end Go.Proofs.YtpakjjefbholdaaGreatDoor
