/- droverlaw09.expr: the walk. -/
import Derived.Test.YteacmanbiamhoaaGreatDoorZac
import Derived.Test.YteacmanbiamhoaaGreatDoorZk
import Derived.Test.YteacmanbiamhoaaGreatDoorTuv
import Derived.Test.YteacmanbiamhoaaGreatDoorUeg
import Derived.Test.YteacmanbiamhoaaGreatDoorAs
namespace Go.Proofs.YteacmanbiamhoaaGreatDoor
open Go.RowKit
set_option linter.unusedVariables false

theorem row_head {w : World} {S : Nat → Prop} {sz : Nat} {x : Nd} {r : List Nd} {v : Value} (h : Rd w S (.row sz (x :: r)) v) : ∃ b o c vs, v = .slice (some ⟨b, o, none⟩) (r.length + 1) c ∧ S b ∧ r.length + 1 ≤ c ∧ vs.length = sz ∧ w.rangeAt b o vs ∧ Rd w S x (.agg vs.toArray) := by
  rw [Rd] at h
  obtain ⟨A, c, rfl, h1, h2, h3⟩ := h
  obtain ⟨b, o, vs, rfl, h4, h5, h6, h7⟩ := h3.at 0 x rfl
  refine ⟨b, o, c, vs, rfl, h4, h1, h5, ?_, h7⟩
  simpa using h6
theorem st4 {W : World} {q : Nat} {a0 a1 a2 a3 : Value} {E : TypeId} (h : W.heap[q]? = some (.cells #[a0, a1, a2, a3] E (0, 0))) (v0 v1 v2 v3 : Value) :
    ((((W.setCell ⟨q, 0, none⟩ v0).setCell ⟨q, 1, none⟩ v1).setCell ⟨q, 2, none⟩ v2).setCell ⟨q, 3, none⟩ v3).heap[q]? = some (.cells #[v0, v1, v2, v3] E (0, 0)) := by
  have h1 := heap_set h 0 v0
  have h2 := heap_set h1 1 v1
  have h3 := heap_set h2 2 v2
  have h4 := heap_set h3 3 v3
  simpa using h4
/-- What expr's program reads as. -/
theorem exG_rd {w : World} {S : Nat → Prop} {nm : List Nat} {ps : List (List Nat)} {k0 : Nat} {s0 : List Nat} {bb cc : List Sm} {l0 l9 : Int} {rl : List Rl} {x : Ex} {v : Value} (h : Rd w S (Pg.nd ⟨[⟨nm, ps, [.mk k0 s0 [x] bb cc l0], l9⟩], rl⟩) v) : ∃ b1 o1 c1 A2 n2 c2 b2 o2 c3 b3 o3 c4 k s n l A5 n5 c5, x = .mk k s n l ∧ v = .agg #[.slice (some ⟨b1, o1, none⟩) 1 c1, .slice A2 n2 c2] ∧ 1 ≤ c1 ∧ 1 ≤ c3 ∧ 1 ≤ c4 ∧ S b1 ∧ S b2 ∧ S b3 ∧
    w.cell? ⟨b1, o1 + 2, none⟩ = some (.slice (some ⟨b2, o2, none⟩) 1 c3) ∧ w.cell? ⟨b2, o2 + 2, none⟩ = some (.slice (some ⟨b3, o3, none⟩) 1 c4) ∧
    (w.cell? ⟨b3, o3, none⟩ = some (.int .u8 (k : Int)) ∧ w.cell? ⟨b3, o3 + 1, none⟩ = some (.string (strOf s)) ∧ w.cell? ⟨b3, o3 + 2, none⟩ = some (.int .i64 n) ∧ w.cell? ⟨b3, o3 + 3, none⟩ = some (.slice A5 n5 c5)) ∧
    Rd w S x.nd (.agg #[.int .u8 (k : Int), .string (strOf s), .int .i64 n, .slice A5 n5 c5]) := by
  obtain ⟨y, z, rfl, hy, hz⟩ := (Pg.rd _ _).1 h
  obtain ⟨A2, n2, c2, rfl⟩ := hz.rowf
  obtain ⟨b1, o1, c1, vs1, rfl, hS1, hc1, hl1, hr1, hx1⟩ := row_head hy
  obtain ⟨u1, u2, e1, -, -, -, hu2⟩ := (hd_rd _ _ _ _ _ _).1 hx1
  obtain rfl := bx4v e1
  obtain ⟨b2, o2, c3, vs2, rfl, hS2, hc3, hl2, hr2, hx2⟩ := row_head hu2
  obtain ⟨t2, t3, t4, e2, -, -, ht2, -, -⟩ := (Sm.rd _ _ _ _ _ _ _).1 hx2
  obtain rfl := bx6v e2
  obtain ⟨b3, o3, c4, vs3, rfl, hS3, hc4, hl3, hr3, hx3⟩ := row_head ht2
  obtain ⟨k, s, n, l⟩ := x
  obtain ⟨u, e3, -, -, hu⟩ := (Ex.rd _ _ _ _ _).1 hx3
  obtain ⟨A5, n5, c5, rfl⟩ := hu.rowf
  obtain rfl := bx4v e3
  exact ⟨b1, o1, c1, A2, n2, c2, b2, o2, c3, b3, o3, c4, k, s, n, l, A5, n5, c5, rfl, rfl, hc1, hc3, hc4, hS1, hS2, hS3, hr1 2 _ rfl, hr2 2 _ rfl, ⟨hr3 0 _ rfl, hr3 1 _ rfl, hr3 2 _ rfl, hr3 3 _ rfl⟩, hx3⟩
theorem exTx_add (t : List Nat) (h : t.length ≤ 30000) (S : ByteArray) (hS : S = strOf t) : ∃ S1, (∀ w, (Op.stringOp .add ⟨#[102, 117, 110, 99, 32, 102, 40, 41, 32, 123, 32, 114, 101, 116, 117, 114, 110, 32]⟩ S).run Tryz.prog w = .ok (.string S1) w) ∧ ∀ w, (Op.stringOp .add S1 ⟨#[59, 32, 125]⟩).run Tryz.prog w = .ok (.string (strOf (exTx t))) w := by
  subst hS
  refine ⟨strOf (preE ++ t), fun w => add_strs2 preE t (by have : preE.length = 18 := rfl; omega) w, fun w => ?_⟩
  unfold exTx
  exact add_strs2 (preE ++ t) endE (by rw [List.length_append]; have : preE.length = 18 := rfl; have : endE.length = 3 := rfl; omega) w
set_option maxRecDepth 100000 in
set_option maxHeartbeats 8000000 in
/-- expr, at a text that says an expression. -/
theorem expr_any (t : List Nat) (h8 : ∀ x ∈ exTx t, x < 256) (hl : t.length ≤ 30000) (x : Ex) (hx : saysX t x = true) (S : ByteArray) (hS : S = strOf t) (w : World) (hw : Wt w) :
    Calls Tryz.prog 24 #[.string S] w fun e w' => ∃ v, e = .returned (.tuple #[v, .bool true]) ∧ Rd w' (Nw w w') x.nd v ∧ Below w.heap.size w w' := by
  obtain ⟨S1, s1, s2⟩ := exTx_add t hl S hS
  obtain ⟨fl, hp⟩ := isPg_eq hx
  have hle : (exTx t).length ≤ 30100 := by unfold exTx; simp only [List.length_append]; have : preE.length = 18 := rfl; have : endE.length = 3 := rfl; omega
  have hB0 : Below w.heap.size w (w.alloc (.cells #[.int .u8 0, .string ⟨#[]⟩, .int .i64 0, .slice none 0 0] 46)) := (Below.refl _ _).alloc (Nat.le_refl _) _
  have HB0 := Lib.hid hB0
  have HQ0 := Lib.hid (heap_new w (.cells #[.int .u8 0, .string ⟨#[]⟩, .int .i64 0, .slice none 0 0] 46))
  have HP := Lib.hid (parse_any (exTx t) h8 (by omega) _ (hw.below hB0) (right_any _ (hw.below hB0)) (fuel (exTx t)) (by unfold fuel; omega) (exG x) 0 fl hp)
  unfold OutP at HP
  generalize strOf (exTx t) = Z at *
  clear hB0 h8 hl hp hw hle hx hS
  go_enter Tryz.func24, Tryz.ntmps24
  go_wp2_with (first
    | (go_at_call 16
       refine HP.out.mono ?_
       rintro e w1 ⟨v, rfl, hr, hb1⟩
       obtain ⟨b1, o1, c1, A2, n2, c2, b2, o2, c3, b3, o3, c4, k, s, n, l, A5, n5, c5, rfl, rfl, hc1, hc3, hc4, hS1, hS2, hS3, g1, g2, ⟨g3, g4, g5, g6⟩, hrx⟩ := exG_rd hr
       have HRX := Lib.hid hrx
       have HB1 : Hid (Below w.heap.size w w1) := Lib.hid (HB0.out.trans (hb1.mono HB0.out.size))
       have HQ1 := Lib.hid (heap_below HQ0.out hb1)
       have l1 := hS1.2
       have l2 := hS2.2
       have l3 := hS3.2
       have l4 := lt_heap HQ1.out
       have m1 := hS1.1
       have m2 := hS2.1
       have m3 := hS3.1
       obtain ⟨⟨v0, v1, v2, v3⟩, vf0, vf1, vf2, vf3⟩ := box4f HQ1.out
       clear hr hb1 hrx hS1 hS2 hS3)
    | (fail))
  have HX := Lib.hid (heap_old (heap_old (st4 HQ1.out (.int .u8 (k : Int)) (.string (strOf s)) (.int .i64 n) (.slice A5 n5 c5)) (.cells #[.slice (some ⟨b1, o1, none⟩) 1 c1, .slice A2 n2 c2] 26)) (.cells #[.int .i64 0, .int .i64 (fl : Int)] 29))
  have HK := Lib.hid ((((((Kp.refl w.heap.size w1).set (p := ⟨w.heap.size, 0, none⟩) rfl (.int .u8 (k : Int))).set (p := ⟨w.heap.size, 1, none⟩) rfl (.string (strOf s))).set (p := ⟨w.heap.size, 2, none⟩) rfl (.int .i64 n)).set (p := ⟨w.heap.size, 3, none⟩) rfl (.slice A5 n5 c5)).alloc (.cells #[.slice (some ⟨b1, o1, none⟩) 1 c1, .slice A2 n2 c2] 26) |>.alloc (.cells #[.int .i64 0, .int .i64 (fl : Int)] 29))
  obtain ⟨⟨x0, x1, x2, x3⟩, -⟩ := box4f HX.out
  refine bodyPost_ret (v := .tuple #[.agg #[.int .u8 (k : Int), .string (strOf s), .int .i64 n, .slice A5 n5 c5], .bool true]) (by simp [results, Tryz.results24, go_sem, x0, x1, x2, x3]) rfl ?_
  refine ⟨_, rfl, Rd.keep (w := w1) (fun p hp => HK.out.cellq hp.2 (by have := hp.1; simp at this; omega)) (fun b hb => ⟨by have := hb.1; simp at this; omega, Nat.lt_of_lt_of_le hb.2 HK.out.size⟩) _ _ HRX.out, HB1.out.trans (HK.out.below (Nat.le_refl _) HB1.out.size)⟩
set_option maxRecDepth 100000 in
set_option maxHeartbeats 8000000 in
/-- expr, at a text that is refused. -/
theorem expr_no (t : List Nat) (h8 : ∀ x ∈ exTx t, x < 256) (hl : t.length ≤ 30000) (hx : notX t = true) (S : ByteArray) (hS : S = strOf t) (w : World) (hw : Wt w) :
    Calls Tryz.prog 24 #[.string S] w fun e w' => e = .returned (.tuple #[.agg #[.int .u8 0, .string ⟨#[]⟩, .int .i64 0, .slice none 0 0], .bool false]) ∧ Below w.heap.size w w' := by
  obtain ⟨S1, s1, s2⟩ := exTx_add t hl S hS
  obtain ⟨g, er, fl, hp, her⟩ := notX_eq hx
  have hle : (exTx t).length ≤ 30100 := by unfold exTx; simp only [List.length_append]; have : preE.length = 18 := rfl; have : endE.length = 3 := rfl; omega
  have hB0 : Below w.heap.size w (w.alloc (.cells #[.int .u8 0, .string ⟨#[]⟩, .int .i64 0, .slice none 0 0] 46)) := (Below.refl _ _).alloc (Nat.le_refl _) _
  have HB0 := Lib.hid hB0
  have HQ0 := Lib.hid (heap_new w (.cells #[.int .u8 0, .string ⟨#[]⟩, .int .i64 0, .slice none 0 0] 46))
  have HP := Lib.hid (parse_any (exTx t) h8 (by omega) _ (hw.below hB0) (right_any _ (hw.below hB0)) (fuel (exTx t)) (by unfold fuel; omega) g er fl hp)
  have e1 : ((er : Int) != 0) = true := bne_iff_ne.2 (by omega)
  unfold OutP at HP
  generalize strOf (exTx t) = Z at *
  clear hB0 h8 hl hp hw hle hx hS her
  go_enter Tryz.func24, Tryz.ntmps24
  go_wp2_with (first
    | (go_at_call 16
       refine HP.out.mono ?_
       rintro e w1 ⟨v, rfl, hr, hb1⟩
       obtain ⟨y, z, rfl, hy, hz⟩ := (Pg.rd _ _).1 hr
       obtain ⟨A1, n1, c1, rfl⟩ := hy.rowf
       obtain ⟨A2, n2, c2, rfl⟩ := hz.rowf
       have HB1 : Hid (Below w.heap.size w w1) := Lib.hid (HB0.out.trans (hb1.mono HB0.out.size))
       have HQ1 := Lib.hid (heap_below HQ0.out hb1)
       have l4 := lt_heap HQ1.out
       obtain ⟨⟨v0, v1, v2, v3⟩, vf0, vf1, vf2, vf3⟩ := box4f HQ1.out
       clear hr hb1 hy hz)
    | (fail))
  have HX := Lib.hid (heap_old (heap_old (st4 HQ1.out (.int .u8 0) (.string ⟨#[]⟩) (.int .i64 0) (.slice none 0 0)) (.cells #[.slice A1 n1 c1, .slice A2 n2 c2] 26)) (.cells #[.int .i64 (er : Int), .int .i64 (fl : Int)] 29))
  have HK := Lib.hid ((((((Kp.refl w.heap.size w1).set (p := ⟨w.heap.size, 0, none⟩) rfl (.int .u8 0)).set (p := ⟨w.heap.size, 1, none⟩) rfl (.string ⟨#[]⟩)).set (p := ⟨w.heap.size, 2, none⟩) rfl (.int .i64 0)).set (p := ⟨w.heap.size, 3, none⟩) rfl (.slice none 0 0)).alloc (.cells #[.slice A1 n1 c1, .slice A2 n2 c2] 26) |>.alloc (.cells #[.int .i64 (er : Int), .int .i64 (fl : Int)] 29))
  obtain ⟨⟨x0, x1, x2, x3⟩, -⟩ := box4f HX.out
  refine bodyPost_ret (v := .tuple #[.agg #[.int .u8 0, .string ⟨#[]⟩, .int .i64 0, .slice none 0 0], .bool false]) (by simp [results, Tryz.results24, go_sem, x0, x1, x2, x3]) rfl ?_
  exact ⟨rfl, HB1.out.trans (HK.out.below (Nat.le_refl _) HB1.out.size)⟩
end Go.Proofs.YteacmanbiamhoaaGreatDoor
