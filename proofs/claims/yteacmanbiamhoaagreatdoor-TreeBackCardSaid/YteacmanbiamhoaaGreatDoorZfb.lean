/- droverlaw09.awake: the walk. -/
import Derived.Test.YteacmanbiamhoaaGreatDoorZac
import Derived.Test.YteacmanbiamhoaaGreatDoorTuv
import Derived.Test.YteacmanbiamhoaaGreatDoorUeg
import Derived.Test.YteacmanbiamhoaaGreatDoorAs
import Derived.Test.YteacmanbiamhoaaGreatDoorZj
import Derived.Test.YteacmanbiamhoaaGreatDoorDoor09
import Derived.Test.YteacmanbiamhoaaGreatDoorYpt
namespace Go.Proofs.YteacmanbiamhoaaGreatDoor
open Go.RowKit
set_option linter.unusedVariables false

theorem row_head {w : World} {S : Nat → Prop} {sz : Nat} {x : Nd} {r : List Nd} {v : Value} (h : Rd w S (.row sz (x :: r)) v) : ∃ b o c vs, v = .slice (some ⟨b, o, none⟩) (r.length + 1) c ∧ S b ∧ r.length + 1 ≤ c ∧ vs.length = sz ∧ w.rangeAt b o vs ∧ Rd w S x (.agg vs.toArray) := by
  rw [Rd] at h
  obtain ⟨A, c, rfl, h1, h2, h3⟩ := h
  obtain ⟨b, o, vs, rfl, h4, h5, h6, h7⟩ := h3.at 0 x rfl
  refine ⟨b, o, c, vs, rfl, h4, h1, h5, ?_, h7⟩
  simpa using h6
theorem exG_rd {w : World} {S : Nat → Prop} {nm : List Nat} {ps : List (List Nat)} {k0 : Nat} {s0 : List Nat} {bb cc : List Sm} {l0 l9 : Int} {rl : List Rl} {x : Ex} {v : Value} (h : Rd w S (Pg.nd ⟨[⟨nm, ps, [.mk k0 s0 [x] bb cc l0], l9⟩], rl⟩) v) : ∃ b1 o1 c1 A2 n2 c2 b2 o2 c3 b3 o3 c4 k s n l A5 n5 c5, x = .mk k s n l ∧ v = .agg #[.slice (some ⟨b1, o1, none⟩) 1 c1, .slice A2 n2 c2] ∧ 1 ≤ c1 ∧ 1 ≤ c3 ∧ 1 ≤ c4 ∧ S b1 ∧ S b2 ∧ S b3 ∧
    w.cell? ⟨b1, o1 + 2, none⟩ = some (.slice (some ⟨b2, o2, none⟩) 1 c3) ∧ w.cell? ⟨b2, o2 + 2, none⟩ = some (.slice (some ⟨b3, o3, none⟩) 1 c4) ∧
    (w.cell? ⟨b3, o3, none⟩ = some (.int .u8 (k : Int)) ∧ w.cell? ⟨b3, o3 + 1, none⟩ = some (.string (strOf s)) ∧ w.cell? ⟨b3, o3 + 2, none⟩ = some (.int .i64 n) ∧ w.cell? ⟨b3, o3 + 3, none⟩ = some (.slice A5 n5 c5)) ∧
    Rd w S x.nd (.agg #[.int .u8 (k : Int), .string (strOf s), .int .i64 n, .slice A5 n5 c5]) := by
  obtain ⟨y, z, rfl, hy, hz⟩ := (Pg.rd _ _).1 h
  obtain ⟨A2, n2, c2, rfl⟩ := hz.rowf
  obtain ⟨b1, o1, c1, vs1, rfl, hS1, hc1, hl1, hr1, hx1⟩ := row_head hy
  obtain ⟨u1, u2, e1, -, -, -, hu2⟩ := (hd_rd _ _ _ _ _ _).1 hx1
  obtain rfl := bx4v e1
  obtain ⟨b2, o2, c3, vs2, rfl, hS2, hc3, hl2, hr2, hx2⟩ := row_head hu2
  obtain ⟨t2, t3, t4, e2, -, -, ht2, -, -⟩ := (Sm.rd _ _ _ _ _ _ _).1 hx2
  obtain rfl := bx6v e2
  obtain ⟨b3, o3, c4, vs3, rfl, hS3, hc4, hl3, hr3, hx3⟩ := row_head ht2
  obtain ⟨k, s, n, l⟩ := x
  obtain ⟨u, e3, -, -, hu⟩ := (Ex.rd _ _ _ _ _).1 hx3
  obtain ⟨A5, n5, c5, rfl⟩ := hu.rowf
  obtain rfl := bx4v e3
  exact ⟨b1, o1, c1, A2, n2, c2, b2, o2, c3, b3, o3, c4, k, s, n, l, A5, n5, c5, rfl, rfl, hc1, hc3, hc4, hS1, hS2, hS3, hr1 2 _ rfl, hr2 2 _ rfl, ⟨hr3 0 _ rfl, hr3 1 _ rfl, hr3 2 _ rfl, hr3 3 _ rfl⟩, hx3⟩
set_option maxRecDepth 100000

/-- What a program of one role with one body of two statements reads as. -/
theorem roG_rd {w : World} {S : Nat → Prop} {fns : List Bd} {nm nm2 : List Nat} {ps ps2 : List (List Nat)} {s1 s2 : Sm} {l0 l9 : Int} {v : Value} (h : Rd w S (Pg.nd ⟨fns, [⟨nm, ps, [⟨nm2, ps2, [s1, s2], l0⟩], l9⟩]⟩) v) : ∃ A1 n1 c1 b4 o4 c4 b5 o5 c5 A6 c6, v = .agg #[.slice A1 n1 c1, .slice (some ⟨b4, o4, none⟩) 1 c4] ∧ 1 ≤ c4 ∧ 1 ≤ c5 ∧ S b4 ∧ S b5 ∧
    w.cell? ⟨b4, o4 + 2, none⟩ = some (.slice (some ⟨b5, o5, none⟩) 1 c5) ∧ w.cell? ⟨b5, o5 + 2, none⟩ = some (.slice A6 2 c6) := by
  obtain ⟨y, z, rfl, hy, hz⟩ := (Pg.rd _ _).1 h
  obtain ⟨A1, n1, c1, rfl⟩ := hy.rowf
  obtain ⟨b4, o4, c4, vs1, rfl, hS1, hc1, hl1, hr1, hx1⟩ := row_head hz
  obtain ⟨u1, u2, e1, -, -, -, hu2⟩ := (hd_rd _ _ _ _ _ _).1 hx1
  obtain rfl := bx4v e1
  obtain ⟨b5, o5, c5, vs2, rfl, hS2, hc3, hl2, hr2, hx2⟩ := row_head hu2
  obtain ⟨t1, t2, e2, -, -, -, ht2⟩ := (hd_rd _ _ _ _ _ _).1 hx2
  obtain rfl := bx4v e2
  obtain ⟨b6, o6, c6, vs3, rfl, -⟩ := row_head ht2
  exact ⟨A1, n1, c1, b4, o4, c4, b5, o5, c5, _, c6, rfl, hc1, hc3, hS1, hS2, hr1 2 _ rfl, hr2 2 _ rfl⟩
theorem a9d_str : ((strOf a9d).toList == ([102, 117, 110, 99, 32, 102, 40, 97, 41, 32, 123, 10, 9, 114, 101, 116, 117, 114, 110, 32, 97, 32, 43, 32, 40, 49, 32, 42, 32, 50, 41, 59, 10, 125, 10] : List UInt8)) = true := by as_aux_lemma => kernel_rfl
theorem rd_lt {w : World} {S : Nat → Prop} {b : Nat} (h : S b) (hS : ∀ b, S b → b < w.heap.size) : b < w.heap.size := hS b h
set_option maxHeartbeats 8000000 in
theorem awake09_any (w : World) (hw : W9 w) : Calls Tryz.prog 18 #[] w fun e w' => e = .returned (.bool true) ∧ Below w.heap.size w w' := by
  obtain ⟨fa, hpa⟩ := isPg_eq a9a_ok
  obtain ⟨fb, hpb⟩ := isPg_eq a9b_ok
  obtain ⟨gc, hpc⟩ := isEr_eq a9c_ok
  have HPA := Lib.hid (fun (W : World) (hb : Below w.heap.size w W) => parse_any a9a (by decide) (by decide) W (hw.wt.below hb) (right_any _ (hw.wt.below hb)) (fuel a9a) (by decide) g9a 0 fa hpa)
  have HPB := Lib.hid (fun (W : World) (hb : Below w.heap.size w W) => parse_any a9b (by decide) (by decide) W (hw.wt.below hb) (right_any _ (hw.wt.below hb)) (fuel a9b) (by decide) g9b 0 fb hpb)
  have HPC := Lib.hid (fun (W : World) (hb : Below w.heap.size w W) => parse_any a9c (by decide) (by decide) W (hw.wt.below hb) (right_any _ (hw.wt.below hb)) (fuel a9c) (by decide) gc 101 1 hpc)
  have hnb := parse_nb hpa
  have HSH := Lib.hid (fun (W : World) (hb : Below w.heap.size w W) (S : Nat → Prop) (hS : ∀ b, S b → b < W.heap.size) (v : Value) (hv : Rd W S g9a.nd v) => by
    have := showP_any W (hw.wt.below hb) (fun w' hb' => fmt_any (hw.below hb).tab w' hb') g9a (by decide) hnb S hS v hv
    rw [a9d_ok] at this
    exact this)
  unfold OutP at HPA HPB HPC
  have HB0 := Lib.hid (Below.refl w.heap.size w)
  clear hw hpa hpb hpc hnb
  go_enter Tryz.func18, Tryz.ntmps18
  go_wp2_with fail
  refine (HPA.out _ HB0.out).mono ?_
  rintro e w1 ⟨v, rfl, hr1, hb1⟩
  obtain ⟨b1, o1, c1, A2, n2, c2, b2, o2, c3, b3, o3, c4, k, s, n, l, A5, n5, c5, he, rfl, hc1, hc3, hc4, hS1, hS2, hS3, g1, g2, ⟨g3, g4, g5, g6⟩, hrx⟩ := exG_rd (x := .mk 7 [43] 0 [.mk 4 [97] 0 [], .mk 7 [42] 0 [.mk 1 [] 1 [], .mk 1 [] 2 []]]) hr1
  cases he
  have HR1 := Lib.hid hr1
  have HB1 := Lib.hid hb1
  have l1 := hS1.2
  have l2 := hS2.2
  have l3 := hS3.2
  clear hr1 hb1 hrx hS1 hS2 hS3 g3 g5 g6
  obtain ⟨V1, hV1⟩ : ∃ V, Hid ((w1.alloc (.cells #[.slice (some ⟨b1, o1, none⟩) 1 c1, .slice A2 n2 c2] 26)).alloc (.cells #[.int .i64 0, .int .i64 (fa : Int)] 29) = V) := ⟨_, Lib.hid rfl⟩
  have HBV1 : Hid (Below w1.heap.size w1 V1) := Lib.hid (by rw [← hV1.out]; exact two w1 _ _)
  have QA1 : Hid (V1.heap[w1.heap.size]? = some (.cells #[.slice (some ⟨b1, o1, none⟩) 1 c1, .slice A2 n2 c2] 26 (0, 0))) := Lib.hid (by rw [← hV1.out]; exact heap_old (heap_new w1 _) _)
  have QE1 : Hid (V1.heap[w1.heap.size + 1]? = some (.cells #[.int .i64 0, .int .i64 (fa : Int)] 29 (0, 0))) := Lib.hid (by rw [← hV1.out]; exact heap_new' (w1.alloc _) _ _ (by simp))
  go_wp2_with fail
  rw [hV1.out]
  refine (HPB.out _ (HB1.out.trans (HBV1.out.mono HB1.out.size))).mono ?_
  rintro e w2 ⟨v, rfl, hr2, hb2⟩
  obtain ⟨A1, n1, d1, b4, o4, c7, b5, o5, c8, A6, c9, rfl, hd1, hd2, hS4, hS5, g7, g8⟩ := roG_rd hr2
  have HB2 := Lib.hid hb2
  have l4 := hS4.2
  have l5 := hS5.2
  clear hr2 hb2 hS4 hS5
  obtain ⟨V2, hV2⟩ : ∃ V, Hid ((w2.alloc (.cells #[.slice A1 n1 d1, .slice (some ⟨b4, o4, none⟩) 1 c7] 26)).alloc (.cells #[.int .i64 0, .int .i64 (fb : Int)] 29) = V) := ⟨_, Lib.hid rfl⟩
  have HBV2 : Hid (Below w2.heap.size w2 V2) := Lib.hid (by rw [← hV2.out]; exact two w2 _ _)
  have QB2 : Hid (V2.heap[w2.heap.size]? = some (.cells #[.slice A1 n1 d1, .slice (some ⟨b4, o4, none⟩) 1 c7] 26 (0, 0))) := Lib.hid (by rw [← hV2.out]; exact heap_old (heap_new w2 _) _)
  have QF2 : Hid (V2.heap[w2.heap.size + 1]? = some (.cells #[.int .i64 0, .int .i64 (fb : Int)] 29 (0, 0))) := Lib.hid (by rw [← hV2.out]; exact heap_new' (w2.alloc _) _ _ (by simp))
  go_wp2_with fail
  rw [hV2.out]
  have K1 : Hid (Below w.heap.size w V1) := Lib.hid (HB1.out.trans (HBV1.out.mono HB1.out.size))
  have J2 : Hid (Below V1.heap.size V1 V2) := Lib.hid (HB2.out.trans (HBV2.out.mono HB2.out.size))
  have K2 : Hid (Below w.heap.size w V2) := Lib.hid (K1.out.trans (J2.out.mono K1.out.size))
  refine (HPC.out _ K2.out).mono ?_
  rintro e w3 ⟨v, rfl, hr3, hb3⟩
  obtain ⟨y, z, rfl, hy, hz⟩ := (Pg.rd _ _).1 hr3
  obtain ⟨A7, n7, c10, rfl⟩ := hy.rowf
  obtain ⟨A8, n8, c11, rfl⟩ := hz.rowf
  have HB3 := Lib.hid hb3
  clear hr3 hb3 hy hz
  obtain ⟨V3, hV3⟩ : ∃ V, Hid ((w3.alloc (.cells #[.slice A7 n7 c10, .slice A8 n8 c11] 26)).alloc (.cells #[.int .i64 101, .int .i64 1] 29) = V) := ⟨_, Lib.hid rfl⟩
  have HBV3 : Hid (Below w3.heap.size w3 V3) := Lib.hid (by rw [← hV3.out]; exact two w3 _ _)
  have QG3 : Hid (V3.heap[w3.heap.size + 1]? = some (.cells #[.int .i64 101, .int .i64 1] 29 (0, 0))) := Lib.hid (by rw [← hV3.out]; exact heap_new' (w3.alloc _) _ _ (by simp))
  have J3 : Hid (Below V2.heap.size V2 V3) := Lib.hid (HB3.out.trans (HBV3.out.mono HB3.out.size))
  have K3 : Hid (Below w.heap.size w V3) := Lib.hid (K2.out.trans (J3.out.mono K2.out.size))
  have J13 : Hid (Below V1.heap.size V1 V3) := Lib.hid (J2.out.trans (J3.out.mono J2.out.size))
  have QA3 := Lib.hid (heap_below QA1.out (J2.out.trans (HB3.out.mono J2.out.size)))
  obtain ⟨⟨a0, a1⟩, -⟩ := bx2 QA3.out
  have la3 := lt_heap QA3.out
  have HRA : Hid (Rd V3 (Nw w w1) g9a.nd (.agg #[.slice (some ⟨b1, o1, none⟩) 1 c1, .slice A2 n2 c2])) := Lib.hid (Rd.keep (fun p hp => (J13.out.cell (Nat.lt_of_lt_of_le hp.2 HBV1.out.size)).trans (HBV1.out.cell hp.2)) (fun _ h => h) _ _ HR1.out)
  have hlt : ∀ b, Nw w w1 b → b < V3.heap.size := fun b hb => by
    have h1 := hb.2
    have h2 := HBV1.out.size
    have h3 := J13.out.size
    omega
  have HLT := Lib.hid hlt
  clear hlt
  go_wp2_with fail
  rw [hV3.out]
  refine (HSH.out _ K3.out _ HLT.out _ HRA.out).mono ?_
  rintro e w4 ⟨rfl, hb4, -⟩
  have HB4 := Lib.hid hb4
  have J14 : Hid (Below V1.heap.size V1 w4) := Lib.hid (J13.out.trans (hb4.mono J13.out.size))
  have J24 : Hid (Below V2.heap.size V2 w4) := Lib.hid (J3.out.trans (hb4.mono J3.out.size))
  obtain ⟨⟨x0, x1⟩, -⟩ := bx2 (heap_below QA1.out J14.out)
  obtain ⟨⟨x2, x3⟩, -⟩ := bx2 (heap_below QE1.out J14.out)
  obtain ⟨⟨x4, x5⟩, -⟩ := bx2 (heap_below QB2.out J24.out)
  obtain ⟨⟨x6, x7⟩, -⟩ := bx2 (heap_below QF2.out J24.out)
  obtain ⟨⟨x8, x9⟩, -⟩ := bx2 (heap_below QG3.out hb4)
  have f1 : w4.cell? ⟨b1, o1 + 2, none⟩ = some (.slice (some ⟨b2, o2, none⟩) 1 c3) := (J14.out.cell (p := ⟨b1, o1 + 2, none⟩) (Nat.lt_of_lt_of_le l1 HBV1.out.size)).trans ((HBV1.out.cell (p := ⟨b1, o1 + 2, none⟩) l1).trans g1)
  have f2 : w4.cell? ⟨b2, o2 + 2, none⟩ = some (.slice (some ⟨b3, o3, none⟩) 1 c4) := (J14.out.cell (p := ⟨b2, o2 + 2, none⟩) (Nat.lt_of_lt_of_le l2 HBV1.out.size)).trans ((HBV1.out.cell (p := ⟨b2, o2 + 2, none⟩) l2).trans g2)
  have f3 : w4.cell? ⟨b3, o3 + 1, none⟩ = some (.string (strOf [43])) := (J14.out.cell (p := ⟨b3, o3 + 1, none⟩) (Nat.lt_of_lt_of_le l3 HBV1.out.size)).trans ((HBV1.out.cell (p := ⟨b3, o3 + 1, none⟩) l3).trans g4)
  have f4 : w4.cell? ⟨b4, o4 + 2, none⟩ = some (.slice (some ⟨b5, o5, none⟩) 1 c8) := (J24.out.cell (p := ⟨b4, o4 + 2, none⟩) (Nat.lt_of_lt_of_le l4 HBV2.out.size)).trans ((HBV2.out.cell (p := ⟨b4, o4 + 2, none⟩) l4).trans g7)
  have f5 : w4.cell? ⟨b5, o5 + 2, none⟩ = some (.slice A6 2 c9) := (J24.out.cell (p := ⟨b5, o5 + 2, none⟩) (Nat.lt_of_lt_of_le l5 HBV2.out.size)).trans ((HBV2.out.cell (p := ⟨b5, o5 + 2, none⟩) l5).trans g8)
  have e43 : strOf [43] = ⟨#[43]⟩ := rfl
  rw [e43] at f3
  have es := a9d_str
  clear g1 g2 g4 g7 g8 a0 a1 hb4
  have HB5 : Hid (Below w.heap.size w w4) := Lib.hid (K3.out.trans (HB4.out.mono K3.out.size))
  go_wp2_with fail
  go_ret
  exact ⟨rfl, HB5.out⟩
end Go.Proofs.YteacmanbiamhoaaGreatDoor
