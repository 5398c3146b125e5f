/- Texts Yg, Yh, Yi, Yj, Yk, Yl, Ym, Yn, Yo of this seat in one: see each part. -/
import Derived.Test.YteacmanbiamhoaaGreatDoorYaf
import Derived.Test.YteacmanbiamhoaaGreatDoorWi
namespace Go.Proofs.YteacmanbiamhoaaGreatDoor
open Go.RowKit
set_option linter.unusedVariables false

/-- An expression that is told right. -/
def OkE (x : Ex) : Prop := ∃ d c c', exR d x c = some c'
theorem okEs {d : Nat} : ∀ {l : List Ex} {c c' : Nat}, exsR d l c = some c' → ∀ y ∈ l, OkE y
  | [], c, c', h, y, hy => by cases hy
  | x :: r, c, c', h, y, hy => by
    rw [exsR] at h
    split at h
    · cases h
    · rename_i c1 h1
      rcases List.mem_cons.1 hy with rfl | hy
      · exact ⟨d, c, c1, h1⟩
      · exact okEs h y hy
theorem OkE.kids {k : Nat} {s : List Nat} {n : Int} {l : List Ex} (h : OkE (.mk k s n l)) : rightX k s n l.length = true ∧ ∀ y ∈ l, OkE y := by
  obtain ⟨d, c, c', h⟩ := h
  rw [exR] at h
  split at h
  · cases h
  · split at h
    · cases h
    · rename_i h2
      exact ⟨by simpa using h2, okEs h⟩
/-- expr, at this expression, shows it. -/
def ShE (W0 : World) (q : Nat) (S : Nat → Prop) (x : Ex) : Prop := ∀ (w : World) (s : Sw) (lv : Nat) (v e : Value), ShAt W0.heap.size q w s lv v → Below W0.heap.size W0 w → Rd W0 S (Ex.nd x) e →
  Calls Tryz.prog 227 #[at0 q, e] w (OutS W0.heap.size q w (exS x s) lv)
/-- part, at this expression, shows it. -/
def ShP (W0 : World) (q : Nat) (S : Nat → Prop) (x : Ex) : Prop := ∀ (w : World) (s : Sw) (lv : Nat) (v e : Value), ShAt W0.heap.size q w s lv v → Below W0.heap.size W0 w → Rd W0 S (Ex.nd x) e →
  Calls Tryz.prog 229 #[at0 q, e] w (OutS W0.heap.size q w (partS x s) lv)
/-- One of a row of expressions: its cells. -/
theorem kid_at {W0 w : World} {S : Nat → Prop} {A : Option Addr} {l : List Ex} (hr : Rds W0 S A 4 0 (l.map Ex.nd)) (hS : ∀ b, S b → b < W0.heap.size) (hb : Below W0.heap.size W0 w) (j : Nat) (x : Ex) (hx : l[j]? = some x) :
    ∃ b o k s m A3 n3 c3, A = some ⟨b, o, none⟩ ∧ b < W0.heap.size ∧ (w.cell? ⟨b, o + j * 4, none⟩ = some (.int .u8 k) ∧ w.cell? ⟨b, o + j * 4 + 1, none⟩ = some (.string s) ∧ w.cell? ⟨b, o + j * 4 + 2, none⟩ = some (.int .i64 m) ∧ w.cell? ⟨b, o + j * 4 + 3, none⟩ = some (.slice A3 n3 c3)) ∧ Rd W0 S (Ex.nd x) (.agg #[.int .u8 k, .string s, .int .i64 m, .slice A3 n3 c3]) := by
  obtain ⟨b, o, vs, rfl, hSb, hvl, hrg, hx⟩ := hr.at j (Ex.nd x) (by rw [List.getElem?_map, hx]; rfl)
  obtain ⟨k, s, m, ks⟩ := x
  have hx0 := hx
  obtain ⟨y, hv, h8, hl8, hy⟩ := (Ex.rd k s m ks _).1 hx
  rw [Rd] at hy
  obtain ⟨A3, c3, rfl, -⟩ := hy
  have hv2 : vs = [.int .u8 (k : Int), .string (strOf s), .int .i64 m, .slice A3 (ks.map Ex.nd).length c3] := by
    injection hv with hv
    have := congrArg Array.toList hv
    simpa using this
  subst hv2
  have hc : ∀ i u, [Value.int .u8 (k : Int), .string (strOf s), .int .i64 m, .slice A3 (ks.map Ex.nd).length c3][i]? = some u → w.cell? ⟨b, o + j * 4 + i, none⟩ = some u := fun i u hu => by
    have := hrg i u hu
    rw [Nat.zero_add] at this
    exact (hb.cell (hS b hSb)).trans this
  exact ⟨b, o, _, _, _, _, _, _, rfl, hS b hSb, ⟨hc 0 _ rfl, hc 1 _ rfl, hc 2 _ rfl, hc 3 _ rfl⟩, hx0⟩
/-- put at texts that were just laid in a row, its place by another name. -/
theorem put_at (base q : Nat) (w : World) (s : Sw) (lv : Nat) (v : Value) (h : ShAt base q w s lv v) (ls : List (List Nat)) (cs : Array Value) (hcs : cs.toList = ls.map fun l => Value.string (strOf l)) (h8 : ∀ l ∈ ls, (∀ x ∈ l, x < 256) ∧ l.length ≤ 140737488355328) (hl : ls.length ≤ 1000) (k c i : Nat) (hk : ls.length = k) (hi : i = w.heap.size) :
    Calls Tryz.prog 123 #[at0 q, .slice (some ⟨i, 0, none⟩) k c] (w.alloc (.cells cs 9)) (OutS base q w (putsS s ls) lv) := by
  subst hi
  exact put_made base q w s lv v h ls cs hcs h8 hl k c hk
set_option maxRecDepth 100000 in
set_option maxHeartbeats 4000000 in
/-- list puts expressions in parentheses. -/
theorem list_any (W0 : World) (q : Nat) (S : Nat → Prop) (hS : ∀ b, S b → b < W0.heap.size) (l : List Ex) (hl : ∀ y ∈ l, ShE W0 q S y) (w : World) (s : Sw) (lv : Nat) (v x : Value) (h : ShAt W0.heap.size q w s lv v) (hb : Below W0.heap.size W0 w) (hx : Rd W0 S (.row 4 (l.map Ex.nd)) x) :
    Calls Tryz.prog 230 #[at0 q, x] w (OutS W0.heap.size q w (listS l s) lv) := by
  rw [Rd] at hx
  obtain ⟨A, c, rfl, hc, hcm, hr⟩ := hx
  rw [List.length_map] at hc ⊢
  obtain ⟨B, hB⟩ : ∃ B, W0.heap.size = B := ⟨_, rfl⟩
  have HR := Lib.hid (fun w' (h' : Below W0.heap.size W0 w') j x hx => kid_at hr hS h' j x hx)
  have HL : Hid (∀ y ∈ l, ∀ (w : World) (s : Sw) (lv : Nat) (v e : Value), ShAt B q w s lv v → Below B W0 w → Rd W0 S (Ex.nd y) e → Calls Tryz.prog 227 #[at0 q, e] w (OutS B q w (exS y s) lv)) := Lib.hid (by
    subst hB
    exact hl)
  rw [hB] at h hb HR ⊢
  have hle := h.le
  have H := Lib.hid h
  have HB := Lib.hid hb
  have hqr := h.lt
  obtain ⟨n, hnn⟩ : ∃ n, Hid (l.length = n) := ⟨_, Lib.hid rfl⟩
  rw [hnn.out] at hc ⊢
  obtain ⟨R, hRR⟩ : ∃ R, Hid (exsS 0 l (putS s [40]) = R) := ⟨_, Lib.hid rfl⟩
  unfold listS
  rw [hRR.out]
  have HP0 := Lib.hid (put_made B q w s lv v h [[40]] #[.string ⟨#[40]⟩] rfl (by simp) (by simp) 1 1 rfl)
  have HPM := Lib.hid (fun w' s' v' (h' : ShAt B q w' s' lv v') i (hi : i = w'.heap.size) => put_at B q w' s' lv v' h' [[44, 32]] #[.string ⟨#[44, 32]⟩] rfl (by simp) (by simp) 1 1 i rfl hi)
  have HPE := Lib.hid (fun w' s' v' (h' : ShAt B q w' s' lv v') => put_made B q w' s' lv v' h' [[41]] #[.string ⟨#[41]⟩] rfl (by simp) (by simp) 1 1 rfl)
  unfold maxLen at hcm
  clear h hr hS hl hb hB
  unfold at0 at *
  go_enter Tryz.func230, Tryz.ntmps230
  go_wp2_with (first
    | (go_at_call 123
       refine HP0.out.mono ?_
       rintro e w1 ⟨rfl, ⟨v1, hv1⟩, hk1⟩
       have HS1 := Lib.hid hv1
       have HK1 := Lib.hid hk1
       clear hv1 hk1)
    | (fail))
  go_loopg [11] n (fun g i wr => ∃ (j : Nat) (sj : Sw) (vj : Value), j + g = n ∧ i = .int .i64 (j : Int) ∧ Hid (exsS j (l.drop j) sj = R) ∧ Hid (ShAt B q wr sj lv vj) ∧ Hid (Ks B q w wr))
  case atStart => exact ⟨0, _, _, by omega, rfl, Lib.hid (by rw [List.drop_zero]; exact hRR.out), HS1, HK1⟩
  case round =>
    obtain ⟨j, sj, vj, hj, rfl, HF, HS, HK⟩ := hrel
    cases gk with
    | zero =>
      have h1 : ¬ (j : Int) < (n : Int) := by omega
      have HE : Hid (sj = R) := Lib.hid (by rw [← HF.out, List.drop_eq_nil_of_le (by rw [hnn.out]; omega), exsS])
      clear HF HPM HP0 HR HL
      go_wp2_with (first
        | (go_at_call 123
           refine (HPE.out _ _ _ HS.out).mono ?_
           rintro e w2 ⟨rfl, ⟨v2, hv2⟩, hk2⟩
           have HS2 := Lib.hid hv2
           have HK2 := Lib.hid (HK.out.trans hk2)
           clear hv2 hk2)
        | (fail))
      go_end0
      exact ⟨rfl, ⟨_, by rw [← HE.out]; exact HS2.out⟩, HK2.out⟩
    | succ g =>
      have h1 : (j : Int) < (n : Int) := by omega
      have h2 : j < n := by omega
      have hjl : j < l.length := by rw [hnn.out]; exact h2
      have HBR := Lib.hid (HB.out.trans HK.out.b)
      obtain ⟨b, o, ek, es, em, A3, n3, c3, rfl, hSb, ⟨y0, y1, y2, y3⟩, hx⟩ := HR.out wr HBR.out j l[j] (by simp [hjl])
      have HD := Lib.hid (List.drop_eq_getElem_cons hjl)
      have HX := Lib.hid hx
      have HE := Lib.hid (HL.out l[j] (List.getElem_mem hjl))
      have HF2 : Hid (exsS (j + 1) (l.drop (j + 1)) (exS l[j] (comS j sj)) = R) := Lib.hid (by rw [← HF.out, HD.out, exsS])
      have hqw : q < wr.heap.size := HS.out.lt
      have hqn : ¬ wr.heap.size = q := by omega
      have hbr : b < wr.heap.size := by have := HK.out.b.size; have := HB.out.size; omega
      have HQ := Lib.hid (heap_new wr (.cells #[.int .u8 ek, .string es, .int .i64 em, .slice A3 n3 c3] 46))
      have HS1 := Lib.hid (HS.out.alloc (.cells #[.int .u8 ek, .string es, .int .i64 em, .slice A3 n3 c3] 46))
      have HK1 := Lib.hid (HK.out.alloc (by omega) (.cells #[.int .u8 ek, .string es, .int .i64 em, .slice A3 n3 c3] 46))
      clear HF HD hx HP0 HPE HR HL
      generalize l[j] = t at *
      clear hjl
      by_cases hj0 : 0 < j
      · have t1 : (0 : Int) < (j : Int) := by omega
        have t2 : (j : Int) > 0 := t1
        have HF3 : Hid (exsS (j + 1) (l.drop (j + 1)) (exS t (putsS sj [[44, 32]])) = R) := Lib.hid (by rw [← HF2.out]; unfold comS; rw [if_pos hj0])
        clear HF2
        go_wp2_with (first
          | (go_at_call 123
             refine (HPM.out _ _ _ HS1.out _ (by simp)).mono ?_
             rintro e w2 ⟨rfl, ⟨v2, hv2⟩, hk2⟩
             have HS2 := Lib.hid hv2
             have HK2 := Lib.hid (HK1.out.trans hk2)
             obtain ⟨⟨z0, z1, z2, z3⟩, -⟩ := box4f (hk2.o.heap HQ.out hqn (by decide))
             clear hv2 hk2 HPM)
          | (go_at_call 227
             refine (HE.out _ _ lv _ _ (HS2.out) (HB.out.trans HK2.out.b) HX.out).mono ?_
             rintro e w3 ⟨rfl, ⟨v3, hv3⟩, hk3⟩
             have HS3 := Lib.hid (hv3)
             have HK3 := Lib.hid (HK2.out.trans (hk3))
             clear hv3 hk3)
          | (fail))
        go_roundg g
        case measure => omega
        case rel => exact ⟨j + 1, _, _, by omega, by go_num, HF3, HS3, HK3⟩
      · have t1 : ¬ (0 : Int) < (j : Int) := by omega
        have t2 : ¬ (j : Int) > 0 := t1
        have HF3 : Hid (exsS (j + 1) (l.drop (j + 1)) (exS t sj) = R) := Lib.hid (by rw [← HF2.out]; unfold comS; rw [if_neg hj0])
        obtain ⟨⟨z0, z1, z2, z3⟩, -⟩ := box4f HQ.out
        clear HF2 HPM hj0
        go_wp2_with (first
          | (go_at_call 227
             refine (HE.out _ _ lv _ _ (HS1.out) (HB.out.trans HK1.out.b) HX.out).mono ?_
             rintro e w3 ⟨rfl, ⟨v3, hv3⟩, hk3⟩
             have HS3 := Lib.hid (hv3)
             have HK3 := Lib.hid (HK1.out.trans (hk3))
             clear hv3 hk3)
          | (fail))
        go_roundg g
        case measure => omega
        case rel => exact ⟨j + 1, _, _, by omega, by go_num, HF3, HS3, HK3⟩
end Go.Proofs.YteacmanbiamhoaaGreatDoor
namespace Go.Proofs.YteacmanbiamhoaaGreatDoor
open Go.RowKit
set_option linter.unusedVariables false

/-- One of a row of expressions: its cells, in every world. -/
theorem kid_all {W0 : World} {S : Nat → Prop} {A : Option Addr} {l : List Ex} (hr : Rds W0 S A 4 0 (l.map Ex.nd)) (hS : ∀ b, S b → b < W0.heap.size) (j : Nat) (x : Ex) (hx : l[j]? = some x) :
    ∃ b o k s m A3 n3 c3, A = some ⟨b, o, none⟩ ∧ b < W0.heap.size ∧ (∀ w, Below W0.heap.size W0 w → w.cell? ⟨b, o + j * 4, none⟩ = some (.int .u8 k) ∧ w.cell? ⟨b, o + j * 4 + 1, none⟩ = some (.string s) ∧ w.cell? ⟨b, o + j * 4 + 2, none⟩ = some (.int .i64 m) ∧ w.cell? ⟨b, o + j * 4 + 3, none⟩ = some (.slice A3 n3 c3)) ∧ Rd W0 S (Ex.nd x) (.agg #[.int .u8 k, .string s, .int .i64 m, .slice A3 n3 c3]) := by
  obtain ⟨b, o, k, s, m, A3, n3, c3, e, hb, ⟨y0, y1, y2, y3⟩, hx⟩ := kid_at hr hS (Below.refl _ _) j x hx
  exact ⟨b, o, k, s, m, A3, n3, c3, e, hb, fun w h => ⟨(h.cell hb).trans y0, (h.cell hb).trans y1, (h.cell hb).trans y2, (h.cell hb).trans y3⟩, hx⟩
theorem opS_one (s : List Nat) (x : Ex) (a : Sw) : opS s [x] a = partS x (putsS a [s, [32]]) := by rw [opS]; rfl
theorem opS_two (s : List Nat) (x y : Ex) (a : Sw) : opS s [x, y] a = partS y (putsS (putS (partS x a) [32]) [s, [32]]) := by rw [opS]; rfl
theorem ok2 {l m : List Nat} (h8 : ∀ x ∈ l, x < 256) (hl : l.length ≤ 140737488355328) (k8 : ∀ x ∈ m, x < 256) (kl : m.length ≤ 140737488355328) : ∀ t ∈ [l, m], (∀ x ∈ t, x < 256) ∧ t.length ≤ 140737488355328 := by
  intro t ht
  simp at ht
  rcases ht with rfl | rfl
  · exact ⟨h8, hl⟩
  · exact ⟨k8, kl⟩
set_option maxRecDepth 100000 in
set_option maxHeartbeats 4000000 in
theorem op_one (W0 : World) (q : Nat) (S : Nat → Prop) (hS : ∀ b, S b → b < W0.heap.size) (k : Nat) (m : List Nat) (z : Int) (x1 : Ex) (hx1 : ShP W0 q S x1) (w : World) (s : Sw) (lv : Nat) (v e : Value) (h : ShAt W0.heap.size q w s lv v) (hb : Below W0.heap.size W0 w) (hx : Rd W0 S (Ex.nd (.mk k m z [x1])) e) :
    Calls Tryz.prog 275 #[at0 q, e] w (OutS W0.heap.size q w (opS m [x1] s) lv) := by
  obtain ⟨y, rfl, h8, hl8, hy⟩ := (Ex.rd k m z [x1] _).1 hx
  rw [Rd] at hy
  obtain ⟨A, c, rfl, hc, hcm, hr⟩ := hy
  rw [List.length_map] at hc ⊢
  obtain ⟨b, o, ek, es, em, A3, n3, c3, rfl, hSb, k1, r1⟩ := kid_all hr hS 0 x1 rfl
  simp only [Nat.zero_mul, Nat.add_zero] at k1
  obtain ⟨B, hB⟩ : ∃ B, W0.heap.size = B := ⟨_, rfl⟩
  have HX1 : Hid (∀ (w : World) (s : Sw) (lv : Nat) (v e : Value), ShAt B q w s lv v → Below B W0 w → Rd W0 S (Ex.nd x1) e → Calls Tryz.prog 229 #[at0 q, e] w (OutS B q w (partS x1 s) lv)) := Lib.hid (by
    subst hB
    exact hx1)
  have HR1 := Lib.hid r1
  rw [hB] at h hb k1 ⊢
  have hle := h.le
  have hqr := h.lt
  have hbw : B ≤ w.heap.size := by omega
  have HB := Lib.hid hb
  have HQ := Lib.hid (heap_new w (.cells #[.int .u8 (k : Int), .string (strOf m), .int .i64 z, .slice (some ⟨b, o, none⟩) 1 c] 46))
  have HS0 := Lib.hid (h.alloc (.cells #[.int .u8 (k : Int), .string (strOf m), .int .i64 z, .slice (some ⟨b, o, none⟩) 1 c] 46))
  have HK0 := Lib.hid ((Ks.refl B q w).alloc hbw (.cells #[.int .u8 (k : Int), .string (strOf m), .int .i64 z, .slice (some ⟨b, o, none⟩) 1 c] 46))
  have hqn : ¬ w.heap.size = q := by omega
  have HP1 := Lib.hid (fun w' s' v' (h' : ShAt B q w' s' lv v') i (hi : i = w'.heap.size) => put_at B q w' s' lv v' h' [[32]] #[.string ⟨#[32]⟩] rfl (by simp) (by simp) 1 1 i rfl hi)
  have HP2 := Lib.hid (fun w' s' v' (h' : ShAt B q w' s' lv v') i (hi : i = w'.heap.size) => put_at B q w' s' lv v' h' [m, [32]] #[.string (strOf m), .string ⟨#[32]⟩] rfl (ok2 h8 hl8 (by simp) (by simp)) (by simp) 2 2 i rfl hi)
  rw [opS_one]
  have HK1C := Lib.hid k1
  obtain ⟨⟨z0, z1, z2, z3⟩, -⟩ := box4f HQ.out
  unfold maxLen at hcm
  clear h hr hS hb hB h8 hl8 hx
  unfold at0 at *
  clear k1 r1 hx1
  go_enter Tryz.func275, Tryz.ntmps275
  go_wp2_with (first
    | (go_at_call 123
       refine (HP2.out _ _ _ HS0.out _ (by simp)).mono ?_
       rintro e w2 ⟨rfl, ⟨v2, hv2⟩, hk2⟩
       have HS2 := Lib.hid hv2
       have HK2 := Lib.hid (HK0.out.trans hk2)
       obtain ⟨⟨a0, a1, a2, a3⟩, -⟩ := box4f (hk2.o.heap HQ.out hqn (by decide))
       obtain ⟨c0, c1, c2, c3'⟩ := HK1C.out w2 (HB.out.trans HK2.out.b)
       clear hv2 hk2)
    | (go_at_call 229
       refine (HX1.out _ _ lv _ _ HS2.out (HB.out.trans HK2.out.b) HR1.out).mono ?_
       rintro e w3 ⟨rfl, ⟨v3, hv3⟩, hk3⟩
       have HS3 := Lib.hid hv3
       have HK3 := Lib.hid (HK2.out.trans hk3)
       clear hv3 hk3)
    | (fail))
  go_end0
  exact ⟨rfl, ⟨_, HS3.out⟩, HK3.out⟩
set_option maxRecDepth 100000 in
set_option maxHeartbeats 4000000 in
theorem op_two (W0 : World) (q : Nat) (S : Nat → Prop) (hS : ∀ b, S b → b < W0.heap.size) (k : Nat) (m : List Nat) (z : Int) (x1 x2 : Ex) (hx1 : ShP W0 q S x1) (hx2 : ShP W0 q S x2) (w : World) (s : Sw) (lv : Nat) (v e : Value) (h : ShAt W0.heap.size q w s lv v) (hb : Below W0.heap.size W0 w) (hx : Rd W0 S (Ex.nd (.mk k m z [x1, x2])) e) :
    Calls Tryz.prog 275 #[at0 q, e] w (OutS W0.heap.size q w (opS m [x1, x2] s) lv) := by
  obtain ⟨y, rfl, h8, hl8, hy⟩ := (Ex.rd k m z [x1, x2] _).1 hx
  rw [Rd] at hy
  obtain ⟨A, c, rfl, hc, hcm, hr⟩ := hy
  rw [List.length_map] at hc ⊢
  obtain ⟨b, o, ek, es, em, A3, n3, c3, rfl, hSb, k1, r1⟩ := kid_all hr hS 0 x1 rfl
  obtain ⟨b', o', ek', es', em', A3', n3', c3', hA, hSb', k2, r2⟩ := kid_all hr hS 1 x2 rfl
  obtain ⟨rfl, rfl⟩ : b = b' ∧ o = o' := by cases hA; exact ⟨rfl, rfl⟩
  simp only [Nat.zero_mul, Nat.add_zero] at k1
  simp only [Nat.one_mul, Nat.add_assoc, Nat.reduceAdd] at k2
  obtain ⟨B, hB⟩ : ∃ B, W0.heap.size = B := ⟨_, rfl⟩
  have HX1 : Hid (∀ (w : World) (s : Sw) (lv : Nat) (v e : Value), ShAt B q w s lv v → Below B W0 w → Rd W0 S (Ex.nd x1) e → Calls Tryz.prog 229 #[at0 q, e] w (OutS B q w (partS x1 s) lv)) := Lib.hid (by
    subst hB
    exact hx1)
  have HR1 := Lib.hid r1
  have HX2 : Hid (∀ (w : World) (s : Sw) (lv : Nat) (v e : Value), ShAt B q w s lv v → Below B W0 w → Rd W0 S (Ex.nd x2) e → Calls Tryz.prog 229 #[at0 q, e] w (OutS B q w (partS x2 s) lv)) := Lib.hid (by
    subst hB
    exact hx2)
  have HR2 := Lib.hid r2
  rw [hB] at h hb k1 k2 ⊢
  have hle := h.le
  have hqr := h.lt
  have hbw : B ≤ w.heap.size := by omega
  have HB := Lib.hid hb
  have HQ := Lib.hid (heap_new w (.cells #[.int .u8 (k : Int), .string (strOf m), .int .i64 z, .slice (some ⟨b, o, none⟩) 2 c] 46))
  have HS0 := Lib.hid (h.alloc (.cells #[.int .u8 (k : Int), .string (strOf m), .int .i64 z, .slice (some ⟨b, o, none⟩) 2 c] 46))
  have HK0 := Lib.hid ((Ks.refl B q w).alloc hbw (.cells #[.int .u8 (k : Int), .string (strOf m), .int .i64 z, .slice (some ⟨b, o, none⟩) 2 c] 46))
  have hqn : ¬ w.heap.size = q := by omega
  have HP1 := Lib.hid (fun w' s' v' (h' : ShAt B q w' s' lv v') i (hi : i = w'.heap.size) => put_at B q w' s' lv v' h' [[32]] #[.string ⟨#[32]⟩] rfl (by simp) (by simp) 1 1 i rfl hi)
  have HP2 := Lib.hid (fun w' s' v' (h' : ShAt B q w' s' lv v') i (hi : i = w'.heap.size) => put_at B q w' s' lv v' h' [m, [32]] #[.string (strOf m), .string ⟨#[32]⟩] rfl (ok2 h8 hl8 (by simp) (by simp)) (by simp) 2 2 i rfl hi)
  rw [opS_two]
  have HK1C := Lib.hid k1
  have HK2C := Lib.hid k2
  obtain ⟨⟨z0, z1, z2, z3⟩, -⟩ := box4f HQ.out
  unfold maxLen at hcm
  clear h hr hS hb hB h8 hl8 hx
  unfold at0 at *
  obtain ⟨p0, p1, p2, p3⟩ := HK1C.out _ (HB.out.trans HK0.out.b)
  clear k1 r1 hx1 k2 r2 hx2 hA
  go_enter Tryz.func275, Tryz.ntmps275
  go_wp2_with (first
    | (go_at_call 229
       refine (HX1.out _ _ lv _ _ HS0.out (HB.out.trans HK0.out.b) HR1.out).mono ?_
       rintro e w1 ⟨rfl, ⟨v1, hv1⟩, hk1⟩
       have HS1 := Lib.hid hv1
       have HK1 := Lib.hid (HK0.out.trans hk1)
       have HQ1 := Lib.hid (hk1.o.heap HQ.out hqn (by decide))
       clear hv1 hk1 HX1)
    | (go_at_call 123
       refine (HP1.out _ _ _ HS1.out _ (by simp)).mono ?_
       rintro e w2 ⟨rfl, ⟨v2, hv2⟩, hk2⟩
       have HS2 := Lib.hid hv2
       have HK2 := Lib.hid (HK1.out.trans hk2)
       have HQ2 := Lib.hid (hk2.o.heap HQ1.out hqn (by decide))
       obtain ⟨⟨a0, a1, a2, a3⟩, -⟩ := box4f HQ2.out
       clear hv2 hk2 HP1)
    | (go_at_call 123
       refine (HP2.out _ _ _ HS2.out _ (by simp)).mono ?_
       rintro e w3 ⟨rfl, ⟨v3, hv3⟩, hk3⟩
       have HS3 := Lib.hid hv3
       have HK3 := Lib.hid (HK2.out.trans hk3)
       obtain ⟨⟨d0, d1, d2, d3⟩, -⟩ := box4f (hk3.o.heap HQ2.out hqn (by decide))
       obtain ⟨f0, f1, f2, f3⟩ := HK2C.out w3 (HB.out.trans HK3.out.b)
       clear hv3 hk3)
    | (go_at_call 229
       refine (HX2.out _ _ lv _ _ HS3.out (HB.out.trans HK3.out.b) HR2.out).mono ?_
       rintro e w4 ⟨rfl, ⟨v4, hv4⟩, hk4⟩
       have HS4 := Lib.hid hv4
       have HK4 := Lib.hid (HK3.out.trans hk4)
       clear hv4 hk4)
    | (fail))
  go_end0
  exact ⟨rfl, ⟨_, HS4.out⟩, HK4.out⟩
end Go.Proofs.YteacmanbiamhoaaGreatDoor
namespace Go.Proofs.YteacmanbiamhoaaGreatDoor
open Go.RowKit
set_option linter.unusedVariables false

theorem numT_8 (z : Int) : ∀ x ∈ numT z, x < 256 := by
  intro x hx
  unfold numT at hx
  obtain ⟨y, -, rfl⟩ := List.mem_map.1 hx
  exact UInt8.toNat_lt y
theorem truT_8 (b : Bool) : (∀ x ∈ truT b, x < 256) ∧ (truT b).length ≤ 5 := by cases b <;> simp [truT]
/-- How numbers and truths are written. -/
structure Fmt (W0 : World) (B : Nat) : Prop where
  num : ∀ z : Int, 0 ≤ z → z ≤ 9223372036854775807 → (numT z).length ≤ 100 ∧ ∀ w, Below B W0 w → Calls Tryz.prog 272 #[.int .i64 z, .int .i64 10] w fun e w' => e = .returned (.string (strOf (numT z))) ∧ Below w.heap.size w w'
  tru : ∀ (b : Bool) w, Calls Tryz.prog 273 #[.bool b] w fun e w' => e = .returned (.string (strOf (truT b))) ∧ w' = w
set_option maxRecDepth 100000 in
set_option maxHeartbeats 4000000 in
theorem expr_1 (W0 : World) (B q : Nat) (m : List Nat) (z : Int) (l : List Ex) (A : Option Addr) (n c : Nat) (w : World) (s : Sw) (lv : Nat) (v : Value) (h8 : ∀ x ∈ m, x < 256) (hl8 : m.length ≤ 140737488355328) (h : ShAt B q w s lv v) (hb : Below B W0 w) (hf : Fmt W0 B) (hz0 : 0 ≤ z) (hz1 : z ≤ 9223372036854775807) :
    Calls Tryz.prog 227 #[at0 q, .agg #[.int .u8 1, .string (strOf m), .int .i64 z, .slice A n c]] w (OutS B q w (putS s (numT z)) lv) := by
  have hle := h.le
  have hqr := h.lt
  have hbw : B ≤ w.heap.size := by omega
  have HB := Lib.hid hb
  have HQ0 := Lib.hid (heap_new w (.cells #[.int .u8 1, .string (strOf m), .int .i64 z, .slice A n c] 46))
  have HS0 := Lib.hid (h.alloc (.cells #[.int .u8 1, .string (strOf m), .int .i64 z, .slice A n c] 46))
  have HK0 := Lib.hid ((Ks.refl B q w).alloc hbw (.cells #[.int .u8 1, .string (strOf m), .int .i64 z, .slice A n c] 46))
  have hqn : ¬ w.heap.size = q := by omega
  obtain ⟨hln, hfm⟩ := hf.num z hz0 hz1
  have HF := Lib.hid hfm
  have HN8 := Lib.hid (ok1 (numT_8 z) (by omega))
  have HP := Lib.hid (fun w' s' v' (h' : ShAt B q w' s' lv v') i (hi : i = w'.heap.size) => put_at B q w' s' lv v' h' [numT z] #[.string (strOf (numT z))] rfl HN8.out (by simp) 1 1 i rfl hi)
  clear hf hfm hz0 hz1 hln
  obtain ⟨⟨z0, z1, z2, z3⟩, -⟩ := box4f HQ0.out
  clear h hb h8 hl8
  unfold at0 at *
  go_enter Tryz.func227, Tryz.ntmps227
  go_wp2_with (first
    | (go_at_call 272
       refine (HF.out _ (HB.out.trans HK0.out.b)).mono ?_
       rintro e wf ⟨rfl, hbf⟩
       have HS1 := Lib.hid (HS0.out.below hbf)
       have HK1 : Hid (Ks B q w wf) := Lib.hid (HK0.out.trans ⟨hbf.mono (Nat.le_trans hbw HK0.out.b.size), Oq.below hbf⟩)
       have HQ1 := Lib.hid (heap_below HQ0.out hbf)
       clear hbf)
    | (go_at_call 123
       refine (HP.out _ _ _ HS1.out _ rfl).mono ?_
       rintro e w2 ⟨rfl, ⟨v2, hv2⟩, hk2⟩
       have HS2 := Lib.hid hv2
       have HK2 := Lib.hid (HK1.out.trans hk2)
       have HQ2 := Lib.hid (hk2.o.heap HQ1.out hqn (by decide))
       obtain ⟨⟨a20, a21, a22, a23⟩, -⟩ := box4f HQ2.out
       clear hv2 hk2)
    | (fail))
  go_end0
  exact ⟨rfl, ⟨_, HS2.out⟩, HK2.out⟩
set_option maxRecDepth 100000 in
set_option maxHeartbeats 4000000 in
theorem expr_2 (W0 : World) (B q : Nat) (m : List Nat) (z : Int) (l : List Ex) (A : Option Addr) (n c : Nat) (w : World) (s : Sw) (lv : Nat) (v : Value) (h8 : ∀ x ∈ m, x < 256) (hl8 : m.length ≤ 140737488355328) (h : ShAt B q w s lv v) (hb : Below B W0 w) (hf : Fmt W0 B) :
    Calls Tryz.prog 227 #[at0 q, .agg #[.int .u8 2, .string (strOf m), .int .i64 z, .slice A n c]] w (OutS B q w (putS s (truT (z == 1))) lv) := by
  have hle := h.le
  have hqr := h.lt
  have hbw : B ≤ w.heap.size := by omega
  have HB := Lib.hid hb
  have HQ0 := Lib.hid (heap_new w (.cells #[.int .u8 2, .string (strOf m), .int .i64 z, .slice A n c] 46))
  have HS0 := Lib.hid (h.alloc (.cells #[.int .u8 2, .string (strOf m), .int .i64 z, .slice A n c] 46))
  have HK0 := Lib.hid ((Ks.refl B q w).alloc hbw (.cells #[.int .u8 2, .string (strOf m), .int .i64 z, .slice A n c] 46))
  have hqn : ¬ w.heap.size = q := by omega
  obtain ⟨b, hbz⟩ : ∃ b, (z == 1) = b := ⟨_, rfl⟩
  have HF := Lib.hid (hf.tru b)
  have HP := Lib.hid (fun w' s' v' (h' : ShAt B q w' s' lv v') i (hi : i = w'.heap.size) => put_at B q w' s' lv v' h' [truT b] #[.string (strOf (truT b))] rfl (ok1 (truT_8 b).1 (by have := (truT_8 b).2; omega)) (by simp) 1 1 i rfl hi)
  rw [hbz]
  clear hf
  obtain ⟨⟨z0, z1, z2, z3⟩, -⟩ := box4f HQ0.out
  clear h hb h8 hl8
  unfold at0 at *
  go_enter Tryz.func227, Tryz.ntmps227
  go_wp2_with (first
    | (go_at_call 273
       refine (HF.out _).mono ?_
       rintro e wf ⟨rfl, rfl⟩)
    | (go_at_call 123
       refine (HP.out _ _ _ HS0.out _ (by simp)).mono ?_
       rintro e w1 ⟨rfl, ⟨v1, hv1⟩, hk1⟩
       have HS1 := Lib.hid hv1
       have HK1 := Lib.hid (HK0.out.trans hk1)
       have HQ1 := Lib.hid (hk1.o.heap HQ0.out hqn (by decide))
       obtain ⟨⟨a10, a11, a12, a13⟩, -⟩ := box4f HQ1.out
       clear hv1 hk1)
    | (fail))
  go_end0
  exact ⟨rfl, ⟨_, HS1.out⟩, HK1.out⟩
set_option maxRecDepth 100000 in
set_option maxHeartbeats 4000000 in
theorem expr_3 (W0 : World) (B q : Nat) (m : List Nat) (z : Int) (l : List Ex) (A : Option Addr) (n c : Nat) (w : World) (s : Sw) (lv : Nat) (v : Value) (h8 : ∀ x ∈ m, x < 256) (hl8 : m.length ≤ 140737488355328) (h : ShAt B q w s lv v) (hb : Below B W0 w)  :
    Calls Tryz.prog 227 #[at0 q, .agg #[.int .u8 3, .string (strOf m), .int .i64 z, .slice A n c]] w (OutS B q w (putS s (quoW m)) lv) := by
  have hle := h.le
  have hqr := h.lt
  have hbw : B ≤ w.heap.size := by omega
  have HB := Lib.hid hb
  have HQ0 := Lib.hid (heap_new w (.cells #[.int .u8 3, .string (strOf m), .int .i64 z, .slice A n c] 46))
  have HS0 := Lib.hid (h.alloc (.cells #[.int .u8 3, .string (strOf m), .int .i64 z, .slice A n c] 46))
  have HK0 := Lib.hid ((Ks.refl B q w).alloc hbw (.cells #[.int .u8 3, .string (strOf m), .int .i64 z, .slice A n c] 46))
  have hqn : ¬ w.heap.size = q := by omega
  have HQU := Lib.hid (fun w' v' (h' : ShAt B q w' s lv v') => quoteL_any B q w' s lv v' h' m h8 (fun x hx => by have := quoW_bytes m h8 x hx; omega) hl8)
  obtain ⟨⟨z0, z1, z2, z3⟩, -⟩ := box4f HQ0.out
  clear h hb h8 hl8
  unfold at0 at *
  go_enter Tryz.func227, Tryz.ntmps227
  go_wp2_with (first
    | (go_at_call 274
       refine (HQU.out _ _ HS0.out).mono ?_
       rintro e w1 ⟨rfl, ⟨v1, hv1⟩, hk1⟩
       have HS1 := Lib.hid hv1
       have HK1 := Lib.hid (HK0.out.trans hk1)
       have HQ1 := Lib.hid (hk1.o.heap HQ0.out hqn (by decide))
       obtain ⟨⟨a10, a11, a12, a13⟩, -⟩ := box4f HQ1.out
       clear hv1 hk1)
    | (fail))
  go_end0
  exact ⟨rfl, ⟨_, HS1.out⟩, HK1.out⟩
set_option maxRecDepth 100000 in
set_option maxHeartbeats 4000000 in
theorem expr_4 (W0 : World) (B q : Nat) (m : List Nat) (z : Int) (l : List Ex) (A : Option Addr) (n c : Nat) (w : World) (s : Sw) (lv : Nat) (v : Value) (h8 : ∀ x ∈ m, x < 256) (hl8 : m.length ≤ 140737488355328) (h : ShAt B q w s lv v) (hb : Below B W0 w)  :
    Calls Tryz.prog 227 #[at0 q, .agg #[.int .u8 4, .string (strOf m), .int .i64 z, .slice A n c]] w (OutS B q w (putS s m) lv) := by
  have hle := h.le
  have hqr := h.lt
  have hbw : B ≤ w.heap.size := by omega
  have HB := Lib.hid hb
  have HQ0 := Lib.hid (heap_new w (.cells #[.int .u8 4, .string (strOf m), .int .i64 z, .slice A n c] 46))
  have HS0 := Lib.hid (h.alloc (.cells #[.int .u8 4, .string (strOf m), .int .i64 z, .slice A n c] 46))
  have HK0 := Lib.hid ((Ks.refl B q w).alloc hbw (.cells #[.int .u8 4, .string (strOf m), .int .i64 z, .slice A n c] 46))
  have hqn : ¬ w.heap.size = q := by omega
  have HP := Lib.hid (fun w' s' v' (h' : ShAt B q w' s' lv v') i (hi : i = w'.heap.size) => put_at B q w' s' lv v' h' [m] #[.string (strOf m)] rfl (ok1 h8 hl8) (by simp) 1 1 i rfl hi)
  obtain ⟨⟨z0, z1, z2, z3⟩, -⟩ := box4f HQ0.out
  clear h hb h8 hl8
  unfold at0 at *
  go_enter Tryz.func227, Tryz.ntmps227
  go_wp2_with (first
    | (go_at_call 123
       refine (HP.out _ _ _ HS0.out _ (by simp)).mono ?_
       rintro e w1 ⟨rfl, ⟨v1, hv1⟩, hk1⟩
       have HS1 := Lib.hid hv1
       have HK1 := Lib.hid (HK0.out.trans hk1)
       have HQ1 := Lib.hid (hk1.o.heap HQ0.out hqn (by decide))
       obtain ⟨⟨a10, a11, a12, a13⟩, -⟩ := box4f HQ1.out
       clear hv1 hk1)
    | (fail))
  go_end0
  exact ⟨rfl, ⟨_, HS1.out⟩, HK1.out⟩
set_option maxRecDepth 100000 in
set_option maxHeartbeats 4000000 in
theorem expr_5 (W0 : World) (B q : Nat) (m : List Nat) (z : Int) (l : List Ex) (A : Option Addr) (n c : Nat) (w : World) (s : Sw) (lv : Nat) (v : Value) (h8 : ∀ x ∈ m, x < 256) (hl8 : m.length ≤ 140737488355328) (h : ShAt B q w s lv v) (hb : Below B W0 w)  :
    Calls Tryz.prog 227 #[at0 q, .agg #[.int .u8 5, .string (strOf m), .int .i64 z, .slice A n c]] w (OutS B q w (putS s [115, 101, 108, 102]) lv) := by
  have hle := h.le
  have hqr := h.lt
  have hbw : B ≤ w.heap.size := by omega
  have HB := Lib.hid hb
  have HQ0 := Lib.hid (heap_new w (.cells #[.int .u8 5, .string (strOf m), .int .i64 z, .slice A n c] 46))
  have HS0 := Lib.hid (h.alloc (.cells #[.int .u8 5, .string (strOf m), .int .i64 z, .slice A n c] 46))
  have HK0 := Lib.hid ((Ks.refl B q w).alloc hbw (.cells #[.int .u8 5, .string (strOf m), .int .i64 z, .slice A n c] 46))
  have hqn : ¬ w.heap.size = q := by omega
  have HP := Lib.hid (fun w' s' v' (h' : ShAt B q w' s' lv v') i (hi : i = w'.heap.size) => put_at B q w' s' lv v' h' [[115, 101, 108, 102]] #[.string ⟨#[115, 101, 108, 102]⟩] rfl (by simp) (by simp) 1 1 i rfl hi)
  obtain ⟨⟨z0, z1, z2, z3⟩, -⟩ := box4f HQ0.out
  clear h hb h8 hl8
  unfold at0 at *
  go_enter Tryz.func227, Tryz.ntmps227
  go_wp2_with (first
    | (go_at_call 123
       refine (HP.out _ _ _ HS0.out _ (by simp)).mono ?_
       rintro e w1 ⟨rfl, ⟨v1, hv1⟩, hk1⟩
       have HS1 := Lib.hid hv1
       have HK1 := Lib.hid (HK0.out.trans hk1)
       have HQ1 := Lib.hid (hk1.o.heap HQ0.out hqn (by decide))
       obtain ⟨⟨a10, a11, a12, a13⟩, -⟩ := box4f HQ1.out
       clear hv1 hk1)
    | (fail))
  go_end0
  exact ⟨rfl, ⟨_, HS1.out⟩, HK1.out⟩
set_option maxRecDepth 100000 in
set_option maxHeartbeats 4000000 in
theorem expr_6 (W0 : World) (B q : Nat) (m : List Nat) (z : Int) (l : List Ex) (A : Option Addr) (n c : Nat) (w : World) (s : Sw) (lv : Nat) (v : Value) (h8 : ∀ x ∈ m, x < 256) (hl8 : m.length ≤ 140737488355328) (h : ShAt B q w s lv v) (hb : Below B W0 w) (hL : ∀ (w : World) (s : Sw) (v : Value), ShAt B q w s lv v → Below B W0 w → Calls Tryz.prog 230 #[at0 q, .slice A n c] w (OutS B q w (listS l s) lv)) :
    Calls Tryz.prog 227 #[at0 q, .agg #[.int .u8 6, .string (strOf m), .int .i64 z, .slice A n c]] w (OutS B q w (listS l s) lv) := by
  have hle := h.le
  have hqr := h.lt
  have hbw : B ≤ w.heap.size := by omega
  have HB := Lib.hid hb
  have HQ0 := Lib.hid (heap_new w (.cells #[.int .u8 6, .string (strOf m), .int .i64 z, .slice A n c] 46))
  have HS0 := Lib.hid (h.alloc (.cells #[.int .u8 6, .string (strOf m), .int .i64 z, .slice A n c] 46))
  have HK0 := Lib.hid ((Ks.refl B q w).alloc hbw (.cells #[.int .u8 6, .string (strOf m), .int .i64 z, .slice A n c] 46))
  have hqn : ¬ w.heap.size = q := by omega
  have HL := Lib.hid hL
  clear hL
  obtain ⟨⟨z0, z1, z2, z3⟩, -⟩ := box4f HQ0.out
  clear h hb h8 hl8
  unfold at0 at *
  go_enter Tryz.func227, Tryz.ntmps227
  go_wp2_with (first
    | (go_at_call 230
       refine (HL.out _ _ _ HS0.out (HB.out.trans HK0.out.b)).mono ?_
       rintro e w1 ⟨rfl, ⟨v1, hv1⟩, hk1⟩
       have HS1 := Lib.hid hv1
       have HK1 := Lib.hid (HK0.out.trans hk1)
       have HQ1 := Lib.hid (hk1.o.heap HQ0.out hqn (by decide))
       obtain ⟨⟨a10, a11, a12, a13⟩, -⟩ := box4f HQ1.out
       clear hv1 hk1)
    | (fail))
  go_end0
  exact ⟨rfl, ⟨_, HS1.out⟩, HK1.out⟩
set_option maxRecDepth 100000 in
set_option maxHeartbeats 4000000 in
theorem expr_7 (W0 : World) (B q : Nat) (m : List Nat) (z : Int) (l : List Ex) (A : Option Addr) (n c : Nat) (w : World) (s : Sw) (lv : Nat) (v : Value) (h8 : ∀ x ∈ m, x < 256) (hl8 : m.length ≤ 140737488355328) (h : ShAt B q w s lv v) (hb : Below B W0 w) (hO : ∀ (w : World) (s : Sw) (v : Value), ShAt B q w s lv v → Below B W0 w → Calls Tryz.prog 275 #[at0 q, .agg #[.int .u8 7, .string (strOf m), .int .i64 z, .slice A n c]] w (OutS B q w (opS m l s) lv)) :
    Calls Tryz.prog 227 #[at0 q, .agg #[.int .u8 7, .string (strOf m), .int .i64 z, .slice A n c]] w (OutS B q w (opS m l s) lv) := by
  have hle := h.le
  have hqr := h.lt
  have hbw : B ≤ w.heap.size := by omega
  have HB := Lib.hid hb
  have HQ0 := Lib.hid (heap_new w (.cells #[.int .u8 7, .string (strOf m), .int .i64 z, .slice A n c] 46))
  have HS0 := Lib.hid (h.alloc (.cells #[.int .u8 7, .string (strOf m), .int .i64 z, .slice A n c] 46))
  have HK0 := Lib.hid ((Ks.refl B q w).alloc hbw (.cells #[.int .u8 7, .string (strOf m), .int .i64 z, .slice A n c] 46))
  have hqn : ¬ w.heap.size = q := by omega
  have HO := Lib.hid hO
  clear hO
  obtain ⟨⟨z0, z1, z2, z3⟩, -⟩ := box4f HQ0.out
  clear h hb h8 hl8
  unfold at0 at *
  go_enter Tryz.func227, Tryz.ntmps227
  go_wp2_with (first
    | (go_at_call 275
       refine (HO.out _ _ _ HS0.out (HB.out.trans HK0.out.b)).mono ?_
       rintro e w1 ⟨rfl, ⟨v1, hv1⟩, hk1⟩
       have HS1 := Lib.hid hv1
       have HK1 := Lib.hid (HK0.out.trans hk1)
       have HQ1 := Lib.hid (hk1.o.heap HQ0.out hqn (by decide))
       obtain ⟨⟨a10, a11, a12, a13⟩, -⟩ := box4f HQ1.out
       clear hv1 hk1)
    | (fail))
  go_end0
  exact ⟨rfl, ⟨_, HS1.out⟩, HK1.out⟩
set_option maxRecDepth 100000 in
set_option maxHeartbeats 4000000 in
theorem expr_9 (W0 : World) (B q : Nat) (m : List Nat) (z : Int) (l : List Ex) (A : Option Addr) (n c : Nat) (w : World) (s : Sw) (lv : Nat) (v : Value) (h8 : ∀ x ∈ m, x < 256) (hl8 : m.length ≤ 140737488355328) (h : ShAt B q w s lv v) (hb : Below B W0 w) (hL : ∀ (w : World) (s : Sw) (v : Value), ShAt B q w s lv v → Below B W0 w → Calls Tryz.prog 230 #[at0 q, .slice A n c] w (OutS B q w (listS l s) lv)) :
    Calls Tryz.prog 227 #[at0 q, .agg #[.int .u8 9, .string (strOf m), .int .i64 z, .slice A n c]] w (OutS B q w (listS l (putS s [108, 101, 110])) lv) := by
  have hle := h.le
  have hqr := h.lt
  have hbw : B ≤ w.heap.size := by omega
  have HB := Lib.hid hb
  have HQ0 := Lib.hid (heap_new w (.cells #[.int .u8 9, .string (strOf m), .int .i64 z, .slice A n c] 46))
  have HS0 := Lib.hid (h.alloc (.cells #[.int .u8 9, .string (strOf m), .int .i64 z, .slice A n c] 46))
  have HK0 := Lib.hid ((Ks.refl B q w).alloc hbw (.cells #[.int .u8 9, .string (strOf m), .int .i64 z, .slice A n c] 46))
  have hqn : ¬ w.heap.size = q := by omega
  have HL := Lib.hid hL
  clear hL
  have HP := Lib.hid (fun w' s' v' (h' : ShAt B q w' s' lv v') i (hi : i = w'.heap.size) => put_at B q w' s' lv v' h' [[108, 101, 110]] #[.string ⟨#[108, 101, 110]⟩] rfl (by simp) (by simp) 1 1 i rfl hi)
  obtain ⟨⟨z0, z1, z2, z3⟩, -⟩ := box4f HQ0.out
  clear h hb h8 hl8
  unfold at0 at *
  go_enter Tryz.func227, Tryz.ntmps227
  go_wp2_with (first
    | (go_at_call 123
       refine (HP.out _ _ _ HS0.out _ (by simp)).mono ?_
       rintro e w1 ⟨rfl, ⟨v1, hv1⟩, hk1⟩
       have HS1 := Lib.hid hv1
       have HK1 := Lib.hid (HK0.out.trans hk1)
       have HQ1 := Lib.hid (hk1.o.heap HQ0.out hqn (by decide))
       obtain ⟨⟨a10, a11, a12, a13⟩, -⟩ := box4f HQ1.out
       clear hv1 hk1)
    | (go_at_call 230
       refine (HL.out _ _ _ HS1.out (HB.out.trans HK1.out.b)).mono ?_
       rintro e w2 ⟨rfl, ⟨v2, hv2⟩, hk2⟩
       have HS2 := Lib.hid hv2
       have HK2 := Lib.hid (HK1.out.trans hk2)
       have HQ2 := Lib.hid (hk2.o.heap HQ1.out hqn (by decide))
       obtain ⟨⟨a20, a21, a22, a23⟩, -⟩ := box4f HQ2.out
       clear hv2 hk2)
    | (fail))
  go_end0
  exact ⟨rfl, ⟨_, HS2.out⟩, HK2.out⟩
set_option maxRecDepth 100000 in
set_option maxHeartbeats 4000000 in
theorem expr_10 (W0 : World) (B q : Nat) (m : List Nat) (z : Int) (l : List Ex) (A : Option Addr) (n c : Nat) (w : World) (s : Sw) (lv : Nat) (v : Value) (h8 : ∀ x ∈ m, x < 256) (hl8 : m.length ≤ 140737488355328) (h : ShAt B q w s lv v) (hb : Below B W0 w) (hL : ∀ (w : World) (s : Sw) (v : Value), ShAt B q w s lv v → Below B W0 w → Calls Tryz.prog 230 #[at0 q, .slice A n c] w (OutS B q w (listS l s) lv)) :
    Calls Tryz.prog 227 #[at0 q, .agg #[.int .u8 10, .string (strOf m), .int .i64 z, .slice A n c]] w (OutS B q w (listS l (putsS s [[99, 97, 108, 108, 32], m])) lv) := by
  have hle := h.le
  have hqr := h.lt
  have hbw : B ≤ w.heap.size := by omega
  have HB := Lib.hid hb
  have HQ0 := Lib.hid (heap_new w (.cells #[.int .u8 10, .string (strOf m), .int .i64 z, .slice A n c] 46))
  have HS0 := Lib.hid (h.alloc (.cells #[.int .u8 10, .string (strOf m), .int .i64 z, .slice A n c] 46))
  have HK0 := Lib.hid ((Ks.refl B q w).alloc hbw (.cells #[.int .u8 10, .string (strOf m), .int .i64 z, .slice A n c] 46))
  have hqn : ¬ w.heap.size = q := by omega
  have HL := Lib.hid hL
  clear hL
  have HP := Lib.hid (fun w' s' v' (h' : ShAt B q w' s' lv v') i (hi : i = w'.heap.size) => put_at B q w' s' lv v' h' [[99, 97, 108, 108, 32], m] #[.string ⟨#[99, 97, 108, 108, 32]⟩, .string (strOf m)] rfl (ok2 (by simp) (by simp) h8 hl8) (by simp) 2 2 i rfl hi)
  obtain ⟨⟨z0, z1, z2, z3⟩, -⟩ := box4f HQ0.out
  clear h hb h8 hl8
  unfold at0 at *
  go_enter Tryz.func227, Tryz.ntmps227
  go_wp2_with (first
    | (go_at_call 123
       refine (HP.out _ _ _ HS0.out _ (by simp)).mono ?_
       rintro e w1 ⟨rfl, ⟨v1, hv1⟩, hk1⟩
       have HS1 := Lib.hid hv1
       have HK1 := Lib.hid (HK0.out.trans hk1)
       have HQ1 := Lib.hid (hk1.o.heap HQ0.out hqn (by decide))
       obtain ⟨⟨a10, a11, a12, a13⟩, -⟩ := box4f HQ1.out
       clear hv1 hk1)
    | (go_at_call 230
       refine (HL.out _ _ _ HS1.out (HB.out.trans HK1.out.b)).mono ?_
       rintro e w2 ⟨rfl, ⟨v2, hv2⟩, hk2⟩
       have HS2 := Lib.hid hv2
       have HK2 := Lib.hid (HK1.out.trans hk2)
       have HQ2 := Lib.hid (hk2.o.heap HQ1.out hqn (by decide))
       obtain ⟨⟨a20, a21, a22, a23⟩, -⟩ := box4f HQ2.out
       clear hv2 hk2)
    | (fail))
  go_end0
  exact ⟨rfl, ⟨_, HS2.out⟩, HK2.out⟩
set_option maxRecDepth 100000 in
set_option maxHeartbeats 4000000 in
theorem expr_11 (W0 : World) (B q : Nat) (m : List Nat) (z : Int) (l : List Ex) (A : Option Addr) (n c : Nat) (w : World) (s : Sw) (lv : Nat) (v : Value) (h8 : ∀ x ∈ m, x < 256) (hl8 : m.length ≤ 140737488355328) (h : ShAt B q w s lv v) (hb : Below B W0 w) (hL : ∀ (w : World) (s : Sw) (v : Value), ShAt B q w s lv v → Below B W0 w → Calls Tryz.prog 230 #[at0 q, .slice A n c] w (OutS B q w (listS l s) lv)) :
    Calls Tryz.prog 227 #[at0 q, .agg #[.int .u8 11, .string (strOf m), .int .i64 z, .slice A n c]] w (OutS B q w (listS l (putsS s [[115, 112, 97, 119, 110, 32], m])) lv) := by
  have hle := h.le
  have hqr := h.lt
  have hbw : B ≤ w.heap.size := by omega
  have HB := Lib.hid hb
  have HQ0 := Lib.hid (heap_new w (.cells #[.int .u8 11, .string (strOf m), .int .i64 z, .slice A n c] 46))
  have HS0 := Lib.hid (h.alloc (.cells #[.int .u8 11, .string (strOf m), .int .i64 z, .slice A n c] 46))
  have HK0 := Lib.hid ((Ks.refl B q w).alloc hbw (.cells #[.int .u8 11, .string (strOf m), .int .i64 z, .slice A n c] 46))
  have hqn : ¬ w.heap.size = q := by omega
  have HL := Lib.hid hL
  clear hL
  have HP := Lib.hid (fun w' s' v' (h' : ShAt B q w' s' lv v') i (hi : i = w'.heap.size) => put_at B q w' s' lv v' h' [[115, 112, 97, 119, 110, 32], m] #[.string ⟨#[115, 112, 97, 119, 110, 32]⟩, .string (strOf m)] rfl (ok2 (by simp) (by simp) h8 hl8) (by simp) 2 2 i rfl hi)
  obtain ⟨⟨z0, z1, z2, z3⟩, -⟩ := box4f HQ0.out
  clear h hb h8 hl8
  unfold at0 at *
  go_enter Tryz.func227, Tryz.ntmps227
  go_wp2_with (first
    | (go_at_call 123
       refine (HP.out _ _ _ HS0.out _ (by simp)).mono ?_
       rintro e w1 ⟨rfl, ⟨v1, hv1⟩, hk1⟩
       have HS1 := Lib.hid hv1
       have HK1 := Lib.hid (HK0.out.trans hk1)
       have HQ1 := Lib.hid (hk1.o.heap HQ0.out hqn (by decide))
       obtain ⟨⟨a10, a11, a12, a13⟩, -⟩ := box4f HQ1.out
       clear hv1 hk1)
    | (go_at_call 230
       refine (HL.out _ _ _ HS1.out (HB.out.trans HK1.out.b)).mono ?_
       rintro e w2 ⟨rfl, ⟨v2, hv2⟩, hk2⟩
       have HS2 := Lib.hid hv2
       have HK2 := Lib.hid (HK1.out.trans hk2)
       have HQ2 := Lib.hid (hk2.o.heap HQ1.out hqn (by decide))
       obtain ⟨⟨a20, a21, a22, a23⟩, -⟩ := box4f HQ2.out
       clear hv2 hk2)
    | (fail))
  go_end0
  exact ⟨rfl, ⟨_, HS2.out⟩, HK2.out⟩
end Go.Proofs.YteacmanbiamhoaaGreatDoor
namespace Go.Proofs.YteacmanbiamhoaaGreatDoor
open Go.RowKit
set_option linter.unusedVariables false

set_option maxRecDepth 100000 in
set_option maxHeartbeats 4000000 in
theorem part_op (W0 : World) (B q : Nat) (k : Nat) (m : List Nat) (z : Int) (l : List Ex) (A : Option Addr) (n c : Nat) (w : World) (s : Sw) (lv : Nat) (v : Value) (h : ShAt B q w s lv v) (hb : Below B W0 w) (hO : ∀ (w : World) (s : Sw) (v : Value), ShAt B q w s lv v → Below B W0 w → Calls Tryz.prog 275 #[at0 q, .agg #[.int .u8 7, .string (strOf m), .int .i64 z, .slice A n c]] w (OutS B q w (opS m l s) lv)) :
    Calls Tryz.prog 229 #[at0 q, .agg #[.int .u8 7, .string (strOf m), .int .i64 z, .slice A n c]] w (OutS B q w (putS (opS m l (putS s [40])) [41]) lv) := by
  have hle := h.le
  have hqr := h.lt
  have hbw : B ≤ w.heap.size := by omega
  have HB := Lib.hid hb
  have HQ0 := Lib.hid (heap_new w (.cells #[.int .u8 7, .string (strOf m), .int .i64 z, .slice A n c] 46))
  have HS0 := Lib.hid (h.alloc (.cells #[.int .u8 7, .string (strOf m), .int .i64 z, .slice A n c] 46))
  have HK0 := Lib.hid ((Ks.refl B q w).alloc hbw (.cells #[.int .u8 7, .string (strOf m), .int .i64 z, .slice A n c] 46))
  have hqn : ¬ w.heap.size = q := by omega
  have HO := Lib.hid hO
  clear hO
  have HP := Lib.hid (fun w' s' v' (h' : ShAt B q w' s' lv v') i (hi : i = w'.heap.size) => put_at B q w' s' lv v' h' [[40]] #[.string ⟨#[40]⟩] rfl (by simp) (by simp) 1 1 i rfl hi)
  have HR := Lib.hid (fun w' s' v' (h' : ShAt B q w' s' lv v') i (hi : i = w'.heap.size) => put_at B q w' s' lv v' h' [[41]] #[.string ⟨#[41]⟩] rfl (by simp) (by simp) 1 1 i rfl hi)
  obtain ⟨⟨z0, z1, z2, z3⟩, -⟩ := box4f HQ0.out
  clear h hb
  unfold at0 at *
  go_enter Tryz.func229, Tryz.ntmps229
  go_wp2_with (first
    | (go_at_call 123
       refine (HP.out _ _ _ HS0.out _ (by simp)).mono ?_
       rintro e w1 ⟨rfl, ⟨v1, hv1⟩, hk1⟩
       have HS1 := Lib.hid hv1
       have HK1 := Lib.hid (HK0.out.trans hk1)
       have HQ1 := Lib.hid (hk1.o.heap HQ0.out hqn (by decide))
       obtain ⟨⟨a10, a11, a12, a13⟩, -⟩ := box4f HQ1.out
       clear HP
       clear hv1 hk1)
    | (go_at_call 275
       refine (HO.out _ _ _ HS1.out (HB.out.trans HK1.out.b)).mono ?_
       rintro e w2 ⟨rfl, ⟨v2, hv2⟩, hk2⟩
       have HS2 := Lib.hid hv2
       have HK2 := Lib.hid (HK1.out.trans hk2)
       have HQ2 := Lib.hid (hk2.o.heap HQ1.out hqn (by decide))
       obtain ⟨⟨a20, a21, a22, a23⟩, -⟩ := box4f HQ2.out
       clear hv2 hk2)
    | (go_at_call 123
       refine (HR.out _ _ _ HS2.out _ rfl).mono ?_
       rintro e w3 ⟨rfl, ⟨v3, hv3⟩, hk3⟩
       have HS3 := Lib.hid hv3
       have HK3 := Lib.hid (HK2.out.trans hk3)
       have HQ3 := Lib.hid (hk3.o.heap HQ2.out hqn (by decide))
       obtain ⟨⟨a30, a31, a32, a33⟩, -⟩ := box4f HQ3.out
       clear hv3 hk3)
    | (fail))
  go_end0
  exact ⟨rfl, ⟨_, HS3.out⟩, HK3.out⟩
set_option maxRecDepth 100000 in
set_option maxHeartbeats 4000000 in
theorem part_ex (W0 : World) (B q : Nat) (k : Nat) (m : List Nat) (z : Int) (l : List Ex) (A : Option Addr) (n c : Nat) (w : World) (s : Sw) (lv : Nat) (v : Value) (h : ShAt B q w s lv v) (hb : Below B W0 w) (hk : k ≠ 7) (hE : ∀ (w : World) (s : Sw) (v : Value), ShAt B q w s lv v → Below B W0 w → Calls Tryz.prog 227 #[at0 q, .agg #[.int .u8 (k : Int), .string (strOf m), .int .i64 z, .slice A n c]] w (OutS B q w (exS (.mk k m z l) s) lv)) :
    Calls Tryz.prog 229 #[at0 q, .agg #[.int .u8 (k : Int), .string (strOf m), .int .i64 z, .slice A n c]] w (OutS B q w (exS (.mk k m z l) s) lv) := by
  have hle := h.le
  have hqr := h.lt
  have hbw : B ≤ w.heap.size := by omega
  have HB := Lib.hid hb
  have HQ0 := Lib.hid (heap_new w (.cells #[.int .u8 (k : Int), .string (strOf m), .int .i64 z, .slice A n c] 46))
  have HS0 := Lib.hid (h.alloc (.cells #[.int .u8 (k : Int), .string (strOf m), .int .i64 z, .slice A n c] 46))
  have HK0 := Lib.hid ((Ks.refl B q w).alloc hbw (.cells #[.int .u8 (k : Int), .string (strOf m), .int .i64 z, .slice A n c] 46))
  have hqn : ¬ w.heap.size = q := by omega
  have HE := Lib.hid hE
  have hk7 : ((k : Int) != 7) = true := bne_iff_ne.2 (by omega)
  clear hE hk
  obtain ⟨⟨z0, z1, z2, z3⟩, -⟩ := box4f HQ0.out
  clear h hb
  unfold at0 at *
  go_enter Tryz.func229, Tryz.ntmps229
  go_wp2_with (first
    | (go_at_call 227
       refine (HE.out _ _ _ HS0.out (HB.out.trans HK0.out.b)).mono ?_
       rintro e w1 ⟨rfl, ⟨v1, hv1⟩, hk1⟩
       have HS1 := Lib.hid hv1
       have HK1 := Lib.hid (HK0.out.trans hk1)
       have HQ1 := Lib.hid (hk1.o.heap HQ0.out hqn (by decide))
       obtain ⟨⟨a10, a11, a12, a13⟩, -⟩ := box4f HQ1.out
       clear hv1 hk1)
    | (fail))
  go_end0
  exact ⟨rfl, ⟨_, HS1.out⟩, HK1.out⟩
theorem atS_two (x y : Ex) (a : Sw) : atS [x, y] a = putS (exS y (putS (partS x a) [91])) [93] := by rw [atS]; rfl
set_option maxRecDepth 100000 in
set_option maxHeartbeats 4000000 in
theorem expr_8 (W0 : World) (q : Nat) (S : Nat → Prop) (hS : ∀ b, S b → b < W0.heap.size) (m : List Nat) (z : Int) (x1 x2 : Ex) (hx1 : ShP W0 q S x1) (hx2 : ShE W0 q S x2) (A : Option Addr) (c : Nat) (w : World) (s : Sw) (lv : Nat) (v : Value) (h : ShAt W0.heap.size q w s lv v) (hb : Below W0.heap.size W0 w) (hr : Rds W0 S A 4 0 ([x1, x2].map Ex.nd)) :
    Calls Tryz.prog 227 #[at0 q, .agg #[.int .u8 8, .string (strOf m), .int .i64 z, .slice A 2 c]] w (OutS W0.heap.size q w (atS [x1, x2] s) lv) := by
  obtain ⟨b, o, ek, es, em, A3, n3, c3, rfl, hSb, k1, r1⟩ := kid_all hr hS 0 x1 rfl
  obtain ⟨b', o', ek', es', em', A3', n3', c3', hA, hSb', k2, r2⟩ := kid_all hr hS 1 x2 rfl
  obtain ⟨rfl, rfl⟩ : b = b' ∧ o = o' := by cases hA; exact ⟨rfl, rfl⟩
  simp only [Nat.zero_mul, Nat.add_zero] at k1
  simp only [Nat.one_mul, Nat.add_assoc, Nat.reduceAdd] at k2
  obtain ⟨B, hB⟩ : ∃ B, W0.heap.size = B := ⟨_, rfl⟩
  have HX1 : Hid (∀ (w : World) (s : Sw) (lv : Nat) (v e : Value), ShAt B q w s lv v → Below B W0 w → Rd W0 S (Ex.nd x1) e → Calls Tryz.prog 229 #[at0 q, e] w (OutS B q w (partS x1 s) lv)) := Lib.hid (by
    subst hB
    exact hx1)
  have HR1 := Lib.hid r1
  have HX2 : Hid (∀ (w : World) (s : Sw) (lv : Nat) (v e : Value), ShAt B q w s lv v → Below B W0 w → Rd W0 S (Ex.nd x2) e → Calls Tryz.prog 227 #[at0 q, e] w (OutS B q w (exS x2 s) lv)) := Lib.hid (by
    subst hB
    exact hx2)
  have HR2 := Lib.hid r2
  rw [hB] at h hb k1 k2 ⊢
  rw [atS_two]
  have HK1C := Lib.hid k1
  have HK2C := Lib.hid k2
  have hle := h.le
  have hqr := h.lt
  have hbw : B ≤ w.heap.size := by omega
  have HB := Lib.hid hb
  have HQ0 := Lib.hid (heap_new w (.cells #[.int .u8 8, .string (strOf m), .int .i64 z, .slice (some ⟨b, o, none⟩) 2 c] 46))
  have HS0 := Lib.hid (h.alloc (.cells #[.int .u8 8, .string (strOf m), .int .i64 z, .slice (some ⟨b, o, none⟩) 2 c] 46))
  have HK0 := Lib.hid ((Ks.refl B q w).alloc hbw (.cells #[.int .u8 8, .string (strOf m), .int .i64 z, .slice (some ⟨b, o, none⟩) 2 c] 46))
  have hqn : ¬ w.heap.size = q := by omega
  have HP := Lib.hid (fun w' s' v' (h' : ShAt B q w' s' lv v') i (hi : i = w'.heap.size) => put_at B q w' s' lv v' h' [[91]] #[.string ⟨#[91]⟩] rfl (by simp) (by simp) 1 1 i rfl hi)
  have HE := Lib.hid (fun w' s' v' (h' : ShAt B q w' s' lv v') i (hi : i = w'.heap.size) => put_at B q w' s' lv v' h' [[93]] #[.string ⟨#[93]⟩] rfl (by simp) (by simp) 1 1 i rfl hi)
  obtain ⟨⟨z0, z1, z2, z3⟩, -⟩ := box4f HQ0.out
  obtain ⟨p0, p1, p2, p3⟩ := HK1C.out _ (HB.out.trans HK0.out.b)
  clear h hr hS hb hB k1 r1 hx1 k2 r2 hx2 hA
  unfold at0 at *
  go_enter Tryz.func227, Tryz.ntmps227
  go_wp2_with (first
    | (go_at_call 229
       refine (HX1.out _ _ lv _ _ HS0.out (HB.out.trans HK0.out.b) HR1.out).mono ?_
       rintro e w1 ⟨rfl, ⟨v1, hv1⟩, hk1⟩
       have HS1 := Lib.hid hv1
       have HK1 := Lib.hid (HK0.out.trans hk1)
       have HQ1 := Lib.hid (hk1.o.heap HQ0.out hqn (by decide))
       obtain ⟨⟨a10, a11, a12, a13⟩, -⟩ := box4f HQ1.out
       clear HX1
       clear hv1 hk1)
    | (go_at_call 123
       refine (HP.out _ _ _ HS1.out _ (by simp)).mono ?_
       rintro e w2 ⟨rfl, ⟨v2, hv2⟩, hk2⟩
       have HS2 := Lib.hid hv2
       have HK2 := Lib.hid (HK1.out.trans hk2)
       have HQ2 := Lib.hid (hk2.o.heap HQ1.out hqn (by decide))
       obtain ⟨⟨a20, a21, a22, a23⟩, -⟩ := box4f HQ2.out
       obtain ⟨f0, f1, f2, f3⟩ := HK2C.out w2 (HB.out.trans HK2.out.b)
       clear HP
       clear hv2 hk2)
    | (go_at_call 227
       refine (HX2.out _ _ lv _ _ HS2.out (HB.out.trans HK2.out.b) HR2.out).mono ?_
       rintro e w3 ⟨rfl, ⟨v3, hv3⟩, hk3⟩
       have HS3 := Lib.hid hv3
       have HK3 := Lib.hid (HK2.out.trans hk3)
       have HQ3 := Lib.hid (hk3.o.heap HQ2.out hqn (by decide))
       obtain ⟨⟨a30, a31, a32, a33⟩, -⟩ := box4f HQ3.out
       clear hv3 hk3)
    | (go_at_call 123
       refine (HE.out _ _ _ HS3.out _ rfl).mono ?_
       rintro e w4 ⟨rfl, ⟨v4, hv4⟩, hk4⟩
       have HS4 := Lib.hid hv4
       have HK4 := Lib.hid (HK3.out.trans hk4)
       have HQ4 := Lib.hid (hk4.o.heap HQ3.out hqn (by decide))
       obtain ⟨⟨a40, a41, a42, a43⟩, -⟩ := box4f HQ4.out
       clear hv4 hk4)
    | (fail))
  go_end0
  exact ⟨rfl, ⟨_, HS4.out⟩, HK4.out⟩
end Go.Proofs.YteacmanbiamhoaaGreatDoor
namespace Go.Proofs.YteacmanbiamhoaaGreatDoor
open Go.RowKit
set_option linter.unusedVariables false

mutual
/-- Its numbers are int64s. -/
def Nb : Ex → Prop
  | .mk k s z l => z ≤ 9223372036854775807 ∧ Nbs l
def Nbs : List Ex → Prop
  | [] => True
  | x :: r => Nb x ∧ Nbs r
end
theorem Nbs.at : ∀ {l : List Ex}, Nbs l → ∀ y ∈ l, Nb y
  | [], h, y, hy => by cases hy
  | x :: r, h, y, hy => by
    rw [Nbs] at h
    rcases List.mem_cons.1 hy with rfl | hy
    · exact h.1
    · exact Nbs.at h.2 y hy
theorem isOpF_len {s : List Nat} {n : Nat} (h : isOpF s n = true) : n = 1 ∨ n = 2 := by
  unfold isOpF at h
  split at h
  · simpa using h
  · split at h
    · left; simpa using h
    · split at h
      · right; simpa using h
      · cases h
theorem rightX_kind {k : Nat} {s : List Nat} {z : Int} {n : Nat} (h : rightX k s z n = true) : 1 ≤ k ∧ k ≤ 11 ∧ (k = 1 → 0 ≤ z) ∧ (k = 7 → n = 1 ∨ n = 2) ∧ (k = 8 → n = 2) := by
  have hk : 1 ≤ k ∧ k ≤ 11 := by
    unfold rightX at h
    by_cases h1 : k = 1 ∨ k = 2 ∨ k = 3 ∨ k = 4 ∨ k = 5 ∨ k = 6 ∨ k = 7 ∨ k = 8 ∨ k = 9 ∨ k = 10 ∨ k = 11
    · omega
    · simp only [not_or] at h1
      obtain ⟨a1, a2, a3, a4, a5, a6, a7, a8, a9, a10, a11⟩ := h1
      simp [a1, a2, a3, a4, a5, a6, a7, a8, a9, a10, a11] at h
  refine ⟨hk.1, hk.2, ?_, ?_, ?_⟩
  · rintro rfl
    simp [rightX] at h
    exact h.1.2
  · rintro rfl
    simp [rightX] at h
    exact isOpF_len h.2
  · rintro rfl
    simp [rightX] at h
    exact h.2.2
theorem show_ex (W0 : World) (q : Nat) (S : Nat → Prop) (hS : ∀ b, S b → b < W0.heap.size) (hf : Fmt W0 W0.heap.size) : ∀ (n : Nat) (x : Ex), SizeOf.sizeOf x < n → OkE x → Nb x → ShE W0 q S x ∧ ShP W0 q S x := by
  intro n
  induction n with
  | zero => exact fun x h => absurd h (by omega)
  | succ n ih =>
    rintro ⟨k, m, z, l⟩ hn hok hnb
    obtain ⟨hrx, hkids⟩ := hok.kids
    obtain ⟨hk1, hk11, hz, h7, h8⟩ := rightX_kind hrx
    rw [Nb] at hnb
    have IH : ∀ y ∈ l, ShE W0 q S y ∧ ShP W0 q S y := fun y hy => ih y (by
      have := List.sizeOf_lt_of_mem hy
      simp at hn
      omega) (hkids y hy) (Nbs.at hnb.2 y hy)
    have hop : k = 7 → ∀ (w : World) (s : Sw) (lv : Nat) (v e : Value), ShAt W0.heap.size q w s lv v → Below W0.heap.size W0 w → Rd W0 S (Ex.nd (.mk k m z l)) e → Calls Tryz.prog 275 #[at0 q, e] w (OutS W0.heap.size q w (opS m l s) lv) := by
      intro hk w s lv v e h hb hx
      match l, h7 hk, IH, hx with
      | [x1], _, IH, hx => exact op_one W0 q S hS k m z x1 (IH x1 (by simp)).2 w s lv v e h hb hx
      | [x1, x2], _, IH, hx => exact op_two W0 q S hS k m z x1 x2 (IH x1 (by simp)).2 (IH x2 (by simp)).2 w s lv v e h hb hx
    have hE : ShE W0 q S (.mk k m z l) := by
      intro w s lv v e h hb hx
      have hx0 := hx
      obtain ⟨y, rfl, hm8, hml, hy⟩ := (Ex.rd k m z l _).1 hx
      have hyl := hy
      rw [Rd] at hy
      obtain ⟨A, c, rfl, hc, hcm, hr⟩ := hy
      have HL : ∀ (w : World) (s : Sw) (v : Value), ShAt W0.heap.size q w s lv v → Below W0.heap.size W0 w → Calls Tryz.prog 230 #[at0 q, .slice A (l.map Ex.nd).length c] w (OutS W0.heap.size q w (listS l s) lv) := fun w s v h hb => list_any W0 q S hS l (fun y hy => (IH y hy).1) w s lv v _ h hb hyl
      have hcase : k = 1 ∨ k = 2 ∨ k = 3 ∨ k = 4 ∨ k = 5 ∨ k = 6 ∨ k = 7 ∨ k = 8 ∨ k = 9 ∨ k = 10 ∨ k = 11 := by omega
      rcases hcase with rfl | rfl | rfl | rfl | rfl | rfl | rfl | rfl | rfl | rfl | rfl
      · have := expr_1 W0 W0.heap.size q m z l A (l.map Ex.nd).length c w s lv v hm8 hml h hb hf (hz rfl) hnb.1
        rw [exS]
        exact this
      · have := expr_2 W0 W0.heap.size q m z l A (l.map Ex.nd).length c w s lv v hm8 hml h hb hf
        rw [exS]
        exact this
      · have := expr_3 W0 W0.heap.size q m z l A (l.map Ex.nd).length c w s lv v hm8 hml h hb
        rw [exS]
        exact this
      · have := expr_4 W0 W0.heap.size q m z l A (l.map Ex.nd).length c w s lv v hm8 hml h hb
        rw [exS]
        exact this
      · have := expr_5 W0 W0.heap.size q m z l A (l.map Ex.nd).length c w s lv v hm8 hml h hb
        rw [exS]
        exact this
      · have := expr_6 W0 W0.heap.size q m z l A (l.map Ex.nd).length c w s lv v hm8 hml h hb HL
        rw [exS]
        exact this
      · have := expr_7 W0 W0.heap.size q m z l A (l.map Ex.nd).length c w s lv v hm8 hml h hb (fun w s v h hb => hop rfl w s lv v _ h hb hx0)
        rw [exS]
        exact this
      · match l, h8 rfl, IH, hr with
        | [x1, x2], _, IH, hr =>
          have := expr_8 W0 q S hS m z x1 x2 (IH x1 (by simp)).2 (IH x2 (by simp)).1 A c w s lv v h hb hr
          rw [exS]
          exact this
      · have := expr_9 W0 W0.heap.size q m z l A (l.map Ex.nd).length c w s lv v hm8 hml h hb HL
        rw [exS]
        exact this
      · have := expr_10 W0 W0.heap.size q m z l A (l.map Ex.nd).length c w s lv v hm8 hml h hb HL
        rw [exS]
        exact this
      · have := expr_11 W0 W0.heap.size q m z l A (l.map Ex.nd).length c w s lv v hm8 hml h hb HL
        rw [exS]
        exact this
    refine ⟨hE, ?_⟩
    intro w s lv v e h hb hx
    have hx0 := hx
    obtain ⟨y, rfl, hm8, hml, hy⟩ := (Ex.rd k m z l _).1 hx
    rw [Rd] at hy
    obtain ⟨A, c, rfl, hc, hcm, hr⟩ := hy
    unfold partS
    by_cases h7k : k = 7
    · subst h7k
      have := part_op W0 W0.heap.size q 7 m z l A (l.map Ex.nd).length c w s lv v h hb (fun w s v h hb => hop rfl w s lv v _ h hb hx0)
      rw [exS]
      exact this
    · have := part_ex W0 W0.heap.size q k m z l A (l.map Ex.nd).length c w s lv v h hb h7k (fun w s v h hb => hE w s lv v _ h hb hx0)
      have hno : isOpK (.mk k m z l) = false := by simp [isOpK, h7k]
      rw [hno]
      exact this
end Go.Proofs.YteacmanbiamhoaaGreatDoor
namespace Go.Proofs.YteacmanbiamhoaaGreatDoor
open Go.RowKit
set_option linter.unusedVariables false

/-- A statement that is told right, at this depth. -/
def OkS (d : Nat) (x : Sm) : Prop := ∃ c c', smR d x c = some c'
theorem okSs {d : Nat} : ∀ {l : List Sm} {c c' : Nat}, smsR d l c = some c' → ∀ y ∈ l, OkS d y
  | [], c, c', h, y, hy => by cases hy
  | x :: r, c, c', h, y, hy => by
    rw [smsR] at h
    split at h
    · cases h
    · rename_i c1 h1
      rcases List.mem_cons.1 hy with rfl | hy
      · exact ⟨c, c1, h1⟩
      · exact okSs h y hy
theorem OkS.parts {d k : Nat} {s : List Nat} {x : List Ex} {b e : List Sm} {ln : Int} (h : OkS d (.mk k s x b e ln)) : d ≤ 40 ∧ rightS k s x.length b.length e.length = true ∧ (∀ y ∈ x, OkE y) ∧ (∀ y ∈ b, OkS (d + 1) y) ∧ ∀ y ∈ e, OkS (d + 1) y := by
  obtain ⟨c, c', h⟩ := h
  rw [smR] at h
  split at h
  · cases h
  · rename_i h0
    split at h
    · cases h
    · rename_i h2
      split at h
      · cases h
      · rename_i c1 h3
        split at h
        · cases h
        · rename_i c2 h4
          exact ⟨by omega, by simpa using h2, okEs h3, okSs h4, okSs h⟩
/-- stmt, at this statement, shows it. -/
def ShS (W0 : World) (q : Nat) (S : Nat → Prop) (lv : Nat) (x : Sm) : Prop := ∀ (w : World) (s : Sw) (v e : Value), ShAt W0.heap.size q w s lv v → Below W0.heap.size W0 w → Rd W0 S (Sm.nd x) e →
  Calls Tryz.prog 184 #[at0 q, e] w (OutS W0.heap.size q w (smS lv x s) lv)
/-- One of a row of statements: its cells, in every world. -/
theorem sm_all {W0 : World} {S : Nat → Prop} {A : Option Addr} {l : List Sm} (hr : Rds W0 S A 6 0 (l.map Sm.nd)) (hS : ∀ b, S b → b < W0.heap.size) (j : Nat) (x : Sm) (hx : l[j]? = some x) :
    ∃ b o k s A2 n2 c2 A3 n3 c3 A4 n4 c4 ln, A = some ⟨b, o, none⟩ ∧ b < W0.heap.size ∧ (∀ w, Below W0.heap.size W0 w → w.cell? ⟨b, o + j * 6, none⟩ = some (.int .u8 k) ∧ w.cell? ⟨b, o + j * 6 + 1, none⟩ = some (.string s) ∧ w.cell? ⟨b, o + j * 6 + 2, none⟩ = some (.slice A2 n2 c2) ∧ w.cell? ⟨b, o + j * 6 + 3, none⟩ = some (.slice A3 n3 c3) ∧ w.cell? ⟨b, o + j * 6 + 4, none⟩ = some (.slice A4 n4 c4) ∧ w.cell? ⟨b, o + j * 6 + 5, none⟩ = some (.int .i64 ln)) ∧ Rd W0 S (Sm.nd x) (.agg #[.int .u8 k, .string s, .slice A2 n2 c2, .slice A3 n3 c3, .slice A4 n4 c4, .int .i64 ln]) := by
  obtain ⟨b, o, vs, rfl, hSb, hvl, hrg, hx⟩ := hr.at j (Sm.nd x) (by rw [List.getElem?_map, hx]; rfl)
  obtain ⟨k, s, xs, bb, ee, ln⟩ := x
  have hx0 := hx
  obtain ⟨y, z, u, hv, h8, hl8, hy, hz, hu⟩ := (Sm.rd k s xs bb ee ln _).1 hx
  rw [Rd] at hy hz hu
  obtain ⟨A2, c2, rfl, -⟩ := hy
  obtain ⟨A3, c3, rfl, -⟩ := hz
  obtain ⟨A4, c4, rfl, -⟩ := hu
  have hv2 : vs = [.int .u8 (k : Int), .string (strOf s), .slice A2 (xs.map Ex.nd).length c2, .slice A3 (bb.map Sm.nd).length c3, .slice A4 (ee.map Sm.nd).length c4, .int .i64 ln] := by
    injection hv with hv
    have := congrArg Array.toList hv
    simpa using this
  subst hv2
  have hc : ∀ w, Below W0.heap.size W0 w → ∀ i u, [Value.int .u8 (k : Int), .string (strOf s), .slice A2 (xs.map Ex.nd).length c2, .slice A3 (bb.map Sm.nd).length c3, .slice A4 (ee.map Sm.nd).length c4, .int .i64 ln][i]? = some u → w.cell? ⟨b, o + j * 6 + i, none⟩ = some u := fun w hb i u hu => by
    have := hrg i u hu
    rw [Nat.zero_add] at this
    exact (hb.cell (hS b hSb)).trans this
  exact ⟨b, o, _, _, _, _, _, _, _, _, _, _, _, _, rfl, hS b hSb, fun w hb => ⟨hc w hb 0 _ rfl, hc w hb 1 _ rfl, hc w hb 2 _ rfl, hc w hb 3 _ rfl, hc w hb 4 _ rfl, hc w hb 5 _ rfl⟩, hx0⟩
/-- begin at texts that were just laid in a row. -/
theorem begin_at (base q : Nat) (w : World) (s : Sw) (lv : Nat) (hlv : lv ≤ 1000) (v : Value) (h : ShAt base q w s lv v) (ls : List (List Nat)) (cs : Array Value) (hcs : cs.toList = ls.map fun l => Value.string (strOf l)) (h8 : ∀ l ∈ ls, (∀ x ∈ l, x < 256) ∧ l.length ≤ 140737488355328) (hl : ls.length ≤ 1000) (k c i : Nat) (hk : ls.length = k) (hi : i = w.heap.size) :
    Calls Tryz.prog 120 #[at0 q, .slice (some ⟨i, 0, none⟩) k c] (w.alloc (.cells cs 9)) (OutS base q w (beginS lv ls s) lv) := by
  subst hi
  subst hk
  refine (beginL_any base q _ s lv hlv v (h.alloc _) ls _ (Txs.made h.lt ls cs hcs h8 hl c)).mono ?_
  rintro e w' ⟨rfl, hv, hk⟩
  exact ⟨rfl, hv, ((Ks.refl base q w).alloc (Nat.le_of_lt (Nat.lt_of_le_of_lt h.le h.lt)) _).trans hk⟩
set_option maxRecDepth 100000 in
set_option maxHeartbeats 4000000 in
/-- braces puts statements in lines of their own, and the braces. -/
theorem braces_any (W0 : World) (q : Nat) (S : Nat → Prop) (hS : ∀ b, S b → b < W0.heap.size) (lv : Nat) (hlv : lv ≤ 1000) (l : List Sm) (hl : ∀ y ∈ l, ShS W0 q S (lv + 1) y) (w : World) (s : Sw) (v x : Value) (h : ShAt W0.heap.size q w s lv v) (hb : Below W0.heap.size W0 w) (hx : Rd W0 S (.row 6 (l.map Sm.nd)) x) :
    Calls Tryz.prog 122 #[at0 q, x] w (OutS W0.heap.size q w (braceS lv l s) lv) := by
  rw [Rd] at hx
  obtain ⟨A, c, rfl, hc, hcm, hr⟩ := hx
  rw [List.length_map] at hc ⊢
  obtain ⟨B, hB⟩ : ∃ B, W0.heap.size = B := ⟨_, rfl⟩
  have HR := Lib.hid (fun j x hx => sm_all hr hS j x hx)
  obtain ⟨k1, hk1⟩ : ∃ k1, lv + 1 = k1 := ⟨_, rfl⟩
  have e1 : (lv : Int) + 1 = (k1 : Int) := by omega
  have e2 : (k1 : Int) - 1 = (lv : Int) := by omega
  have HL : Hid (∀ y ∈ l, ∀ (w : World) (s : Sw) (v e : Value), ShAt B q w s k1 v → Below B W0 w → Rd W0 S (Sm.nd y) e → Calls Tryz.prog 184 #[at0 q, e] w (OutS B q w (smS k1 y s) k1)) := Lib.hid (by
    subst hB
    subst hk1
    exact hl)
  unfold braceS
  rw [hk1]
  have hlv1 : k1 ≤ 1001 := by omega
  rw [hB] at h hb HR ⊢
  have hle := h.le
  have H := Lib.hid h
  have HB := Lib.hid hb
  have hqr := h.lt
  obtain ⟨n, hnn⟩ : ∃ n, Hid (l.length = n) := ⟨_, Lib.hid rfl⟩
  rw [hnn.out] at hc ⊢
  obtain ⟨R, hRR⟩ : ∃ R, Hid (smsS k1 l (putS s [32, 123, 10]) = R) := ⟨_, Lib.hid rfl⟩
  rw [hRR.out]
  have HP0 := Lib.hid (put_made B q w s lv v h [[32, 123, 10]] #[.string ⟨#[32, 123, 10]⟩] rfl (by simp) (by simp) 1 1 rfl)
  have HPE := Lib.hid (fun w' s' v' (h' : ShAt B q w' s' lv v') i (hi : i = w'.heap.size) => begin_at B q w' s' lv hlv v' h' [[125]] #[.string ⟨#[125]⟩] rfl (by simp) (by simp) 1 1 i rfl hi)
  unfold maxLen at hcm
  clear h hr hS hl hb hB hk1
  unfold at0 at *
  go_enter Tryz.func122, Tryz.ntmps122
  go_wp2_with (first
    | (go_at_call 123
       refine HP0.out.mono ?_
       rintro e w1 ⟨rfl, ⟨v1, hv1⟩, hk1⟩
       have HS1 := Lib.hid (hv1.setV (k := k1))
       have hqw : q < w1.heap.size := hv1.lt
       have HK1 := Lib.hid (hk1.set hle (by omega) 2 (.int .i64 (k1 : Int)))
       obtain ⟨⟨p0, p1, p2⟩, f0, f1, f2⟩ := bx3 hv1.h
       clear hv1 hk1)
    | (fail))
  clear p0 p1 p2 f0 f1 f2 hqw
  go_loopg [18] n (fun g i wr => ∃ (j : Nat) (sj : Sw) (vj : Value), j + g = n ∧ i = .int .i64 (j : Int) ∧ Hid (smsS k1 (l.drop j) sj = R) ∧ Hid (ShAt B q wr sj k1 vj) ∧ Hid (Ks B q w wr))
  case atStart => exact ⟨0, _, _, by omega, rfl, Lib.hid (by rw [List.drop_zero]; exact hRR.out), HS1, HK1⟩
  case round =>
    obtain ⟨j, sj, vj, hj, rfl, HF, HS, HK⟩ := hrel
    have hqw : q < wr.heap.size := HS.out.lt
    cases gk with
    | zero =>
      have h1 : ¬ (j : Int) < (n : Int) := by omega
      have HE : Hid (sj = R) := Lib.hid (by rw [← HF.out, List.drop_eq_nil_of_le (by rw [hnn.out]; omega), smsS])
      obtain ⟨⟨p0, p1, p2⟩, f0, f1, f2⟩ := bx3 HS.out.h
      have HS2 := Lib.hid (HS.out.setV (k := lv))
      have HK2 := Lib.hid (HK.out.set hle (by omega) 2 (.int .i64 (lv : Int)))
      clear HF HP0 HR HL
      go_wp2_with (first
        | (go_at_call 120
           refine (HPE.out _ _ _ HS2.out _ (by simp)).mono ?_
           rintro e w2 ⟨rfl, ⟨v2, hv2⟩, hk2⟩
           have HS3 := Lib.hid hv2
           have HK3 := Lib.hid (HK2.out.trans hk2)
           clear hv2 hk2)
        | (fail))
      go_end0
      exact ⟨rfl, ⟨_, by rw [← HE.out]; exact HS3.out⟩, HK3.out⟩
    | succ g =>
      have h1 : (j : Int) < (n : Int) := by omega
      have h2 : j < n := by omega
      have hjl : j < l.length := by rw [hnn.out]; exact h2
      have HBR := Lib.hid (HB.out.trans HK.out.b)
      obtain ⟨b, o, ek, es, A2, n2, c2, A3, n3, c3, A4, n4, c4, ln, rfl, hSb, hcell, hx⟩ := HR.out j l[j] (by simp [hjl])
      obtain ⟨y0, y1, y2, y3, y4, y5⟩ := hcell wr HBR.out
      have HD := Lib.hid (List.drop_eq_getElem_cons hjl)
      have HX := Lib.hid hx
      have HE := Lib.hid (HL.out l[j] (List.getElem_mem hjl))
      have HF2 : Hid (smsS k1 (l.drop (j + 1)) (smS k1 l[j] sj) = R) := Lib.hid (by rw [← HF.out, HD.out, smsS])
      have hbr : b < wr.heap.size := by have := HK.out.b.size; have := HB.out.size; omega
      have HQ := Lib.hid (heap_new wr (.cells #[.int .u8 ek, .string es, .slice A2 n2 c2, .slice A3 n3 c3, .slice A4 n4 c4, .int .i64 ln] 58))
      have HS2 := Lib.hid (HS.out.alloc (.cells #[.int .u8 ek, .string es, .slice A2 n2 c2, .slice A3 n3 c3, .slice A4 n4 c4, .int .i64 ln] 58))
      have HK2 := Lib.hid (HK.out.alloc (by omega) (.cells #[.int .u8 ek, .string es, .slice A2 n2 c2, .slice A3 n3 c3, .slice A4 n4 c4, .int .i64 ln] 58))
      obtain ⟨z0, z1, z2, z3, z4, z5⟩ := box6 HQ.out
      clear HF HD hx HP0 HPE HR HL hcell
      generalize l[j] = t at *
      clear hjl
      go_wp2_with (first
        | (go_at_call 184
           refine (HE.out _ _ _ _ HS2.out (HB.out.trans HK2.out.b) HX.out).mono ?_
           rintro e w3 ⟨rfl, ⟨v3, hv3⟩, hk3⟩
           have HS3 := Lib.hid hv3
           have HK3 := Lib.hid (HK2.out.trans hk3)
           clear hv3 hk3)
        | (fail))
      go_roundg g
      case measure => omega
      case rel => exact ⟨j + 1, _, _, by omega, by go_num, HF2, HS3, HK3⟩
end Go.Proofs.YteacmanbiamhoaaGreatDoor
namespace Go.Proofs.YteacmanbiamhoaaGreatDoor
open Go.RowKit
set_option linter.unusedVariables false

theorem ok3 {a l m : List Nat} (ha : (∀ x ∈ a, x < 256) ∧ a.length ≤ 140737488355328) (hl : (∀ x ∈ l, x < 256) ∧ l.length ≤ 140737488355328) (hm : (∀ x ∈ m, x < 256) ∧ m.length ≤ 140737488355328) : ∀ t ∈ [a, l, m], (∀ x ∈ t, x < 256) ∧ t.length ≤ 140737488355328 := by
  intro t ht
  simp at ht
  rcases ht with rfl | rfl | rfl
  · exact ha
  · exact hl
  · exact hm
/-- begin with nothing behind it. -/
theorem begin_nil (base q : Nat) (w : World) (s : Sw) (lv : Nat) (hlv : lv ≤ 1000) (v : Value) (h : ShAt base q w s lv v) :
    Calls Tryz.prog 120 #[at0 q, .slice none 0 0] w (OutS base q w (beginS lv [] s) lv) := beginL_any base q w s lv hlv v h [] _ (Txs.nil q w)
set_option maxRecDepth 100000 in
set_option maxHeartbeats 4000000 in
theorem stmt_1 (W0 : World) (B q : Nat) (m : List Nat) (xs : List Ex) (bb ee : List Sm) (ln : Int) (A2 A3 A4 : Option Addr) (n2 c2 n3 c3 n4 c4 : Nat) (w : World) (s : Sw) (lv : Nat) (hlv : lv ≤ 1000) (v : Value) (h8 : ∀ x ∈ m, x < 256) (hl8 : m.length ≤ 140737488355328) (h : ShAt B q w s lv v) (hb : Below B W0 w) (x0 : Ex) (b o : Nat) (ek : Int) (es : ByteArray) (em : Int) (kA : Option Addr) (kn kc : Nat) (k0 : ∀ w', Below B W0 w' → w'.cell? ⟨b, o, none⟩ = some (.int .u8 ek) ∧ w'.cell? ⟨b, o + 1, none⟩ = some (.string es) ∧ w'.cell? ⟨b, o + 2, none⟩ = some (.int .i64 em) ∧ w'.cell? ⟨b, o + 3, none⟩ = some (.slice kA kn kc)) (hX : ∀ (w : World) (s : Sw) (v : Value), ShAt B q w s lv v → Below B W0 w → Calls Tryz.prog 227 #[at0 q, .agg #[.int .u8 ek, .string es, .int .i64 em, .slice kA kn kc]] w (OutS B q w (exS x0 s) lv)) :
    Calls Tryz.prog 184 #[at0 q, .agg #[.int .u8 1, .string (strOf m), .slice (some ⟨b, o, none⟩) 1 c2, .slice A3 n3 c3, .slice A4 n4 c4, .int .i64 ln]] w (OutS B q w (putS (exS x0 (beginS lv [[108, 101, 116, 32], m, [32, 61, 32]] s)) [59, 10]) lv) := by
  have hle := h.le
  have hqr := h.lt
  have hbw : B ≤ w.heap.size := by omega
  have HB := Lib.hid hb
  have HQ0 := Lib.hid (heap_new w (.cells #[.int .u8 1, .string (strOf m), .slice (some ⟨b, o, none⟩) 1 c2, .slice A3 n3 c3, .slice A4 n4 c4, .int .i64 ln] 58))
  have HS0 := Lib.hid (h.alloc (.cells #[.int .u8 1, .string (strOf m), .slice (some ⟨b, o, none⟩) 1 c2, .slice A3 n3 c3, .slice A4 n4 c4, .int .i64 ln] 58))
  have HK0 := Lib.hid ((Ks.refl B q w).alloc hbw (.cells #[.int .u8 1, .string (strOf m), .slice (some ⟨b, o, none⟩) 1 c2, .slice A3 n3 c3, .slice A4 n4 c4, .int .i64 ln] 58))
  have hqn : ¬ w.heap.size = q := by omega
  have HX := Lib.hid hX
  have HC := Lib.hid k0
  clear hX k0
  have HG := Lib.hid (fun w' s' v' (h' : ShAt B q w' s' lv v') i (hi : i = w'.heap.size) => begin_at B q w' s' lv hlv v' h' [[108, 101, 116, 32], m, [32, 61, 32]] #[.string ⟨#[108, 101, 116, 32]⟩, .string (strOf m), .string ⟨#[32, 61, 32]⟩] rfl (ok3 (by simp) ⟨h8, hl8⟩ (by simp)) (by simp) 3 3 i rfl hi)
  have HE := Lib.hid (fun w' s' v' (h' : ShAt B q w' s' lv v') i (hi : i = w'.heap.size) => put_at B q w' s' lv v' h' [[59, 10]] #[.string ⟨#[59, 10]⟩] rfl (by simp) (by simp) 1 1 i rfl hi)
  obtain ⟨z0, z1, z2, z3, z4, z5⟩ := box6 HQ0.out
  clear h hb h8 hl8
  unfold at0 at *
  go_enter Tryz.func184, Tryz.ntmps184
  go_wp2_with (first
    | (go_at_call 120
       refine (HG.out _ _ _ HS0.out _ (by simp)).mono ?_
       rintro e w1 ⟨rfl, ⟨v1, hv1⟩, hk1⟩
       have HS1 := Lib.hid hv1
       have HK1 := Lib.hid (HK0.out.trans hk1)
       have HQ1 := Lib.hid (hk1.o.heap HQ0.out hqn (by decide))
       obtain ⟨a10, a11, a12, a13, a14, a15⟩ := box6 HQ1.out
       obtain ⟨p0, p1, p2, p3⟩ := HC.out w1 (HB.out.trans HK1.out.b)
       clear hv1 hk1)
    | (go_at_call 227
       refine (HX.out _ _ _ HS1.out (HB.out.trans HK1.out.b)).mono ?_
       rintro e w2 ⟨rfl, ⟨v2, hv2⟩, hk2⟩
       have HS2 := Lib.hid hv2
       have HK2 := Lib.hid (HK1.out.trans hk2)
       have HQ2 := Lib.hid (hk2.o.heap HQ1.out hqn (by decide))
       obtain ⟨a20, a21, a22, a23, a24, a25⟩ := box6 HQ2.out
       clear hv2 hk2)
    | (go_at_call 123
       refine (HE.out _ _ _ HS2.out _ rfl).mono ?_
       rintro e w3 ⟨rfl, ⟨v3, hv3⟩, hk3⟩
       have HS3 := Lib.hid hv3
       have HK3 := Lib.hid (HK2.out.trans hk3)
       have HQ3 := Lib.hid (hk3.o.heap HQ2.out hqn (by decide))
       obtain ⟨a30, a31, a32, a33, a34, a35⟩ := box6 HQ3.out
       clear hv3 hk3)
    | (fail))
  go_end0
  exact ⟨rfl, ⟨_, HS3.out⟩, HK3.out⟩
set_option maxRecDepth 100000 in
set_option maxHeartbeats 4000000 in
theorem stmt_2 (W0 : World) (B q : Nat) (m : List Nat) (xs : List Ex) (bb ee : List Sm) (ln : Int) (A2 A3 A4 : Option Addr) (n2 c2 n3 c3 n4 c4 : Nat) (w : World) (s : Sw) (lv : Nat) (hlv : lv ≤ 1000) (v : Value) (h8 : ∀ x ∈ m, x < 256) (hl8 : m.length ≤ 140737488355328) (h : ShAt B q w s lv v) (hb : Below B W0 w) (x0 : Ex) (b o : Nat) (ek : Int) (es : ByteArray) (em : Int) (kA : Option Addr) (kn kc : Nat) (k0 : ∀ w', Below B W0 w' → w'.cell? ⟨b, o, none⟩ = some (.int .u8 ek) ∧ w'.cell? ⟨b, o + 1, none⟩ = some (.string es) ∧ w'.cell? ⟨b, o + 2, none⟩ = some (.int .i64 em) ∧ w'.cell? ⟨b, o + 3, none⟩ = some (.slice kA kn kc)) (hX : ∀ (w : World) (s : Sw) (v : Value), ShAt B q w s lv v → Below B W0 w → Calls Tryz.prog 227 #[at0 q, .agg #[.int .u8 ek, .string es, .int .i64 em, .slice kA kn kc]] w (OutS B q w (exS x0 s) lv)) :
    Calls Tryz.prog 184 #[at0 q, .agg #[.int .u8 2, .string (strOf m), .slice (some ⟨b, o, none⟩) 1 c2, .slice A3 n3 c3, .slice A4 n4 c4, .int .i64 ln]] w (OutS B q w (putS (exS x0 (beginS lv [[115, 101, 116, 32], m, [32, 61, 32]] s)) [59, 10]) lv) := by
  have hle := h.le
  have hqr := h.lt
  have hbw : B ≤ w.heap.size := by omega
  have HB := Lib.hid hb
  have HQ0 := Lib.hid (heap_new w (.cells #[.int .u8 2, .string (strOf m), .slice (some ⟨b, o, none⟩) 1 c2, .slice A3 n3 c3, .slice A4 n4 c4, .int .i64 ln] 58))
  have HS0 := Lib.hid (h.alloc (.cells #[.int .u8 2, .string (strOf m), .slice (some ⟨b, o, none⟩) 1 c2, .slice A3 n3 c3, .slice A4 n4 c4, .int .i64 ln] 58))
  have HK0 := Lib.hid ((Ks.refl B q w).alloc hbw (.cells #[.int .u8 2, .string (strOf m), .slice (some ⟨b, o, none⟩) 1 c2, .slice A3 n3 c3, .slice A4 n4 c4, .int .i64 ln] 58))
  have hqn : ¬ w.heap.size = q := by omega
  have HX := Lib.hid hX
  have HC := Lib.hid k0
  clear hX k0
  have HG := Lib.hid (fun w' s' v' (h' : ShAt B q w' s' lv v') i (hi : i = w'.heap.size) => begin_at B q w' s' lv hlv v' h' [[115, 101, 116, 32], m, [32, 61, 32]] #[.string ⟨#[115, 101, 116, 32]⟩, .string (strOf m), .string ⟨#[32, 61, 32]⟩] rfl (ok3 (by simp) ⟨h8, hl8⟩ (by simp)) (by simp) 3 3 i rfl hi)
  have HE := Lib.hid (fun w' s' v' (h' : ShAt B q w' s' lv v') i (hi : i = w'.heap.size) => put_at B q w' s' lv v' h' [[59, 10]] #[.string ⟨#[59, 10]⟩] rfl (by simp) (by simp) 1 1 i rfl hi)
  obtain ⟨z0, z1, z2, z3, z4, z5⟩ := box6 HQ0.out
  clear h hb h8 hl8
  unfold at0 at *
  go_enter Tryz.func184, Tryz.ntmps184
  go_wp2_with (first
    | (go_at_call 120
       refine (HG.out _ _ _ HS0.out _ (by simp)).mono ?_
       rintro e w1 ⟨rfl, ⟨v1, hv1⟩, hk1⟩
       have HS1 := Lib.hid hv1
       have HK1 := Lib.hid (HK0.out.trans hk1)
       have HQ1 := Lib.hid (hk1.o.heap HQ0.out hqn (by decide))
       obtain ⟨a10, a11, a12, a13, a14, a15⟩ := box6 HQ1.out
       obtain ⟨p0, p1, p2, p3⟩ := HC.out w1 (HB.out.trans HK1.out.b)
       clear hv1 hk1)
    | (go_at_call 227
       refine (HX.out _ _ _ HS1.out (HB.out.trans HK1.out.b)).mono ?_
       rintro e w2 ⟨rfl, ⟨v2, hv2⟩, hk2⟩
       have HS2 := Lib.hid hv2
       have HK2 := Lib.hid (HK1.out.trans hk2)
       have HQ2 := Lib.hid (hk2.o.heap HQ1.out hqn (by decide))
       obtain ⟨a20, a21, a22, a23, a24, a25⟩ := box6 HQ2.out
       clear hv2 hk2)
    | (go_at_call 123
       refine (HE.out _ _ _ HS2.out _ rfl).mono ?_
       rintro e w3 ⟨rfl, ⟨v3, hv3⟩, hk3⟩
       have HS3 := Lib.hid hv3
       have HK3 := Lib.hid (HK2.out.trans hk3)
       have HQ3 := Lib.hid (hk3.o.heap HQ2.out hqn (by decide))
       obtain ⟨a30, a31, a32, a33, a34, a35⟩ := box6 HQ3.out
       clear hv3 hk3)
    | (fail))
  go_end0
  exact ⟨rfl, ⟨_, HS3.out⟩, HK3.out⟩
set_option maxRecDepth 100000 in
set_option maxHeartbeats 4000000 in
theorem stmt_5 (W0 : World) (B q : Nat) (m : List Nat) (xs : List Ex) (bb ee : List Sm) (ln : Int) (A2 A3 A4 : Option Addr) (n2 c2 n3 c3 n4 c4 : Nat) (w : World) (s : Sw) (lv : Nat) (hlv : lv ≤ 1000) (v : Value) (h8 : ∀ x ∈ m, x < 256) (hl8 : m.length ≤ 140737488355328) (h : ShAt B q w s lv v) (hb : Below B W0 w) (x0 : Ex) (b o : Nat) (ek : Int) (es : ByteArray) (em : Int) (kA : Option Addr) (kn kc : Nat) (k0 : ∀ w', Below B W0 w' → w'.cell? ⟨b, o, none⟩ = some (.int .u8 ek) ∧ w'.cell? ⟨b, o + 1, none⟩ = some (.string es) ∧ w'.cell? ⟨b, o + 2, none⟩ = some (.int .i64 em) ∧ w'.cell? ⟨b, o + 3, none⟩ = some (.slice kA kn kc)) (hX : ∀ (w : World) (s : Sw) (v : Value), ShAt B q w s lv v → Below B W0 w → Calls Tryz.prog 227 #[at0 q, .agg #[.int .u8 ek, .string es, .int .i64 em, .slice kA kn kc]] w (OutS B q w (exS x0 s) lv)) :
    Calls Tryz.prog 184 #[at0 q, .agg #[.int .u8 5, .string (strOf m), .slice (some ⟨b, o, none⟩) 1 c2, .slice A3 n3 c3, .slice A4 n4 c4, .int .i64 ln]] w (OutS B q w (putS (exS x0 (beginS lv [[114, 101, 116, 117, 114, 110, 32]] s)) [59, 10]) lv) := by
  have hle := h.le
  have hqr := h.lt
  have hbw : B ≤ w.heap.size := by omega
  have HB := Lib.hid hb
  have HQ0 := Lib.hid (heap_new w (.cells #[.int .u8 5, .string (strOf m), .slice (some ⟨b, o, none⟩) 1 c2, .slice A3 n3 c3, .slice A4 n4 c4, .int .i64 ln] 58))
  have HS0 := Lib.hid (h.alloc (.cells #[.int .u8 5, .string (strOf m), .slice (some ⟨b, o, none⟩) 1 c2, .slice A3 n3 c3, .slice A4 n4 c4, .int .i64 ln] 58))
  have HK0 := Lib.hid ((Ks.refl B q w).alloc hbw (.cells #[.int .u8 5, .string (strOf m), .slice (some ⟨b, o, none⟩) 1 c2, .slice A3 n3 c3, .slice A4 n4 c4, .int .i64 ln] 58))
  have hqn : ¬ w.heap.size = q := by omega
  have HX := Lib.hid hX
  have HC := Lib.hid k0
  clear hX k0
  have HG := Lib.hid (fun w' s' v' (h' : ShAt B q w' s' lv v') i (hi : i = w'.heap.size) => begin_at B q w' s' lv hlv v' h' [[114, 101, 116, 117, 114, 110, 32]] #[.string ⟨#[114, 101, 116, 117, 114, 110, 32]⟩] rfl (by simp) (by simp) 1 1 i rfl hi)
  have HE := Lib.hid (fun w' s' v' (h' : ShAt B q w' s' lv v') i (hi : i = w'.heap.size) => put_at B q w' s' lv v' h' [[59, 10]] #[.string ⟨#[59, 10]⟩] rfl (by simp) (by simp) 1 1 i rfl hi)
  obtain ⟨z0, z1, z2, z3, z4, z5⟩ := box6 HQ0.out
  clear h hb h8 hl8
  unfold at0 at *
  go_enter Tryz.func184, Tryz.ntmps184
  go_wp2_with (first
    | (go_at_call 120
       refine (HG.out _ _ _ HS0.out _ (by simp)).mono ?_
       rintro e w1 ⟨rfl, ⟨v1, hv1⟩, hk1⟩
       have HS1 := Lib.hid hv1
       have HK1 := Lib.hid (HK0.out.trans hk1)
       have HQ1 := Lib.hid (hk1.o.heap HQ0.out hqn (by decide))
       obtain ⟨a10, a11, a12, a13, a14, a15⟩ := box6 HQ1.out
       obtain ⟨p0, p1, p2, p3⟩ := HC.out w1 (HB.out.trans HK1.out.b)
       clear hv1 hk1)
    | (go_at_call 227
       refine (HX.out _ _ _ HS1.out (HB.out.trans HK1.out.b)).mono ?_
       rintro e w2 ⟨rfl, ⟨v2, hv2⟩, hk2⟩
       have HS2 := Lib.hid hv2
       have HK2 := Lib.hid (HK1.out.trans hk2)
       have HQ2 := Lib.hid (hk2.o.heap HQ1.out hqn (by decide))
       obtain ⟨a20, a21, a22, a23, a24, a25⟩ := box6 HQ2.out
       clear hv2 hk2)
    | (go_at_call 123
       refine (HE.out _ _ _ HS2.out _ rfl).mono ?_
       rintro e w3 ⟨rfl, ⟨v3, hv3⟩, hk3⟩
       have HS3 := Lib.hid hv3
       have HK3 := Lib.hid (HK2.out.trans hk3)
       have HQ3 := Lib.hid (hk3.o.heap HQ2.out hqn (by decide))
       obtain ⟨a30, a31, a32, a33, a34, a35⟩ := box6 HQ3.out
       clear hv3 hk3)
    | (fail))
  go_end0
  exact ⟨rfl, ⟨_, HS3.out⟩, HK3.out⟩
set_option maxRecDepth 100000 in
set_option maxHeartbeats 4000000 in
theorem stmt_9 (W0 : World) (B q : Nat) (m : List Nat) (xs : List Ex) (bb ee : List Sm) (ln : Int) (A2 A3 A4 : Option Addr) (n2 c2 n3 c3 n4 c4 : Nat) (w : World) (s : Sw) (lv : Nat) (hlv : lv ≤ 1000) (v : Value) (h8 : ∀ x ∈ m, x < 256) (hl8 : m.length ≤ 140737488355328) (h : ShAt B q w s lv v) (hb : Below B W0 w) (x0 : Ex) (b o : Nat) (ek : Int) (es : ByteArray) (em : Int) (kA : Option Addr) (kn kc : Nat) (k0 : ∀ w', Below B W0 w' → w'.cell? ⟨b, o, none⟩ = some (.int .u8 ek) ∧ w'.cell? ⟨b, o + 1, none⟩ = some (.string es) ∧ w'.cell? ⟨b, o + 2, none⟩ = some (.int .i64 em) ∧ w'.cell? ⟨b, o + 3, none⟩ = some (.slice kA kn kc)) (hX : ∀ (w : World) (s : Sw) (v : Value), ShAt B q w s lv v → Below B W0 w → Calls Tryz.prog 227 #[at0 q, .agg #[.int .u8 ek, .string es, .int .i64 em, .slice kA kn kc]] w (OutS B q w (exS x0 s) lv)) :
    Calls Tryz.prog 184 #[at0 q, .agg #[.int .u8 9, .string (strOf m), .slice (some ⟨b, o, none⟩) 1 c2, .slice A3 n3 c3, .slice A4 n4 c4, .int .i64 ln]] w (OutS B q w (putS (exS x0 (beginS lv [] s)) [59, 10]) lv) := by
  have hle := h.le
  have hqr := h.lt
  have hbw : B ≤ w.heap.size := by omega
  have HB := Lib.hid hb
  have HQ0 := Lib.hid (heap_new w (.cells #[.int .u8 9, .string (strOf m), .slice (some ⟨b, o, none⟩) 1 c2, .slice A3 n3 c3, .slice A4 n4 c4, .int .i64 ln] 58))
  have HS0 := Lib.hid (h.alloc (.cells #[.int .u8 9, .string (strOf m), .slice (some ⟨b, o, none⟩) 1 c2, .slice A3 n3 c3, .slice A4 n4 c4, .int .i64 ln] 58))
  have HK0 := Lib.hid ((Ks.refl B q w).alloc hbw (.cells #[.int .u8 9, .string (strOf m), .slice (some ⟨b, o, none⟩) 1 c2, .slice A3 n3 c3, .slice A4 n4 c4, .int .i64 ln] 58))
  have hqn : ¬ w.heap.size = q := by omega
  have HX := Lib.hid hX
  have HC := Lib.hid k0
  clear hX k0
  have HG := Lib.hid (fun w' s' v' (h' : ShAt B q w' s' lv v') => begin_nil B q w' s' lv hlv v' h')
  have HE := Lib.hid (fun w' s' v' (h' : ShAt B q w' s' lv v') i (hi : i = w'.heap.size) => put_at B q w' s' lv v' h' [[59, 10]] #[.string ⟨#[59, 10]⟩] rfl (by simp) (by simp) 1 1 i rfl hi)
  obtain ⟨z0, z1, z2, z3, z4, z5⟩ := box6 HQ0.out
  clear h hb h8 hl8
  unfold at0 at *
  go_enter Tryz.func184, Tryz.ntmps184
  go_wp2_with (first
    | (go_at_call 120
       refine (HG.out _ _ _ HS0.out).mono ?_
       rintro e w1 ⟨rfl, ⟨v1, hv1⟩, hk1⟩
       have HS1 := Lib.hid hv1
       have HK1 := Lib.hid (HK0.out.trans hk1)
       have HQ1 := Lib.hid (hk1.o.heap HQ0.out hqn (by decide))
       obtain ⟨a10, a11, a12, a13, a14, a15⟩ := box6 HQ1.out
       obtain ⟨p0, p1, p2, p3⟩ := HC.out w1 (HB.out.trans HK1.out.b)
       clear hv1 hk1)
    | (go_at_call 227
       refine (HX.out _ _ _ HS1.out (HB.out.trans HK1.out.b)).mono ?_
       rintro e w2 ⟨rfl, ⟨v2, hv2⟩, hk2⟩
       have HS2 := Lib.hid hv2
       have HK2 := Lib.hid (HK1.out.trans hk2)
       have HQ2 := Lib.hid (hk2.o.heap HQ1.out hqn (by decide))
       obtain ⟨a20, a21, a22, a23, a24, a25⟩ := box6 HQ2.out
       clear hv2 hk2)
    | (go_at_call 123
       refine (HE.out _ _ _ HS2.out _ rfl).mono ?_
       rintro e w3 ⟨rfl, ⟨v3, hv3⟩, hk3⟩
       have HS3 := Lib.hid hv3
       have HK3 := Lib.hid (HK2.out.trans hk3)
       have HQ3 := Lib.hid (hk3.o.heap HQ2.out hqn (by decide))
       obtain ⟨a30, a31, a32, a33, a34, a35⟩ := box6 HQ3.out
       clear hv3 hk3)
    | (fail))
  go_end0
  exact ⟨rfl, ⟨_, HS3.out⟩, HK3.out⟩
set_option maxRecDepth 100000 in
set_option maxHeartbeats 4000000 in
theorem stmt_8 (W0 : World) (B q : Nat) (m : List Nat) (xs : List Ex) (bb ee : List Sm) (ln : Int) (A2 A3 A4 : Option Addr) (n2 c2 n3 c3 n4 c4 : Nat) (w : World) (s : Sw) (lv : Nat) (hlv : lv ≤ 1000) (v : Value) (h8 : ∀ x ∈ m, x < 256) (hl8 : m.length ≤ 140737488355328) (h : ShAt B q w s lv v) (hb : Below B W0 w)  :
    Calls Tryz.prog 184 #[at0 q, .agg #[.int .u8 8, .string (strOf m), .slice A2 n2 c2, .slice A3 n3 c3, .slice A4 n4 c4, .int .i64 ln]] w (OutS B q w (putS (beginS lv [[115, 116, 111, 112]] s) [59, 10]) lv) := by
  have hle := h.le
  have hqr := h.lt
  have hbw : B ≤ w.heap.size := by omega
  have HB := Lib.hid hb
  have HQ0 := Lib.hid (heap_new w (.cells #[.int .u8 8, .string (strOf m), .slice A2 n2 c2, .slice A3 n3 c3, .slice A4 n4 c4, .int .i64 ln] 58))
  have HS0 := Lib.hid (h.alloc (.cells #[.int .u8 8, .string (strOf m), .slice A2 n2 c2, .slice A3 n3 c3, .slice A4 n4 c4, .int .i64 ln] 58))
  have HK0 := Lib.hid ((Ks.refl B q w).alloc hbw (.cells #[.int .u8 8, .string (strOf m), .slice A2 n2 c2, .slice A3 n3 c3, .slice A4 n4 c4, .int .i64 ln] 58))
  have hqn : ¬ w.heap.size = q := by omega
  have HG := Lib.hid (fun w' s' v' (h' : ShAt B q w' s' lv v') i (hi : i = w'.heap.size) => begin_at B q w' s' lv hlv v' h' [[115, 116, 111, 112]] #[.string ⟨#[115, 116, 111, 112]⟩] rfl (by simp) (by simp) 1 1 i rfl hi)
  have HE := Lib.hid (fun w' s' v' (h' : ShAt B q w' s' lv v') i (hi : i = w'.heap.size) => put_at B q w' s' lv v' h' [[59, 10]] #[.string ⟨#[59, 10]⟩] rfl (by simp) (by simp) 1 1 i rfl hi)
  obtain ⟨z0, z1, z2, z3, z4, z5⟩ := box6 HQ0.out
  clear h hb h8 hl8
  unfold at0 at *
  go_enter Tryz.func184, Tryz.ntmps184
  go_wp2_with (first
    | (go_at_call 120
       refine (HG.out _ _ _ HS0.out _ (by simp)).mono ?_
       rintro e w1 ⟨rfl, ⟨v1, hv1⟩, hk1⟩
       have HS1 := Lib.hid hv1
       have HK1 := Lib.hid (HK0.out.trans hk1)
       have HQ1 := Lib.hid (hk1.o.heap HQ0.out hqn (by decide))
       obtain ⟨a10, a11, a12, a13, a14, a15⟩ := box6 HQ1.out
       clear hv1 hk1)
    | (go_at_call 123
       refine (HE.out _ _ _ HS1.out _ rfl).mono ?_
       rintro e w2 ⟨rfl, ⟨v2, hv2⟩, hk2⟩
       have HS2 := Lib.hid hv2
       have HK2 := Lib.hid (HK1.out.trans hk2)
       have HQ2 := Lib.hid (hk2.o.heap HQ1.out hqn (by decide))
       obtain ⟨a20, a21, a22, a23, a24, a25⟩ := box6 HQ2.out
       clear hv2 hk2)
    | (fail))
  go_end0
  exact ⟨rfl, ⟨_, HS2.out⟩, HK2.out⟩
set_option maxRecDepth 100000 in
set_option maxHeartbeats 4000000 in
theorem stmt_7 (W0 : World) (B q : Nat) (m : List Nat) (xs : List Ex) (bb ee : List Sm) (ln : Int) (A2 A3 A4 : Option Addr) (n2 c2 n3 c3 n4 c4 : Nat) (w : World) (s : Sw) (lv : Nat) (hlv : lv ≤ 1000) (v : Value) (h8 : ∀ x ∈ m, x < 256) (hl8 : m.length ≤ 140737488355328) (h : ShAt B q w s lv v) (hb : Below B W0 w) (hL : ∀ (w : World) (s : Sw) (v : Value), ShAt B q w s lv v → Below B W0 w → Calls Tryz.prog 230 #[at0 q, .slice A2 n2 c2] w (OutS B q w (listS xs s) lv)) :
    Calls Tryz.prog 184 #[at0 q, .agg #[.int .u8 7, .string (strOf m), .slice A2 n2 c2, .slice A3 n3 c3, .slice A4 n4 c4, .int .i64 ln]] w (OutS B q w (putS (listS xs (beginS lv [[98, 101, 99, 111, 109, 101, 32], m] s)) [59, 10]) lv) := by
  have hle := h.le
  have hqr := h.lt
  have hbw : B ≤ w.heap.size := by omega
  have HB := Lib.hid hb
  have HQ0 := Lib.hid (heap_new w (.cells #[.int .u8 7, .string (strOf m), .slice A2 n2 c2, .slice A3 n3 c3, .slice A4 n4 c4, .int .i64 ln] 58))
  have HS0 := Lib.hid (h.alloc (.cells #[.int .u8 7, .string (strOf m), .slice A2 n2 c2, .slice A3 n3 c3, .slice A4 n4 c4, .int .i64 ln] 58))
  have HK0 := Lib.hid ((Ks.refl B q w).alloc hbw (.cells #[.int .u8 7, .string (strOf m), .slice A2 n2 c2, .slice A3 n3 c3, .slice A4 n4 c4, .int .i64 ln] 58))
  have hqn : ¬ w.heap.size = q := by omega
  have HL := Lib.hid hL
  clear hL
  have HG := Lib.hid (fun w' s' v' (h' : ShAt B q w' s' lv v') i (hi : i = w'.heap.size) => begin_at B q w' s' lv hlv v' h' [[98, 101, 99, 111, 109, 101, 32], m] #[.string ⟨#[98, 101, 99, 111, 109, 101, 32]⟩, .string (strOf m)] rfl (ok2 (by simp) (by simp) h8 hl8) (by simp) 2 2 i rfl hi)
  have HE := Lib.hid (fun w' s' v' (h' : ShAt B q w' s' lv v') i (hi : i = w'.heap.size) => put_at B q w' s' lv v' h' [[59, 10]] #[.string ⟨#[59, 10]⟩] rfl (by simp) (by simp) 1 1 i rfl hi)
  obtain ⟨z0, z1, z2, z3, z4, z5⟩ := box6 HQ0.out
  clear h hb h8 hl8
  unfold at0 at *
  go_enter Tryz.func184, Tryz.ntmps184
  go_wp2_with (first
    | (go_at_call 120
       refine (HG.out _ _ _ HS0.out _ (by simp)).mono ?_
       rintro e w1 ⟨rfl, ⟨v1, hv1⟩, hk1⟩
       have HS1 := Lib.hid hv1
       have HK1 := Lib.hid (HK0.out.trans hk1)
       have HQ1 := Lib.hid (hk1.o.heap HQ0.out hqn (by decide))
       obtain ⟨a10, a11, a12, a13, a14, a15⟩ := box6 HQ1.out
       clear hv1 hk1)
    | (go_at_call 230
       refine (HL.out _ _ _ HS1.out (HB.out.trans HK1.out.b)).mono ?_
       rintro e w2 ⟨rfl, ⟨v2, hv2⟩, hk2⟩
       have HS2 := Lib.hid hv2
       have HK2 := Lib.hid (HK1.out.trans hk2)
       have HQ2 := Lib.hid (hk2.o.heap HQ1.out hqn (by decide))
       obtain ⟨a20, a21, a22, a23, a24, a25⟩ := box6 HQ2.out
       clear hv2 hk2)
    | (go_at_call 123
       refine (HE.out _ _ _ HS2.out _ rfl).mono ?_
       rintro e w3 ⟨rfl, ⟨v3, hv3⟩, hk3⟩
       have HS3 := Lib.hid hv3
       have HK3 := Lib.hid (HK2.out.trans hk3)
       have HQ3 := Lib.hid (hk3.o.heap HQ2.out hqn (by decide))
       obtain ⟨a30, a31, a32, a33, a34, a35⟩ := box6 HQ3.out
       clear hv3 hk3)
    | (fail))
  go_end0
  exact ⟨rfl, ⟨_, HS3.out⟩, HK3.out⟩
set_option maxRecDepth 100000 in
set_option maxHeartbeats 4000000 in
theorem stmt_3 (W0 : World) (B q : Nat) (m : List Nat) (xs : List Ex) (bb ee : List Sm) (ln : Int) (A2 A3 A4 : Option Addr) (n2 c2 n3 c3 n4 c4 : Nat) (w : World) (s : Sw) (lv : Nat) (hlv : lv ≤ 1000) (v : Value) (h8 : ∀ x ∈ m, x < 256) (hl8 : m.length ≤ 140737488355328) (h : ShAt B q w s lv v) (hb : Below B W0 w) (R : Sw → Sw) (hR : ∀ (w : World) (s : Sw) (v : Value), ShAt B q w s lv v → Below B W0 w → Calls Tryz.prog 228 #[at0 q, .agg #[.int .u8 3, .string (strOf m), .slice A2 n2 c2, .slice A3 n3 c3, .slice A4 n4 c4, .int .i64 ln]] w (OutS B q w (R s) lv)) :
    Calls Tryz.prog 184 #[at0 q, .agg #[.int .u8 3, .string (strOf m), .slice A2 n2 c2, .slice A3 n3 c3, .slice A4 n4 c4, .int .i64 ln]] w (OutS B q w (R s) lv) := by
  have hle := h.le
  have hqr := h.lt
  have hbw : B ≤ w.heap.size := by omega
  have HB := Lib.hid hb
  have HQ0 := Lib.hid (heap_new w (.cells #[.int .u8 3, .string (strOf m), .slice A2 n2 c2, .slice A3 n3 c3, .slice A4 n4 c4, .int .i64 ln] 58))
  have HS0 := Lib.hid (h.alloc (.cells #[.int .u8 3, .string (strOf m), .slice A2 n2 c2, .slice A3 n3 c3, .slice A4 n4 c4, .int .i64 ln] 58))
  have HK0 := Lib.hid ((Ks.refl B q w).alloc hbw (.cells #[.int .u8 3, .string (strOf m), .slice A2 n2 c2, .slice A3 n3 c3, .slice A4 n4 c4, .int .i64 ln] 58))
  have hqn : ¬ w.heap.size = q := by omega
  have HR := Lib.hid hR
  clear hR
  obtain ⟨z0, z1, z2, z3, z4, z5⟩ := box6 HQ0.out
  clear h hb h8 hl8
  unfold at0 at *
  go_enter Tryz.func184, Tryz.ntmps184
  go_wp2_with (first
    | (go_at_call 228
       refine (HR.out _ _ _ HS0.out (HB.out.trans HK0.out.b)).mono ?_
       rintro e w1 ⟨rfl, ⟨v1, hv1⟩, hk1⟩
       have HS1 := Lib.hid hv1
       have HK1 := Lib.hid (HK0.out.trans hk1)
       have HQ1 := Lib.hid (hk1.o.heap HQ0.out hqn (by decide))
       obtain ⟨a10, a11, a12, a13, a14, a15⟩ := box6 HQ1.out
       clear hv1 hk1)
    | (fail))
  go_end0
  exact ⟨rfl, ⟨_, HS1.out⟩, HK1.out⟩
set_option maxRecDepth 100000 in
set_option maxHeartbeats 4000000 in
theorem stmt_4 (W0 : World) (B q : Nat) (m : List Nat) (xs : List Ex) (bb ee : List Sm) (ln : Int) (A2 A3 A4 : Option Addr) (n2 c2 n3 c3 n4 c4 : Nat) (w : World) (s : Sw) (lv : Nat) (hlv : lv ≤ 1000) (v : Value) (h8 : ∀ x ∈ m, x < 256) (hl8 : m.length ≤ 140737488355328) (h : ShAt B q w s lv v) (hb : Below B W0 w) (R : Sw → Sw) (hR : ∀ (w : World) (s : Sw) (v : Value), ShAt B q w s lv v → Below B W0 w → Calls Tryz.prog 228 #[at0 q, .agg #[.int .u8 4, .string (strOf m), .slice A2 n2 c2, .slice A3 n3 c3, .slice A4 n4 c4, .int .i64 ln]] w (OutS B q w (R s) lv)) :
    Calls Tryz.prog 184 #[at0 q, .agg #[.int .u8 4, .string (strOf m), .slice A2 n2 c2, .slice A3 n3 c3, .slice A4 n4 c4, .int .i64 ln]] w (OutS B q w (R s) lv) := by
  have hle := h.le
  have hqr := h.lt
  have hbw : B ≤ w.heap.size := by omega
  have HB := Lib.hid hb
  have HQ0 := Lib.hid (heap_new w (.cells #[.int .u8 4, .string (strOf m), .slice A2 n2 c2, .slice A3 n3 c3, .slice A4 n4 c4, .int .i64 ln] 58))
  have HS0 := Lib.hid (h.alloc (.cells #[.int .u8 4, .string (strOf m), .slice A2 n2 c2, .slice A3 n3 c3, .slice A4 n4 c4, .int .i64 ln] 58))
  have HK0 := Lib.hid ((Ks.refl B q w).alloc hbw (.cells #[.int .u8 4, .string (strOf m), .slice A2 n2 c2, .slice A3 n3 c3, .slice A4 n4 c4, .int .i64 ln] 58))
  have hqn : ¬ w.heap.size = q := by omega
  have HR := Lib.hid hR
  clear hR
  obtain ⟨z0, z1, z2, z3, z4, z5⟩ := box6 HQ0.out
  clear h hb h8 hl8
  unfold at0 at *
  go_enter Tryz.func184, Tryz.ntmps184
  go_wp2_with (first
    | (go_at_call 228
       refine (HR.out _ _ _ HS0.out (HB.out.trans HK0.out.b)).mono ?_
       rintro e w1 ⟨rfl, ⟨v1, hv1⟩, hk1⟩
       have HS1 := Lib.hid hv1
       have HK1 := Lib.hid (HK0.out.trans hk1)
       have HQ1 := Lib.hid (hk1.o.heap HQ0.out hqn (by decide))
       obtain ⟨a10, a11, a12, a13, a14, a15⟩ := box6 HQ1.out
       clear hv1 hk1)
    | (fail))
  go_end0
  exact ⟨rfl, ⟨_, HS1.out⟩, HK1.out⟩
end Go.Proofs.YteacmanbiamhoaaGreatDoor
namespace Go.Proofs.YteacmanbiamhoaaGreatDoor
open Go.RowKit
set_option linter.unusedVariables false

set_option maxRecDepth 100000 in
set_option maxHeartbeats 4000000 in
theorem stmt_6 (W0 : World) (B q : Nat) (m : List Nat) (xs : List Ex) (bb ee : List Sm) (ln : Int) (A2 A3 A4 : Option Addr) (n2 c2 n3 c3 n4 c4 : Nat) (w : World) (s : Sw) (lv : Nat) (hlv : lv ≤ 1000) (v : Value) (h8 : ∀ x ∈ m, x < 256) (hl8 : m.length ≤ 140737488355328) (h : ShAt B q w s lv v) (hb : Below B W0 w) (x0 : Ex) (b o : Nat) (ek : Int) (es : ByteArray) (em : Int) (kA : Option Addr) (kn kc : Nat) (k0 : ∀ w', Below B W0 w' → w'.cell? ⟨b, o, none⟩ = some (.int .u8 ek) ∧ w'.cell? ⟨b, o + 1, none⟩ = some (.string es) ∧ w'.cell? ⟨b, o + 2, none⟩ = some (.int .i64 em) ∧ w'.cell? ⟨b, o + 3, none⟩ = some (.slice kA kn kc)) (t : Nat) (htc : t + 1 ≤ c2) (hcm : c2 ≤ 9223372036854775807) (hc1 : ¬ c2 = 1) (hX : ∀ (w : World) (s : Sw) (v : Value), ShAt B q w s lv v → Below B W0 w → Calls Tryz.prog 229 #[at0 q, .agg #[.int .u8 ek, .string es, .int .i64 em, .slice kA kn kc]] w (OutS B q w (partS x0 s) lv)) (hL : ∀ (w : World) (s : Sw) (v : Value), ShAt B q w s lv v → Below B W0 w → Calls Tryz.prog 230 #[at0 q, .slice (some ⟨b, o + 4, none⟩) t (c2 - 1)] w (OutS B q w (listS xs s) lv)) :
    Calls Tryz.prog 184 #[at0 q, .agg #[.int .u8 6, .string (strOf m), .slice (some ⟨b, o, none⟩) (t + 1) c2, .slice A3 n3 c3, .slice A4 n4 c4, .int .i64 ln]] w (OutS B q w (putS (listS xs (putsS (partS x0 (beginS lv [[115, 101, 110, 100, 32]] s)) [[32], m])) [59, 10]) lv) := by
  have hle := h.le
  have hqr := h.lt
  have hbw : B ≤ w.heap.size := by omega
  have HB := Lib.hid hb
  have HQ0 := Lib.hid (heap_new w (.cells #[.int .u8 6, .string (strOf m), .slice (some ⟨b, o, none⟩) (t + 1) c2, .slice A3 n3 c3, .slice A4 n4 c4, .int .i64 ln] 58))
  have HS0 := Lib.hid (h.alloc (.cells #[.int .u8 6, .string (strOf m), .slice (some ⟨b, o, none⟩) (t + 1) c2, .slice A3 n3 c3, .slice A4 n4 c4, .int .i64 ln] 58))
  have HK0 := Lib.hid ((Ks.refl B q w).alloc hbw (.cells #[.int .u8 6, .string (strOf m), .slice (some ⟨b, o, none⟩) (t + 1) c2, .slice A3 n3 c3, .slice A4 n4 c4, .int .i64 ln] 58))
  have hqn : ¬ w.heap.size = q := by omega
  have HX := Lib.hid hX
  have HC := Lib.hid k0
  clear hX k0
  have HL := Lib.hid hL
  clear hL
  have HG := Lib.hid (fun w' s' v' (h' : ShAt B q w' s' lv v') i (hi : i = w'.heap.size) => begin_at B q w' s' lv hlv v' h' [[115, 101, 110, 100, 32]] #[.string ⟨#[115, 101, 110, 100, 32]⟩] rfl (by simp) (by simp) 1 1 i rfl hi)
  have HP := Lib.hid (fun w' s' v' (h' : ShAt B q w' s' lv v') i (hi : i = w'.heap.size) => put_at B q w' s' lv v' h' [[32], m] #[.string ⟨#[32]⟩, .string (strOf m)] rfl (ok2 (by simp) (by simp) h8 hl8) (by simp) 2 2 i rfl hi)
  have HE := Lib.hid (fun w' s' v' (h' : ShAt B q w' s' lv v') i (hi : i = w'.heap.size) => put_at B q w' s' lv v' h' [[59, 10]] #[.string ⟨#[59, 10]⟩] rfl (by simp) (by simp) 1 1 i rfl hi)
  obtain ⟨z0, z1, z2, z3, z4, z5⟩ := box6 HQ0.out
  clear h hb h8 hl8
  unfold at0 at *
  go_enter Tryz.func184, Tryz.ntmps184
  go_wp2_with (first
    | (go_at_call 120
       refine (HG.out _ _ _ HS0.out _ (by simp)).mono ?_
       rintro e w1 ⟨rfl, ⟨v1, hv1⟩, hk1⟩
       have HS1 := Lib.hid hv1
       have HK1 := Lib.hid (HK0.out.trans hk1)
       have HQ1 := Lib.hid (hk1.o.heap HQ0.out hqn (by decide))
       obtain ⟨a10, a11, a12, a13, a14, a15⟩ := box6 HQ1.out
       obtain ⟨p0, p1, p2, p3⟩ := HC.out w1 (HB.out.trans HK1.out.b)
       clear hv1 hk1)
    | (go_at_call 229
       refine (HX.out _ _ _ HS1.out (HB.out.trans HK1.out.b)).mono ?_
       rintro e w2 ⟨rfl, ⟨v2, hv2⟩, hk2⟩
       have HS2 := Lib.hid hv2
       have HK2 := Lib.hid (HK1.out.trans hk2)
       have HQ2 := Lib.hid (hk2.o.heap HQ1.out hqn (by decide))
       obtain ⟨a20, a21, a22, a23, a24, a25⟩ := box6 HQ2.out
       clear hv2 hk2)
    | (go_at_call 123
       refine (HP.out _ _ _ HS2.out _ rfl).mono ?_
       rintro e w3 ⟨rfl, ⟨v3, hv3⟩, hk3⟩
       have HS3 := Lib.hid hv3
       have HK3 := Lib.hid (HK2.out.trans hk3)
       have HQ3 := Lib.hid (hk3.o.heap HQ2.out hqn (by decide))
       obtain ⟨a30, a31, a32, a33, a34, a35⟩ := box6 HQ3.out
       clear HP
       clear hv3 hk3)
    | (go_at_call 230
       refine (HL.out _ _ _ HS3.out (HB.out.trans HK3.out.b)).mono ?_
       rintro e w4 ⟨rfl, ⟨v4, hv4⟩, hk4⟩
       have HS4 := Lib.hid hv4
       have HK4 := Lib.hid (HK3.out.trans hk4)
       have HQ4 := Lib.hid (hk4.o.heap HQ3.out hqn (by decide))
       obtain ⟨a40, a41, a42, a43, a44, a45⟩ := box6 HQ4.out
       clear hv4 hk4)
    | (go_at_call 123
       refine (HE.out _ _ _ HS4.out _ rfl).mono ?_
       rintro e w5 ⟨rfl, ⟨v5, hv5⟩, hk5⟩
       have HS5 := Lib.hid hv5
       have HK5 := Lib.hid (HK4.out.trans hk5)
       have HQ5 := Lib.hid (hk5.o.heap HQ4.out hqn (by decide))
       obtain ⟨a50, a51, a52, a53, a54, a55⟩ := box6 HQ5.out
       clear hv5 hk5)
    | (fail))
  go_end0
  exact ⟨rfl, ⟨_, HS5.out⟩, HK5.out⟩
set_option maxRecDepth 100000 in
set_option maxHeartbeats 4000000 in
theorem stmt_60 (W0 : World) (B q : Nat) (m : List Nat) (xs : List Ex) (bb ee : List Sm) (ln : Int) (A2 A3 A4 : Option Addr) (n2 c2 n3 c3 n4 c4 : Nat) (w : World) (s : Sw) (lv : Nat) (hlv : lv ≤ 1000) (v : Value) (h8 : ∀ x ∈ m, x < 256) (hl8 : m.length ≤ 140737488355328) (h : ShAt B q w s lv v) (hb : Below B W0 w) (x0 : Ex) (b o : Nat) (ek : Int) (es : ByteArray) (em : Int) (kA : Option Addr) (kn kc : Nat) (k0 : ∀ w', Below B W0 w' → w'.cell? ⟨b, o, none⟩ = some (.int .u8 ek) ∧ w'.cell? ⟨b, o + 1, none⟩ = some (.string es) ∧ w'.cell? ⟨b, o + 2, none⟩ = some (.int .i64 em) ∧ w'.cell? ⟨b, o + 3, none⟩ = some (.slice kA kn kc)) (hX : ∀ (w : World) (s : Sw) (v : Value), ShAt B q w s lv v → Below B W0 w → Calls Tryz.prog 229 #[at0 q, .agg #[.int .u8 ek, .string es, .int .i64 em, .slice kA kn kc]] w (OutS B q w (partS x0 s) lv)) (hL : ∀ (w : World) (s : Sw) (v : Value), ShAt B q w s lv v → Below B W0 w → Calls Tryz.prog 230 #[at0 q, .slice (some ⟨b, o, none⟩) 0 0] w (OutS B q w (listS xs s) lv)) :
    Calls Tryz.prog 184 #[at0 q, .agg #[.int .u8 6, .string (strOf m), .slice (some ⟨b, o, none⟩) 1 1, .slice A3 n3 c3, .slice A4 n4 c4, .int .i64 ln]] w (OutS B q w (putS (listS xs (putsS (partS x0 (beginS lv [[115, 101, 110, 100, 32]] s)) [[32], m])) [59, 10]) lv) := by
  have hle := h.le
  have hqr := h.lt
  have hbw : B ≤ w.heap.size := by omega
  have HB := Lib.hid hb
  have HQ0 := Lib.hid (heap_new w (.cells #[.int .u8 6, .string (strOf m), .slice (some ⟨b, o, none⟩) 1 1, .slice A3 n3 c3, .slice A4 n4 c4, .int .i64 ln] 58))
  have HS0 := Lib.hid (h.alloc (.cells #[.int .u8 6, .string (strOf m), .slice (some ⟨b, o, none⟩) 1 1, .slice A3 n3 c3, .slice A4 n4 c4, .int .i64 ln] 58))
  have HK0 := Lib.hid ((Ks.refl B q w).alloc hbw (.cells #[.int .u8 6, .string (strOf m), .slice (some ⟨b, o, none⟩) 1 1, .slice A3 n3 c3, .slice A4 n4 c4, .int .i64 ln] 58))
  have hqn : ¬ w.heap.size = q := by omega
  have HX := Lib.hid hX
  have HC := Lib.hid k0
  clear hX k0
  have HL := Lib.hid hL
  clear hL
  have HG := Lib.hid (fun w' s' v' (h' : ShAt B q w' s' lv v') i (hi : i = w'.heap.size) => begin_at B q w' s' lv hlv v' h' [[115, 101, 110, 100, 32]] #[.string ⟨#[115, 101, 110, 100, 32]⟩] rfl (by simp) (by simp) 1 1 i rfl hi)
  have HP := Lib.hid (fun w' s' v' (h' : ShAt B q w' s' lv v') i (hi : i = w'.heap.size) => put_at B q w' s' lv v' h' [[32], m] #[.string ⟨#[32]⟩, .string (strOf m)] rfl (ok2 (by simp) (by simp) h8 hl8) (by simp) 2 2 i rfl hi)
  have HE := Lib.hid (fun w' s' v' (h' : ShAt B q w' s' lv v') i (hi : i = w'.heap.size) => put_at B q w' s' lv v' h' [[59, 10]] #[.string ⟨#[59, 10]⟩] rfl (by simp) (by simp) 1 1 i rfl hi)
  obtain ⟨z0, z1, z2, z3, z4, z5⟩ := box6 HQ0.out
  clear h hb h8 hl8
  unfold at0 at *
  go_enter Tryz.func184, Tryz.ntmps184
  go_wp2_with (first
    | (go_at_call 120
       refine (HG.out _ _ _ HS0.out _ (by simp)).mono ?_
       rintro e w1 ⟨rfl, ⟨v1, hv1⟩, hk1⟩
       have HS1 := Lib.hid hv1
       have HK1 := Lib.hid (HK0.out.trans hk1)
       have HQ1 := Lib.hid (hk1.o.heap HQ0.out hqn (by decide))
       obtain ⟨a10, a11, a12, a13, a14, a15⟩ := box6 HQ1.out
       obtain ⟨p0, p1, p2, p3⟩ := HC.out w1 (HB.out.trans HK1.out.b)
       clear hv1 hk1)
    | (go_at_call 229
       refine (HX.out _ _ _ HS1.out (HB.out.trans HK1.out.b)).mono ?_
       rintro e w2 ⟨rfl, ⟨v2, hv2⟩, hk2⟩
       have HS2 := Lib.hid hv2
       have HK2 := Lib.hid (HK1.out.trans hk2)
       have HQ2 := Lib.hid (hk2.o.heap HQ1.out hqn (by decide))
       obtain ⟨a20, a21, a22, a23, a24, a25⟩ := box6 HQ2.out
       clear hv2 hk2)
    | (go_at_call 123
       refine (HP.out _ _ _ HS2.out _ rfl).mono ?_
       rintro e w3 ⟨rfl, ⟨v3, hv3⟩, hk3⟩
       have HS3 := Lib.hid hv3
       have HK3 := Lib.hid (HK2.out.trans hk3)
       have HQ3 := Lib.hid (hk3.o.heap HQ2.out hqn (by decide))
       obtain ⟨a30, a31, a32, a33, a34, a35⟩ := box6 HQ3.out
       clear HP
       clear hv3 hk3)
    | (go_at_call 230
       refine (HL.out _ _ _ HS3.out (HB.out.trans HK3.out.b)).mono ?_
       rintro e w4 ⟨rfl, ⟨v4, hv4⟩, hk4⟩
       have HS4 := Lib.hid hv4
       have HK4 := Lib.hid (HK3.out.trans hk4)
       have HQ4 := Lib.hid (hk4.o.heap HQ3.out hqn (by decide))
       obtain ⟨a40, a41, a42, a43, a44, a45⟩ := box6 HQ4.out
       clear hv4 hk4)
    | (go_at_call 123
       refine (HE.out _ _ _ HS4.out _ rfl).mono ?_
       rintro e w5 ⟨rfl, ⟨v5, hv5⟩, hk5⟩
       have HS5 := Lib.hid hv5
       have HK5 := Lib.hid (HK4.out.trans hk5)
       have HQ5 := Lib.hid (hk5.o.heap HQ4.out hqn (by decide))
       obtain ⟨a50, a51, a52, a53, a54, a55⟩ := box6 HQ5.out
       clear hv5 hk5)
    | (fail))
  go_end0
  exact ⟨rfl, ⟨_, HS5.out⟩, HK5.out⟩
set_option maxRecDepth 100000 in
set_option maxHeartbeats 4000000 in
theorem branch_3 (W0 : World) (B q : Nat) (m : List Nat) (xs : List Ex) (bb ee : List Sm) (ln : Int) (A2 A3 A4 : Option Addr) (n2 c2 n3 c3 n4 c4 : Nat) (w : World) (s : Sw) (lv : Nat) (hlv : lv ≤ 1000) (v : Value) (h8 : ∀ x ∈ m, x < 256) (hl8 : m.length ≤ 140737488355328) (h : ShAt B q w s lv v) (hb : Below B W0 w) (x0 : Ex) (b o : Nat) (ek : Int) (es : ByteArray) (em : Int) (kA : Option Addr) (kn kc : Nat) (k0 : ∀ w', Below B W0 w' → w'.cell? ⟨b, o, none⟩ = some (.int .u8 ek) ∧ w'.cell? ⟨b, o + 1, none⟩ = some (.string es) ∧ w'.cell? ⟨b, o + 2, none⟩ = some (.int .i64 em) ∧ w'.cell? ⟨b, o + 3, none⟩ = some (.slice kA kn kc)) (hX : ∀ (w : World) (s : Sw) (v : Value), ShAt B q w s lv v → Below B W0 w → Calls Tryz.prog 227 #[at0 q, .agg #[.int .u8 ek, .string es, .int .i64 em, .slice kA kn kc]] w (OutS B q w (exS x0 s) lv)) (hB3 : ∀ (w : World) (s : Sw) (v : Value), ShAt B q w s lv v → Below B W0 w → Calls Tryz.prog 122 #[at0 q, .slice A3 n3 c3] w (OutS B q w (braceS lv bb s) lv)) (hn4 : n4 = 0) :
    Calls Tryz.prog 228 #[at0 q, .agg #[.int .u8 3, .string (strOf m), .slice (some ⟨b, o, none⟩) 1 c2, .slice A3 n3 c3, .slice A4 n4 c4, .int .i64 ln]] w (OutS B q w (putS (braceS lv bb (putS (exS x0 (beginS lv [[105, 102, 32, 40]] s)) [41])) [10]) lv) := by
  have hle := h.le
  have hqr := h.lt
  have hbw : B ≤ w.heap.size := by omega
  have HB := Lib.hid hb
  have HQ0 := Lib.hid (heap_new w (.cells #[.int .u8 3, .string (strOf m), .slice (some ⟨b, o, none⟩) 1 c2, .slice A3 n3 c3, .slice A4 n4 c4, .int .i64 ln] 58))
  have HS0 := Lib.hid (h.alloc (.cells #[.int .u8 3, .string (strOf m), .slice (some ⟨b, o, none⟩) 1 c2, .slice A3 n3 c3, .slice A4 n4 c4, .int .i64 ln] 58))
  have HK0 := Lib.hid ((Ks.refl B q w).alloc hbw (.cells #[.int .u8 3, .string (strOf m), .slice (some ⟨b, o, none⟩) 1 c2, .slice A3 n3 c3, .slice A4 n4 c4, .int .i64 ln] 58))
  have hqn : ¬ w.heap.size = q := by omega
  have HX := Lib.hid hX
  have HC := Lib.hid k0
  clear hX k0
  have HB3 := Lib.hid hB3
  clear hB3
  have t1 : ¬ (0 : Int) < (n4 : Int) := by omega
  have t2 : ¬ (n4 : Int) > 0 := t1
  clear hn4
  have HG := Lib.hid (fun w' s' v' (h' : ShAt B q w' s' lv v') i (hi : i = w'.heap.size) => begin_at B q w' s' lv hlv v' h' [[105, 102, 32, 40]] #[.string ⟨#[105, 102, 32, 40]⟩] rfl (by simp) (by simp) 1 1 i rfl hi)
  have HP := Lib.hid (fun w' s' v' (h' : ShAt B q w' s' lv v') i (hi : i = w'.heap.size) => put_at B q w' s' lv v' h' [[41]] #[.string ⟨#[41]⟩] rfl (by simp) (by simp) 1 1 i rfl hi)
  have HE := Lib.hid (fun w' s' v' (h' : ShAt B q w' s' lv v') i (hi : i = w'.heap.size) => put_at B q w' s' lv v' h' [[10]] #[.string ⟨#[10]⟩] rfl (by simp) (by simp) 1 1 i rfl hi)
  obtain ⟨z0, z1, z2, z3, z4, z5⟩ := box6 HQ0.out
  clear h hb h8 hl8
  unfold at0 at *
  go_enter Tryz.func228, Tryz.ntmps228
  go_wp2_with (first
    | (go_at_call 120
       refine (HG.out _ _ _ HS0.out _ (by simp)).mono ?_
       rintro e w1 ⟨rfl, ⟨v1, hv1⟩, hk1⟩
       have HS1 := Lib.hid hv1
       have HK1 := Lib.hid (HK0.out.trans hk1)
       have HQ1 := Lib.hid (hk1.o.heap HQ0.out hqn (by decide))
       obtain ⟨a10, a11, a12, a13, a14, a15⟩ := box6 HQ1.out
       obtain ⟨p0, p1, p2, p3⟩ := HC.out w1 (HB.out.trans HK1.out.b)
       clear hv1 hk1)
    | (go_at_call 227
       refine (HX.out _ _ _ HS1.out (HB.out.trans HK1.out.b)).mono ?_
       rintro e w2 ⟨rfl, ⟨v2, hv2⟩, hk2⟩
       have HS2 := Lib.hid hv2
       have HK2 := Lib.hid (HK1.out.trans hk2)
       have HQ2 := Lib.hid (hk2.o.heap HQ1.out hqn (by decide))
       obtain ⟨a20, a21, a22, a23, a24, a25⟩ := box6 HQ2.out
       clear hv2 hk2)
    | (go_at_call 123
       refine (HP.out _ _ _ HS2.out _ rfl).mono ?_
       rintro e w3 ⟨rfl, ⟨v3, hv3⟩, hk3⟩
       have HS3 := Lib.hid hv3
       have HK3 := Lib.hid (HK2.out.trans hk3)
       have HQ3 := Lib.hid (hk3.o.heap HQ2.out hqn (by decide))
       obtain ⟨a30, a31, a32, a33, a34, a35⟩ := box6 HQ3.out
       clear HP
       clear hv3 hk3)
    | (go_at_call 122
       refine (HB3.out _ _ _ HS3.out (HB.out.trans HK3.out.b)).mono ?_
       rintro e w4 ⟨rfl, ⟨v4, hv4⟩, hk4⟩
       have HS4 := Lib.hid hv4
       have HK4 := Lib.hid (HK3.out.trans hk4)
       have HQ4 := Lib.hid (hk4.o.heap HQ3.out hqn (by decide))
       obtain ⟨a40, a41, a42, a43, a44, a45⟩ := box6 HQ4.out
       clear HB3
       clear hv4 hk4)
    | (go_at_call 123
       refine (HE.out _ _ _ HS4.out _ rfl).mono ?_
       rintro e w5 ⟨rfl, ⟨v5, hv5⟩, hk5⟩
       have HS5 := Lib.hid hv5
       have HK5 := Lib.hid (HK4.out.trans hk5)
       have HQ5 := Lib.hid (hk5.o.heap HQ4.out hqn (by decide))
       obtain ⟨a50, a51, a52, a53, a54, a55⟩ := box6 HQ5.out
       clear hv5 hk5)
    | (fail))
  go_end0
  exact ⟨rfl, ⟨_, HS5.out⟩, HK5.out⟩
set_option maxRecDepth 100000 in
set_option maxHeartbeats 4000000 in
theorem branch_3e (W0 : World) (B q : Nat) (m : List Nat) (xs : List Ex) (bb ee : List Sm) (ln : Int) (A2 A3 A4 : Option Addr) (n2 c2 n3 c3 n4 c4 : Nat) (w : World) (s : Sw) (lv : Nat) (hlv : lv ≤ 1000) (v : Value) (h8 : ∀ x ∈ m, x < 256) (hl8 : m.length ≤ 140737488355328) (h : ShAt B q w s lv v) (hb : Below B W0 w) (x0 : Ex) (b o : Nat) (ek : Int) (es : ByteArray) (em : Int) (kA : Option Addr) (kn kc : Nat) (k0 : ∀ w', Below B W0 w' → w'.cell? ⟨b, o, none⟩ = some (.int .u8 ek) ∧ w'.cell? ⟨b, o + 1, none⟩ = some (.string es) ∧ w'.cell? ⟨b, o + 2, none⟩ = some (.int .i64 em) ∧ w'.cell? ⟨b, o + 3, none⟩ = some (.slice kA kn kc)) (hX : ∀ (w : World) (s : Sw) (v : Value), ShAt B q w s lv v → Below B W0 w → Calls Tryz.prog 227 #[at0 q, .agg #[.int .u8 ek, .string es, .int .i64 em, .slice kA kn kc]] w (OutS B q w (exS x0 s) lv)) (hB3 : ∀ (w : World) (s : Sw) (v : Value), ShAt B q w s lv v → Below B W0 w → Calls Tryz.prog 122 #[at0 q, .slice A3 n3 c3] w (OutS B q w (braceS lv bb s) lv)) (hB4 : ∀ (w : World) (s : Sw) (v : Value), ShAt B q w s lv v → Below B W0 w → Calls Tryz.prog 122 #[at0 q, .slice A4 n4 c4] w (OutS B q w (braceS lv ee s) lv)) (hn4 : 0 < n4) :
    Calls Tryz.prog 228 #[at0 q, .agg #[.int .u8 3, .string (strOf m), .slice (some ⟨b, o, none⟩) 1 c2, .slice A3 n3 c3, .slice A4 n4 c4, .int .i64 ln]] w (OutS B q w (putS (braceS lv ee (putS (braceS lv bb (putS (exS x0 (beginS lv [[105, 102, 32, 40]] s)) [41])) [32, 101, 108, 115, 101])) [10]) lv) := by
  have hle := h.le
  have hqr := h.lt
  have hbw : B ≤ w.heap.size := by omega
  have HB := Lib.hid hb
  have HQ0 := Lib.hid (heap_new w (.cells #[.int .u8 3, .string (strOf m), .slice (some ⟨b, o, none⟩) 1 c2, .slice A3 n3 c3, .slice A4 n4 c4, .int .i64 ln] 58))
  have HS0 := Lib.hid (h.alloc (.cells #[.int .u8 3, .string (strOf m), .slice (some ⟨b, o, none⟩) 1 c2, .slice A3 n3 c3, .slice A4 n4 c4, .int .i64 ln] 58))
  have HK0 := Lib.hid ((Ks.refl B q w).alloc hbw (.cells #[.int .u8 3, .string (strOf m), .slice (some ⟨b, o, none⟩) 1 c2, .slice A3 n3 c3, .slice A4 n4 c4, .int .i64 ln] 58))
  have hqn : ¬ w.heap.size = q := by omega
  have HX := Lib.hid hX
  have HC := Lib.hid k0
  clear hX k0
  have HB3 := Lib.hid hB3
  clear hB3
  have HB4 := Lib.hid hB4
  have t1 : (0 : Int) < (n4 : Int) := by omega
  have t2 : (n4 : Int) > 0 := t1
  clear hB4
  have HG := Lib.hid (fun w' s' v' (h' : ShAt B q w' s' lv v') i (hi : i = w'.heap.size) => begin_at B q w' s' lv hlv v' h' [[105, 102, 32, 40]] #[.string ⟨#[105, 102, 32, 40]⟩] rfl (by simp) (by simp) 1 1 i rfl hi)
  have HP := Lib.hid (fun w' s' v' (h' : ShAt B q w' s' lv v') i (hi : i = w'.heap.size) => put_at B q w' s' lv v' h' [[41]] #[.string ⟨#[41]⟩] rfl (by simp) (by simp) 1 1 i rfl hi)
  have HO := Lib.hid (fun w' s' v' (h' : ShAt B q w' s' lv v') i (hi : i = w'.heap.size) => put_at B q w' s' lv v' h' [[32, 101, 108, 115, 101]] #[.string ⟨#[32, 101, 108, 115, 101]⟩] rfl (by simp) (by simp) 1 1 i rfl hi)
  have HE := Lib.hid (fun w' s' v' (h' : ShAt B q w' s' lv v') i (hi : i = w'.heap.size) => put_at B q w' s' lv v' h' [[10]] #[.string ⟨#[10]⟩] rfl (by simp) (by simp) 1 1 i rfl hi)
  obtain ⟨z0, z1, z2, z3, z4, z5⟩ := box6 HQ0.out
  clear h hb h8 hl8
  unfold at0 at *
  go_enter Tryz.func228, Tryz.ntmps228
  go_wp2_with (first
    | (go_at_call 120
       refine (HG.out _ _ _ HS0.out _ (by simp)).mono ?_
       rintro e w1 ⟨rfl, ⟨v1, hv1⟩, hk1⟩
       have HS1 := Lib.hid hv1
       have HK1 := Lib.hid (HK0.out.trans hk1)
       have HQ1 := Lib.hid (hk1.o.heap HQ0.out hqn (by decide))
       obtain ⟨a10, a11, a12, a13, a14, a15⟩ := box6 HQ1.out
       obtain ⟨p0, p1, p2, p3⟩ := HC.out w1 (HB.out.trans HK1.out.b)
       clear hv1 hk1)
    | (go_at_call 227
       refine (HX.out _ _ _ HS1.out (HB.out.trans HK1.out.b)).mono ?_
       rintro e w2 ⟨rfl, ⟨v2, hv2⟩, hk2⟩
       have HS2 := Lib.hid hv2
       have HK2 := Lib.hid (HK1.out.trans hk2)
       have HQ2 := Lib.hid (hk2.o.heap HQ1.out hqn (by decide))
       obtain ⟨a20, a21, a22, a23, a24, a25⟩ := box6 HQ2.out
       clear hv2 hk2)
    | (go_at_call 123
       refine (HP.out _ _ _ HS2.out _ rfl).mono ?_
       rintro e w3 ⟨rfl, ⟨v3, hv3⟩, hk3⟩
       have HS3 := Lib.hid hv3
       have HK3 := Lib.hid (HK2.out.trans hk3)
       have HQ3 := Lib.hid (hk3.o.heap HQ2.out hqn (by decide))
       obtain ⟨a30, a31, a32, a33, a34, a35⟩ := box6 HQ3.out
       clear HP
       clear hv3 hk3)
    | (go_at_call 122
       refine (HB3.out _ _ _ HS3.out (HB.out.trans HK3.out.b)).mono ?_
       rintro e w4 ⟨rfl, ⟨v4, hv4⟩, hk4⟩
       have HS4 := Lib.hid hv4
       have HK4 := Lib.hid (HK3.out.trans hk4)
       have HQ4 := Lib.hid (hk4.o.heap HQ3.out hqn (by decide))
       obtain ⟨a40, a41, a42, a43, a44, a45⟩ := box6 HQ4.out
       clear HB3
       clear hv4 hk4)
    | (go_at_call 123
       refine (HO.out _ _ _ HS4.out _ rfl).mono ?_
       rintro e w5 ⟨rfl, ⟨v5, hv5⟩, hk5⟩
       have HS5 := Lib.hid hv5
       have HK5 := Lib.hid (HK4.out.trans hk5)
       have HQ5 := Lib.hid (hk5.o.heap HQ4.out hqn (by decide))
       obtain ⟨a50, a51, a52, a53, a54, a55⟩ := box6 HQ5.out
       clear HO
       clear hv5 hk5)
    | (go_at_call 122
       refine (HB4.out _ _ _ HS5.out (HB.out.trans HK5.out.b)).mono ?_
       rintro e w6 ⟨rfl, ⟨v6, hv6⟩, hk6⟩
       have HS6 := Lib.hid hv6
       have HK6 := Lib.hid (HK5.out.trans hk6)
       have HQ6 := Lib.hid (hk6.o.heap HQ5.out hqn (by decide))
       obtain ⟨a60, a61, a62, a63, a64, a65⟩ := box6 HQ6.out
       clear hv6 hk6)
    | (go_at_call 123
       refine (HE.out _ _ _ HS6.out _ rfl).mono ?_
       rintro e w7 ⟨rfl, ⟨v7, hv7⟩, hk7⟩
       have HS7 := Lib.hid hv7
       have HK7 := Lib.hid (HK6.out.trans hk7)
       have HQ7 := Lib.hid (hk7.o.heap HQ6.out hqn (by decide))
       obtain ⟨a70, a71, a72, a73, a74, a75⟩ := box6 HQ7.out
       clear hv7 hk7)
    | (fail))
  go_end0
  exact ⟨rfl, ⟨_, HS7.out⟩, HK7.out⟩
set_option maxRecDepth 100000 in
set_option maxHeartbeats 4000000 in
theorem branch_4 (W0 : World) (B q : Nat) (m : List Nat) (xs : List Ex) (bb ee : List Sm) (ln : Int) (A2 A3 A4 : Option Addr) (n2 c2 n3 c3 n4 c4 : Nat) (w : World) (s : Sw) (lv : Nat) (hlv : lv ≤ 1000) (v : Value) (h8 : ∀ x ∈ m, x < 256) (hl8 : m.length ≤ 140737488355328) (h : ShAt B q w s lv v) (hb : Below B W0 w) (x0 : Ex) (b o : Nat) (ek : Int) (es : ByteArray) (em : Int) (kA : Option Addr) (kn kc : Nat) (k0 : ∀ w', Below B W0 w' → w'.cell? ⟨b, o, none⟩ = some (.int .u8 ek) ∧ w'.cell? ⟨b, o + 1, none⟩ = some (.string es) ∧ w'.cell? ⟨b, o + 2, none⟩ = some (.int .i64 em) ∧ w'.cell? ⟨b, o + 3, none⟩ = some (.slice kA kn kc)) (hX : ∀ (w : World) (s : Sw) (v : Value), ShAt B q w s lv v → Below B W0 w → Calls Tryz.prog 227 #[at0 q, .agg #[.int .u8 ek, .string es, .int .i64 em, .slice kA kn kc]] w (OutS B q w (exS x0 s) lv)) (hB3 : ∀ (w : World) (s : Sw) (v : Value), ShAt B q w s lv v → Below B W0 w → Calls Tryz.prog 122 #[at0 q, .slice A3 n3 c3] w (OutS B q w (braceS lv bb s) lv)) (hn4 : n4 = 0) :
    Calls Tryz.prog 228 #[at0 q, .agg #[.int .u8 4, .string (strOf m), .slice (some ⟨b, o, none⟩) 1 c2, .slice A3 n3 c3, .slice A4 n4 c4, .int .i64 ln]] w (OutS B q w (putS (braceS lv bb (putS (exS x0 (beginS lv [[119, 104, 105, 108, 101, 32, 40]] s)) [41])) [10]) lv) := by
  have hle := h.le
  have hqr := h.lt
  have hbw : B ≤ w.heap.size := by omega
  have HB := Lib.hid hb
  have HQ0 := Lib.hid (heap_new w (.cells #[.int .u8 4, .string (strOf m), .slice (some ⟨b, o, none⟩) 1 c2, .slice A3 n3 c3, .slice A4 n4 c4, .int .i64 ln] 58))
  have HS0 := Lib.hid (h.alloc (.cells #[.int .u8 4, .string (strOf m), .slice (some ⟨b, o, none⟩) 1 c2, .slice A3 n3 c3, .slice A4 n4 c4, .int .i64 ln] 58))
  have HK0 := Lib.hid ((Ks.refl B q w).alloc hbw (.cells #[.int .u8 4, .string (strOf m), .slice (some ⟨b, o, none⟩) 1 c2, .slice A3 n3 c3, .slice A4 n4 c4, .int .i64 ln] 58))
  have hqn : ¬ w.heap.size = q := by omega
  have HX := Lib.hid hX
  have HC := Lib.hid k0
  clear hX k0
  have HB3 := Lib.hid hB3
  clear hB3
  have t1 : ¬ (0 : Int) < (n4 : Int) := by omega
  have t2 : ¬ (n4 : Int) > 0 := t1
  clear hn4
  have HG := Lib.hid (fun w' s' v' (h' : ShAt B q w' s' lv v') i (hi : i = w'.heap.size) => begin_at B q w' s' lv hlv v' h' [[119, 104, 105, 108, 101, 32, 40]] #[.string ⟨#[119, 104, 105, 108, 101, 32, 40]⟩] rfl (by simp) (by simp) 1 1 i rfl hi)
  have HP := Lib.hid (fun w' s' v' (h' : ShAt B q w' s' lv v') i (hi : i = w'.heap.size) => put_at B q w' s' lv v' h' [[41]] #[.string ⟨#[41]⟩] rfl (by simp) (by simp) 1 1 i rfl hi)
  have HE := Lib.hid (fun w' s' v' (h' : ShAt B q w' s' lv v') i (hi : i = w'.heap.size) => put_at B q w' s' lv v' h' [[10]] #[.string ⟨#[10]⟩] rfl (by simp) (by simp) 1 1 i rfl hi)
  obtain ⟨z0, z1, z2, z3, z4, z5⟩ := box6 HQ0.out
  clear h hb h8 hl8
  unfold at0 at *
  go_enter Tryz.func228, Tryz.ntmps228
  go_wp2_with (first
    | (go_at_call 120
       refine (HG.out _ _ _ HS0.out _ (by simp)).mono ?_
       rintro e w1 ⟨rfl, ⟨v1, hv1⟩, hk1⟩
       have HS1 := Lib.hid hv1
       have HK1 := Lib.hid (HK0.out.trans hk1)
       have HQ1 := Lib.hid (hk1.o.heap HQ0.out hqn (by decide))
       obtain ⟨a10, a11, a12, a13, a14, a15⟩ := box6 HQ1.out
       obtain ⟨p0, p1, p2, p3⟩ := HC.out w1 (HB.out.trans HK1.out.b)
       clear hv1 hk1)
    | (go_at_call 227
       refine (HX.out _ _ _ HS1.out (HB.out.trans HK1.out.b)).mono ?_
       rintro e w2 ⟨rfl, ⟨v2, hv2⟩, hk2⟩
       have HS2 := Lib.hid hv2
       have HK2 := Lib.hid (HK1.out.trans hk2)
       have HQ2 := Lib.hid (hk2.o.heap HQ1.out hqn (by decide))
       obtain ⟨a20, a21, a22, a23, a24, a25⟩ := box6 HQ2.out
       clear hv2 hk2)
    | (go_at_call 123
       refine (HP.out _ _ _ HS2.out _ rfl).mono ?_
       rintro e w3 ⟨rfl, ⟨v3, hv3⟩, hk3⟩
       have HS3 := Lib.hid hv3
       have HK3 := Lib.hid (HK2.out.trans hk3)
       have HQ3 := Lib.hid (hk3.o.heap HQ2.out hqn (by decide))
       obtain ⟨a30, a31, a32, a33, a34, a35⟩ := box6 HQ3.out
       clear HP
       clear hv3 hk3)
    | (go_at_call 122
       refine (HB3.out _ _ _ HS3.out (HB.out.trans HK3.out.b)).mono ?_
       rintro e w4 ⟨rfl, ⟨v4, hv4⟩, hk4⟩
       have HS4 := Lib.hid hv4
       have HK4 := Lib.hid (HK3.out.trans hk4)
       have HQ4 := Lib.hid (hk4.o.heap HQ3.out hqn (by decide))
       obtain ⟨a40, a41, a42, a43, a44, a45⟩ := box6 HQ4.out
       clear HB3
       clear hv4 hk4)
    | (go_at_call 123
       refine (HE.out _ _ _ HS4.out _ rfl).mono ?_
       rintro e w5 ⟨rfl, ⟨v5, hv5⟩, hk5⟩
       have HS5 := Lib.hid hv5
       have HK5 := Lib.hid (HK4.out.trans hk5)
       have HQ5 := Lib.hid (hk5.o.heap HQ4.out hqn (by decide))
       obtain ⟨a50, a51, a52, a53, a54, a55⟩ := box6 HQ5.out
       clear hv5 hk5)
    | (fail))
  go_end0
  exact ⟨rfl, ⟨_, HS5.out⟩, HK5.out⟩
set_option maxRecDepth 100000 in
set_option maxHeartbeats 4000000 in
theorem branch_4e (W0 : World) (B q : Nat) (m : List Nat) (xs : List Ex) (bb ee : List Sm) (ln : Int) (A2 A3 A4 : Option Addr) (n2 c2 n3 c3 n4 c4 : Nat) (w : World) (s : Sw) (lv : Nat) (hlv : lv ≤ 1000) (v : Value) (h8 : ∀ x ∈ m, x < 256) (hl8 : m.length ≤ 140737488355328) (h : ShAt B q w s lv v) (hb : Below B W0 w) (x0 : Ex) (b o : Nat) (ek : Int) (es : ByteArray) (em : Int) (kA : Option Addr) (kn kc : Nat) (k0 : ∀ w', Below B W0 w' → w'.cell? ⟨b, o, none⟩ = some (.int .u8 ek) ∧ w'.cell? ⟨b, o + 1, none⟩ = some (.string es) ∧ w'.cell? ⟨b, o + 2, none⟩ = some (.int .i64 em) ∧ w'.cell? ⟨b, o + 3, none⟩ = some (.slice kA kn kc)) (hX : ∀ (w : World) (s : Sw) (v : Value), ShAt B q w s lv v → Below B W0 w → Calls Tryz.prog 227 #[at0 q, .agg #[.int .u8 ek, .string es, .int .i64 em, .slice kA kn kc]] w (OutS B q w (exS x0 s) lv)) (hB3 : ∀ (w : World) (s : Sw) (v : Value), ShAt B q w s lv v → Below B W0 w → Calls Tryz.prog 122 #[at0 q, .slice A3 n3 c3] w (OutS B q w (braceS lv bb s) lv)) (hB4 : ∀ (w : World) (s : Sw) (v : Value), ShAt B q w s lv v → Below B W0 w → Calls Tryz.prog 122 #[at0 q, .slice A4 n4 c4] w (OutS B q w (braceS lv ee s) lv)) (hn4 : 0 < n4) :
    Calls Tryz.prog 228 #[at0 q, .agg #[.int .u8 4, .string (strOf m), .slice (some ⟨b, o, none⟩) 1 c2, .slice A3 n3 c3, .slice A4 n4 c4, .int .i64 ln]] w (OutS B q w (putS (braceS lv ee (putS (braceS lv bb (putS (exS x0 (beginS lv [[119, 104, 105, 108, 101, 32, 40]] s)) [41])) [32, 101, 108, 115, 101])) [10]) lv) := by
  have hle := h.le
  have hqr := h.lt
  have hbw : B ≤ w.heap.size := by omega
  have HB := Lib.hid hb
  have HQ0 := Lib.hid (heap_new w (.cells #[.int .u8 4, .string (strOf m), .slice (some ⟨b, o, none⟩) 1 c2, .slice A3 n3 c3, .slice A4 n4 c4, .int .i64 ln] 58))
  have HS0 := Lib.hid (h.alloc (.cells #[.int .u8 4, .string (strOf m), .slice (some ⟨b, o, none⟩) 1 c2, .slice A3 n3 c3, .slice A4 n4 c4, .int .i64 ln] 58))
  have HK0 := Lib.hid ((Ks.refl B q w).alloc hbw (.cells #[.int .u8 4, .string (strOf m), .slice (some ⟨b, o, none⟩) 1 c2, .slice A3 n3 c3, .slice A4 n4 c4, .int .i64 ln] 58))
  have hqn : ¬ w.heap.size = q := by omega
  have HX := Lib.hid hX
  have HC := Lib.hid k0
  clear hX k0
  have HB3 := Lib.hid hB3
  clear hB3
  have HB4 := Lib.hid hB4
  have t1 : (0 : Int) < (n4 : Int) := by omega
  have t2 : (n4 : Int) > 0 := t1
  clear hB4
  have HG := Lib.hid (fun w' s' v' (h' : ShAt B q w' s' lv v') i (hi : i = w'.heap.size) => begin_at B q w' s' lv hlv v' h' [[119, 104, 105, 108, 101, 32, 40]] #[.string ⟨#[119, 104, 105, 108, 101, 32, 40]⟩] rfl (by simp) (by simp) 1 1 i rfl hi)
  have HP := Lib.hid (fun w' s' v' (h' : ShAt B q w' s' lv v') i (hi : i = w'.heap.size) => put_at B q w' s' lv v' h' [[41]] #[.string ⟨#[41]⟩] rfl (by simp) (by simp) 1 1 i rfl hi)
  have HO := Lib.hid (fun w' s' v' (h' : ShAt B q w' s' lv v') i (hi : i = w'.heap.size) => put_at B q w' s' lv v' h' [[32, 101, 108, 115, 101]] #[.string ⟨#[32, 101, 108, 115, 101]⟩] rfl (by simp) (by simp) 1 1 i rfl hi)
  have HE := Lib.hid (fun w' s' v' (h' : ShAt B q w' s' lv v') i (hi : i = w'.heap.size) => put_at B q w' s' lv v' h' [[10]] #[.string ⟨#[10]⟩] rfl (by simp) (by simp) 1 1 i rfl hi)
  obtain ⟨z0, z1, z2, z3, z4, z5⟩ := box6 HQ0.out
  clear h hb h8 hl8
  unfold at0 at *
  go_enter Tryz.func228, Tryz.ntmps228
  go_wp2_with (first
    | (go_at_call 120
       refine (HG.out _ _ _ HS0.out _ (by simp)).mono ?_
       rintro e w1 ⟨rfl, ⟨v1, hv1⟩, hk1⟩
       have HS1 := Lib.hid hv1
       have HK1 := Lib.hid (HK0.out.trans hk1)
       have HQ1 := Lib.hid (hk1.o.heap HQ0.out hqn (by decide))
       obtain ⟨a10, a11, a12, a13, a14, a15⟩ := box6 HQ1.out
       obtain ⟨p0, p1, p2, p3⟩ := HC.out w1 (HB.out.trans HK1.out.b)
       clear hv1 hk1)
    | (go_at_call 227
       refine (HX.out _ _ _ HS1.out (HB.out.trans HK1.out.b)).mono ?_
       rintro e w2 ⟨rfl, ⟨v2, hv2⟩, hk2⟩
       have HS2 := Lib.hid hv2
       have HK2 := Lib.hid (HK1.out.trans hk2)
       have HQ2 := Lib.hid (hk2.o.heap HQ1.out hqn (by decide))
       obtain ⟨a20, a21, a22, a23, a24, a25⟩ := box6 HQ2.out
       clear hv2 hk2)
    | (go_at_call 123
       refine (HP.out _ _ _ HS2.out _ rfl).mono ?_
       rintro e w3 ⟨rfl, ⟨v3, hv3⟩, hk3⟩
       have HS3 := Lib.hid hv3
       have HK3 := Lib.hid (HK2.out.trans hk3)
       have HQ3 := Lib.hid (hk3.o.heap HQ2.out hqn (by decide))
       obtain ⟨a30, a31, a32, a33, a34, a35⟩ := box6 HQ3.out
       clear HP
       clear hv3 hk3)
    | (go_at_call 122
       refine (HB3.out _ _ _ HS3.out (HB.out.trans HK3.out.b)).mono ?_
       rintro e w4 ⟨rfl, ⟨v4, hv4⟩, hk4⟩
       have HS4 := Lib.hid hv4
       have HK4 := Lib.hid (HK3.out.trans hk4)
       have HQ4 := Lib.hid (hk4.o.heap HQ3.out hqn (by decide))
       obtain ⟨a40, a41, a42, a43, a44, a45⟩ := box6 HQ4.out
       clear HB3
       clear hv4 hk4)
    | (go_at_call 123
       refine (HO.out _ _ _ HS4.out _ rfl).mono ?_
       rintro e w5 ⟨rfl, ⟨v5, hv5⟩, hk5⟩
       have HS5 := Lib.hid hv5
       have HK5 := Lib.hid (HK4.out.trans hk5)
       have HQ5 := Lib.hid (hk5.o.heap HQ4.out hqn (by decide))
       obtain ⟨a50, a51, a52, a53, a54, a55⟩ := box6 HQ5.out
       clear HO
       clear hv5 hk5)
    | (go_at_call 122
       refine (HB4.out _ _ _ HS5.out (HB.out.trans HK5.out.b)).mono ?_
       rintro e w6 ⟨rfl, ⟨v6, hv6⟩, hk6⟩
       have HS6 := Lib.hid hv6
       have HK6 := Lib.hid (HK5.out.trans hk6)
       have HQ6 := Lib.hid (hk6.o.heap HQ5.out hqn (by decide))
       obtain ⟨a60, a61, a62, a63, a64, a65⟩ := box6 HQ6.out
       clear hv6 hk6)
    | (go_at_call 123
       refine (HE.out _ _ _ HS6.out _ rfl).mono ?_
       rintro e w7 ⟨rfl, ⟨v7, hv7⟩, hk7⟩
       have HS7 := Lib.hid hv7
       have HK7 := Lib.hid (HK6.out.trans hk7)
       have HQ7 := Lib.hid (hk7.o.heap HQ6.out hqn (by decide))
       obtain ⟨a70, a71, a72, a73, a74, a75⟩ := box6 HQ7.out
       clear hv7 hk7)
    | (fail))
  go_end0
  exact ⟨rfl, ⟨_, HS7.out⟩, HK7.out⟩
end Go.Proofs.YteacmanbiamhoaaGreatDoor
namespace Go.Proofs.YteacmanbiamhoaaGreatDoor
open Go.RowKit
set_option linter.unusedVariables false

mutual
/-- Its numbers are int64s. -/
def NbS : Sm → Prop
  | .mk k s x b e ln => Nbs x ∧ NbSs b ∧ NbSs e
def NbSs : List Sm → Prop
  | [] => True
  | x :: r => NbS x ∧ NbSs r
end
theorem NbSs.at : ∀ {l : List Sm}, NbSs l → ∀ y ∈ l, NbS y
  | [], h, y, hy => by cases hy
  | x :: r, h, y, hy => by
    rw [NbSs] at h
    rcases List.mem_cons.1 hy with rfl | hy
    · exact h.1
    · exact NbSs.at h.2 y hy
theorem rightS_kind {k : Nat} {s : List Nat} {x b c : Nat} (h : rightS k s x b c = true) : 1 ≤ k ∧ k ≤ 9 ∧ ((k = 1 ∨ k = 2 ∨ k = 3 ∨ k = 4 ∨ k = 5 ∨ k = 9) → x = 1) ∧ (k = 6 → 1 ≤ x) := by
  have hk : 1 ≤ k ∧ k ≤ 9 := by
    unfold rightS at h
    by_cases h1 : k = 1 ∨ k = 2 ∨ k = 3 ∨ k = 4 ∨ k = 5 ∨ k = 6 ∨ k = 7 ∨ k = 8 ∨ k = 9
    · omega
    · simp only [not_or] at h1
      obtain ⟨a1, a2, a3, a4, a5, a6, a7, a8, a9⟩ := h1
      simp [a1, a2, a3, a4, a5, a6, a7, a8, a9] at h
  refine ⟨hk.1, hk.2, ?_, ?_⟩
  · rintro (rfl | rfl | rfl | rfl | rfl | rfl) <;> simp [rightS] at h <;> omega
  · rintro rfl
    simp [rightS] at h
    omega
/-- The rest of a row. -/
theorem Rds.tail {w : World} {S : Nat → Prop} {b o : Nat} {sz : Nat} {x : Nd} {l : List Nd} (h : Rds w S (some ⟨b, o, none⟩) sz 0 (x :: l)) : Rds w S (some ⟨b, o + sz, none⟩) sz 0 l := by
  refine Rds.of fun j y hy => ?_
  obtain ⟨b', o', vs, e, h1, h2, h3, h4⟩ := h.at (j + 1) y (by simpa using hy)
  cases e
  refine ⟨b, o + sz, vs, rfl, h1, h2, ?_, h4⟩
  rw [show o + sz + (0 + j) * sz = o + (0 + (j + 1)) * sz by rw [Nat.zero_add, Nat.zero_add, Nat.add_mul, Nat.one_mul]; omega]
  exact h3
theorem show_sm (W0 : World) (q : Nat) (S : Nat → Prop) (hS : ∀ b, S b → b < W0.heap.size) (hf : Fmt W0 W0.heap.size) : ∀ (n : Nat) (x : Sm) (d lv : Nat), SizeOf.sizeOf x < n → OkS d x → NbS x → lv ≤ d + 1 → ShS W0 q S lv x := by
  intro n
  induction n with
  | zero => exact fun x d lv h => absurd h (by omega)
  | succ n ih =>
    rintro ⟨k, m, xs, bb, ee, ln⟩ d lv hn hok hnb hlv
    obtain ⟨hd, hrs, hxs, hbs, hes⟩ := hok.parts
    obtain ⟨hk1, hk9, h1, h6⟩ := rightS_kind hrs
    rw [NbS] at hnb
    have hlv1 : lv ≤ 1000 := by omega
    have IX : ∀ y ∈ xs, ShE W0 q S y ∧ ShP W0 q S y := fun y hy => show_ex W0 q S hS hf _ y (Nat.lt_succ_self _) (hxs y hy) (Nbs.at hnb.1 y hy)
    have IB : ∀ y ∈ bb, ShS W0 q S (lv + 1) y := fun y hy => ih y (d + 1) (lv + 1) (by
      have := List.sizeOf_lt_of_mem hy
      simp at hn
      omega) (hbs y hy) (NbSs.at hnb.2.1 y hy) (by omega)
    have IE : ∀ y ∈ ee, ShS W0 q S (lv + 1) y := fun y hy => ih y (d + 1) (lv + 1) (by
      have := List.sizeOf_lt_of_mem hy
      simp at hn
      omega) (hes y hy) (NbSs.at hnb.2.2 y hy) (by omega)
    intro w s v e h hb hx
    obtain ⟨y, z, u, rfl, hm8, hml, hy, hz, hu⟩ := (Sm.rd k m xs bb ee ln _).1 hx
    have hyl := hy
    have hzl := hz
    have hul := hu
    rw [Rd] at hy hz hu
    obtain ⟨A2, c2, rfl, hc, hcm, hr⟩ := hy
    obtain ⟨A3, c3, rfl, -⟩ := hz
    obtain ⟨A4, c4, rfl, -⟩ := hu
    have H3 : ∀ (w : World) (s : Sw) (v : Value), ShAt W0.heap.size q w s lv v → Below W0.heap.size W0 w → Calls Tryz.prog 122 #[at0 q, .slice A3 (bb.map Sm.nd).length c3] w (OutS W0.heap.size q w (braceS lv bb s) lv) := fun w s v h hb => braces_any W0 q S hS lv hlv1 bb IB w s v _ h hb hzl
    have H4 : ∀ (w : World) (s : Sw) (v : Value), ShAt W0.heap.size q w s lv v → Below W0.heap.size W0 w → Calls Tryz.prog 122 #[at0 q, .slice A4 (ee.map Sm.nd).length c4] w (OutS W0.heap.size q w (braceS lv ee s) lv) := fun w s v h hb => braces_any W0 q S hS lv hlv1 ee IE w s v _ h hb hul
    have HL : ∀ (w : World) (s : Sw) (v : Value), ShAt W0.heap.size q w s lv v → Below W0.heap.size W0 w → Calls Tryz.prog 230 #[at0 q, .slice A2 (xs.map Ex.nd).length c2] w (OutS W0.heap.size q w (listS xs s) lv) := fun w s v h hb => list_any W0 q S hS xs (fun y hy => (IX y hy).1) w s lv v _ h hb hyl
    have hcase : k = 1 ∨ k = 2 ∨ k = 3 ∨ k = 4 ∨ k = 5 ∨ k = 6 ∨ k = 7 ∨ k = 8 ∨ k = 9 := by omega
    have hone : xs.length = 1 → ∃ x0, xs = [x0] := fun h => by
      match xs, h with
      | [x0], _ => exact ⟨x0, rfl⟩
    rcases hcase with rfl | rfl | rfl | rfl | rfl | rfl | rfl | rfl | rfl
    · obtain ⟨x0, rfl⟩ := hone (h1 (by decide))
      obtain ⟨b, o, ek, es, em, kA, kn, kc, rfl, hSb, k0, r0⟩ := kid_all hr hS 0 x0 rfl
      simp only [Nat.zero_mul, Nat.add_zero] at k0
      have := stmt_1 W0 W0.heap.size q m [x0] bb ee ln none A3 A4 0 c2 (bb.map Sm.nd).length c3 (ee.map Sm.nd).length c4 w s lv hlv1 v hm8 hml h hb x0 b o ek es em kA kn kc k0 (fun w s v h hb => (IX x0 (by simp)).1 w s lv v _ h hb r0)
      rw [smS]
      exact this
    · obtain ⟨x0, rfl⟩ := hone (h1 (by decide))
      obtain ⟨b, o, ek, es, em, kA, kn, kc, rfl, hSb, k0, r0⟩ := kid_all hr hS 0 x0 rfl
      simp only [Nat.zero_mul, Nat.add_zero] at k0
      have := stmt_2 W0 W0.heap.size q m [x0] bb ee ln none A3 A4 0 c2 (bb.map Sm.nd).length c3 (ee.map Sm.nd).length c4 w s lv hlv1 v hm8 hml h hb x0 b o ek es em kA kn kc k0 (fun w s v h hb => (IX x0 (by simp)).1 w s lv v _ h hb r0)
      rw [smS]
      exact this
    · obtain ⟨x0, rfl⟩ := hone (h1 (by decide))
      obtain ⟨b, o, ek, es, em, kA, kn, kc, rfl, hSb, k0, r0⟩ := kid_all hr hS 0 x0 rfl
      simp only [Nat.zero_mul, Nat.add_zero] at k0
      refine stmt_3 W0 W0.heap.size q m [x0] bb ee ln _ A3 A4 _ c2 (bb.map Sm.nd).length c3 (ee.map Sm.nd).length c4 w s lv hlv1 v hm8 hml h hb (fun s => smS lv (.mk 3 m [x0] bb ee ln) s) (fun w s v h hb => ?_)
      by_cases h0 : 0 < ee.length
      · have := branch_3e W0 W0.heap.size q m [x0] bb ee ln none A3 A4 0 c2 (bb.map Sm.nd).length c3 (ee.map Sm.nd).length c4 w s lv hlv1 v hm8 hml h hb x0 b o ek es em kA kn kc k0 (fun w s v h hb => (IX x0 (by simp)).1 w s lv v _ h hb r0) H3 H4 (by rw [List.length_map]; exact h0)
        rw [show smS lv (.mk 3 m [x0] bb ee ln) s = putS (braceS lv ee (putS (braceS lv bb (putS (exS x0 (beginS lv [[105, 102, 32, 40]] s)) [41])) [32, 101, 108, 115, 101])) [10] by rw [smS, if_pos (by decide)]; dsimp only; rw [if_pos h0]; rfl]
        exact this
      · have := branch_3 W0 W0.heap.size q m [x0] bb ee ln none A3 A4 0 c2 (bb.map Sm.nd).length c3 (ee.map Sm.nd).length c4 w s lv hlv1 v hm8 hml h hb x0 b o ek es em kA kn kc k0 (fun w s v h hb => (IX x0 (by simp)).1 w s lv v _ h hb r0) H3 (by rw [List.length_map]; omega)
        rw [show smS lv (.mk 3 m [x0] bb ee ln) s = putS (braceS lv bb (putS (exS x0 (beginS lv [[105, 102, 32, 40]] s)) [41])) [10] by rw [smS, if_pos (by decide)]; dsimp only; rw [if_neg h0]; rfl]
        exact this
    · obtain ⟨x0, rfl⟩ := hone (h1 (by decide))
      obtain ⟨b, o, ek, es, em, kA, kn, kc, rfl, hSb, k0, r0⟩ := kid_all hr hS 0 x0 rfl
      simp only [Nat.zero_mul, Nat.add_zero] at k0
      refine stmt_4 W0 W0.heap.size q m [x0] bb ee ln _ A3 A4 _ c2 (bb.map Sm.nd).length c3 (ee.map Sm.nd).length c4 w s lv hlv1 v hm8 hml h hb (fun s => smS lv (.mk 4 m [x0] bb ee ln) s) (fun w s v h hb => ?_)
      by_cases h0 : 0 < ee.length
      · have := branch_4e W0 W0.heap.size q m [x0] bb ee ln none A3 A4 0 c2 (bb.map Sm.nd).length c3 (ee.map Sm.nd).length c4 w s lv hlv1 v hm8 hml h hb x0 b o ek es em kA kn kc k0 (fun w s v h hb => (IX x0 (by simp)).1 w s lv v _ h hb r0) H3 H4 (by rw [List.length_map]; exact h0)
        rw [show smS lv (.mk 4 m [x0] bb ee ln) s = putS (braceS lv ee (putS (braceS lv bb (putS (exS x0 (beginS lv [[119, 104, 105, 108, 101, 32, 40]] s)) [41])) [32, 101, 108, 115, 101])) [10] by rw [smS, if_pos (by decide)]; dsimp only; rw [if_pos h0]; rfl]
        exact this
      · have := branch_4 W0 W0.heap.size q m [x0] bb ee ln none A3 A4 0 c2 (bb.map Sm.nd).length c3 (ee.map Sm.nd).length c4 w s lv hlv1 v hm8 hml h hb x0 b o ek es em kA kn kc k0 (fun w s v h hb => (IX x0 (by simp)).1 w s lv v _ h hb r0) H3 (by rw [List.length_map]; omega)
        rw [show smS lv (.mk 4 m [x0] bb ee ln) s = putS (braceS lv bb (putS (exS x0 (beginS lv [[119, 104, 105, 108, 101, 32, 40]] s)) [41])) [10] by rw [smS, if_pos (by decide)]; dsimp only; rw [if_neg h0]; rfl]
        exact this
    · obtain ⟨x0, rfl⟩ := hone (h1 (by decide))
      obtain ⟨b, o, ek, es, em, kA, kn, kc, rfl, hSb, k0, r0⟩ := kid_all hr hS 0 x0 rfl
      simp only [Nat.zero_mul, Nat.add_zero] at k0
      have := stmt_5 W0 W0.heap.size q m [x0] bb ee ln none A3 A4 0 c2 (bb.map Sm.nd).length c3 (ee.map Sm.nd).length c4 w s lv hlv1 v hm8 hml h hb x0 b o ek es em kA kn kc k0 (fun w s v h hb => (IX x0 (by simp)).1 w s lv v _ h hb r0)
      rw [smS]
      exact this
    · match xs, h6 rfl, IX, hc, hr with
      | x0 :: r, _, IX, hc, hr =>
        obtain ⟨b, o, ek, es, em, kA, kn, kc, rfl, hSb, k0, r0⟩ := kid_all hr hS 0 x0 rfl
        simp only [Nat.zero_mul, Nat.add_zero] at k0
        have hc' : r.length + 1 ≤ c2 := by simpa using hc
        unfold maxLen at hcm
        have hlen : ((x0 :: r).map Ex.nd).length = r.length + 1 := by simp
        rw [hlen]
        rw [List.map_cons] at hr
        by_cases h1c : c2 = 1
        · subst h1c
          have hr0 : r = [] := List.eq_nil_of_length_eq_zero (by omega)
          subst hr0
          have := stmt_60 W0 W0.heap.size q m [] bb ee ln none A3 A4 0 1 (bb.map Sm.nd).length c3 (ee.map Sm.nd).length c4 w s lv hlv1 v hm8 hml h hb x0 b o ek es em kA kn kc k0 (fun w s v h hb => (IX x0 (by simp)).2 w s lv v _ h hb r0) (fun w s v h hb => list_any W0 q S hS [] (fun y hy => by cases hy) w s lv v _ h hb (by rw [Rd]; exact ⟨_, 0, rfl, Nat.le_refl _, by unfold maxLen; omega, by rw [List.map_nil, Rds]; trivial⟩))
          rw [smS]
          exact this
        · have := stmt_6 W0 W0.heap.size q m r bb ee ln none A3 A4 0 c2 (bb.map Sm.nd).length c3 (ee.map Sm.nd).length c4 w s lv hlv1 v hm8 hml h hb x0 b o ek es em kA kn kc k0 r.length hc' (by omega) h1c (fun w s v h hb => (IX x0 (by simp)).2 w s lv v _ h hb r0) (fun w s v h hb => list_any W0 q S hS r (fun y hy => (IX y (by simp [hy])).1) w s lv v _ h hb (by rw [Rd]; exact ⟨_, c2 - 1, by rw [List.length_map], by rw [List.length_map]; omega, by unfold maxLen; omega, hr.tail⟩))
          rw [smS]
          exact this
    · have := stmt_7 W0 W0.heap.size q m xs bb ee ln A2 A3 A4 (xs.map Ex.nd).length c2 (bb.map Sm.nd).length c3 (ee.map Sm.nd).length c4 w s lv hlv1 v hm8 hml h hb HL
      rw [smS]
      exact this
    · have := stmt_8 W0 W0.heap.size q m xs bb ee ln A2 A3 A4 (xs.map Ex.nd).length c2 (bb.map Sm.nd).length c3 (ee.map Sm.nd).length c4 w s lv hlv1 v hm8 hml h hb
      rw [smS]
      exact this
    · obtain ⟨x0, rfl⟩ := hone (h1 (by decide))
      obtain ⟨b, o, ek, es, em, kA, kn, kc, rfl, hSb, k0, r0⟩ := kid_all hr hS 0 x0 rfl
      simp only [Nat.zero_mul, Nat.add_zero] at k0
      have := stmt_9 W0 W0.heap.size q m [x0] bb ee ln none A3 A4 0 c2 (bb.map Sm.nd).length c3 (ee.map Sm.nd).length c4 w s lv hlv1 v hm8 hml h hb x0 b o ek es em kA kn kc k0 (fun w s v h hb => (IX x0 (by simp)).1 w s lv v _ h hb r0)
      rw [smS]
      exact this
end Go.Proofs.YteacmanbiamhoaaGreatDoor
