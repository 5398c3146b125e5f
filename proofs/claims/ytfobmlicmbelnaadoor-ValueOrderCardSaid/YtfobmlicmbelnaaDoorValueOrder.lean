/- droverlaw02.ValueOrder returns true whatever its arguments: Compare is an order; two right values are the same if their bytes, or their texts, are. For every input, without conditions. -/
import Derived.Test.YtfobmlicmbelnaaDoorRow
import Derived.Test.YtfobmlicmbelnaaDoorAwake02
import Derived.Test.YtfobmlicmbelnaaDoorOpen
import Derived.Test.YtfobmlicmbelnaaDoorDoor
import Derived.Test.YtfobmlicmbelnaaDoorSmall
import Derived.Test.YtfobmlicmbelnaaDoorLaw02
import Derived.Test.YtfobmlicmbelnaaDoorRight02
import Derived.Test.YtfobmlicmbelnaaDoorCards
import Derived.SevenTiedAt
import Derived.Deep.RegionHeld3
import Derived.Deep.DeepCutAuto
import Derived.BigQuiet
namespace Go.Proofs.YtfobmlicmbelnaaDoor.valueOrder
open Go.ChangeShapes Go.WideShapes Go.ChangeAt Go.RowKit
set_option linter.unusedVariables false

theorem map_inj : ∀ {a b : List Nat}, (∀ x ∈ a, x < 256) → (∀ x ∈ b, x < 256) → a.map UInt8.ofNat = b.map UInt8.ofNat → a = b
  | [], [], _, _, _ => rfl
  | [], _ :: _, _, _, h => by simp at h
  | _ :: _, [], _, _, h => by simp at h
  | x :: a, y :: b, ha, hb, h => by
    simp only [List.map_cons, List.cons.injEq] at h
    have h1 := congrArg UInt8.toNat h.1
    have hx := ha x (by simp)
    have hy := hb y (by simp)
    simp only [UInt8.toNat_ofNat'] at h1
    have e : x = y := by omega
    rw [e, map_inj (fun z hz => ha z (by simp [hz])) (fun z hz => hb z (by simp [hz])) h.2]
theorem show_same {t u : Va} (ht : right t = true) (hu : right u = true) (ot : Ok 16 t) (ou : Ok 16 u) : ((strOf (showT t)).toList == (strOf (showT u)).toList) = decide (cmV t u = 0) := by
  rw [Bool.eq_iff_iff, beq_iff_eq, decide_eq_true_iff, cmV_zero ht hu]
  constructor
  · intro h
    unfold showT at h
    rw [if_pos ht, if_pos hu, toList_strOf, toList_strOf] at h
    have h := map_inj (shw_bytes 16 t ot) (shw_bytes 16 u ou) h
    obtain ⟨m, hm⟩ := right_rgt ht
    obtain ⟨k, hk⟩ := right_rgt hu
    have := shw_inj 16 t u (rgt_rt 16 _ 256 m hm).1 (rgt_rt 16 _ 256 k hk).1 ot ou [] [] (by intro c h; simp at h) (by intro c h; simp at h) (by simpa using h)
    exact this.1
  · rintro rfl
    rfl
theorem bytes_same {t u : Va} (ht : right t = true) (hu : right u = true) (ot : Ok 16 t) (ou : Ok 16 u) : (enc 16 t = enc 16 u) = (cmV t u = 0) := by
  rw [eq_iff_iff, cmV_zero ht hu]
  constructor
  · intro h
    exact enc_same ht hu ot ou [] [] (by simpa using h)
  · rintro rfl
    rfl

set_option maxRecDepth 100000 in
set_option maxHeartbeats 4000000 in
theorem walk (w : World) (htab : Tab w w.heap.size) (v0 : Value) (v1 : Value) (v2 : Value) (w0 : ∃ t, Rep w w.heap.size v0 t) (w1 : ∃ t, Rep w w.heap.size v1 t) (w2 : ∃ t, Rep w w.heap.size v2 t) :
    Calls Tryd.prog 5 #[v0, v1, v2] w fun e w' => e = .returned (.bool true) ∧ Below w.heap.size w w' := by
  obtain ⟨t, ht⟩ := w0
  obtain ⟨u, hu⟩ := w1
  obtain ⟨v, hv⟩ := w2
  have tabs : ∀ w', Below w.heap.size w w' → Tab w' w'.heap.size := fun w' h => fun w2 h2 => htab.below h w2 (h2.mono h.size)
  obtain ⟨y0, y1, y2, y3, rfl⟩ := ht.form
  obtain ⟨z0, z1, z2, z3, rfl⟩ := hu.form
  obtain ⟨x0, x1, x2, x3, rfl⟩ := hv.form
  obtain ⟨W, hW⟩ : ∃ W : World, W = ((w.alloc (.cells #[y0, y1, y2, y3] 25)).alloc (.cells #[z0, z1, z2, z3] 25)).alloc (.cells #[x0, x1, x2, x3] 25) := ⟨_, rfl⟩
  have q1 : W.heap[w.heap.size]? = some (.cells #[y0, y1, y2, y3] 25 (0, 0)) := by rw [hW]; exact heap_old (heap_old (heap_new _ _) _) _
  have q2 : W.heap[w.heap.size + 1]? = some (.cells #[z0, z1, z2, z3] 25 (0, 0)) := by rw [hW]; exact heap_old (heap_new' _ _ _ (by simp)) _
  have q3 : W.heap[w.heap.size + 1 + 1]? = some (.cells #[x0, x1, x2, x3] 25 (0, 0)) := by rw [hW]; exact heap_new' _ _ _ (by simp)
  have hb0 : Below w.heap.size w W := by rw [hW]; exact (two _ _ _).alloc (by simp; omega) _
  have QS : ∀ w', Below W.heap.size W w' → ((w'.cell? ⟨w.heap.size, 0, none⟩ = some y0 ∧ w'.cell? ⟨w.heap.size, 1, none⟩ = some y1 ∧ w'.cell? ⟨w.heap.size, 2, none⟩ = some y2 ∧ w'.cell? ⟨w.heap.size, 3, none⟩ = some y3) ∧
      (w'.cell? ⟨w.heap.size + 1, 0, none⟩ = some z0 ∧ w'.cell? ⟨w.heap.size + 1, 1, none⟩ = some z1 ∧ w'.cell? ⟨w.heap.size + 1, 2, none⟩ = some z2 ∧ w'.cell? ⟨w.heap.size + 1, 3, none⟩ = some z3) ∧
      (w'.cell? ⟨w.heap.size + 1 + 1, 0, none⟩ = some x0 ∧ w'.cell? ⟨w.heap.size + 1 + 1, 1, none⟩ = some x1 ∧ w'.cell? ⟨w.heap.size + 1 + 1, 2, none⟩ = some x2 ∧ w'.cell? ⟨w.heap.size + 1 + 1, 3, none⟩ = some x3) ∧ w.heap.size + 1 + 1 < w'.heap.size) := fun w' h =>
    ⟨box4 (heap_below q1 h), box4 (heap_below q2 h), box4 (heap_below q3 h), lt_heap (heap_below q3 h)⟩
  have QB : ∀ w', Below W.heap.size W w' → Below w.heap.size w w' := fun w' h => hb0.trans (h.mono hb0.size)
  have HQS := Lib.hid QS
  have HQB := Lib.hid QB
  have htabs := Lib.hid tabs
  clear q1 q2 q3 QS QB tabs
  go_enter Tryd.func5, Tryd.ntmps5
  go_wp2_with fail
  rw [← hW]
  clear hW
  refine (small_any 60 (by omega) 20 t _ _ w.heap.size (by omega) (ht.under hb0) hb0.size).mono ?_
  rintro e w3 ⟨rfl, hb3⟩
  obtain ⟨⟨d0, d1, d2, d3⟩, ⟨e0, e1, e2, e3⟩, ⟨f0, f1, f2, f3⟩, s3⟩ := HQS.out _ hb3
  cases hs : smallV 60 20 t with
  | false =>
    clear hs
    go_wp2_with fail
    refine (awake_any _ (htabs.out _ (HQB.out _ hb3))).mono ?_
    rintro e w5 ⟨rfl, hb5⟩
    go_wp2
    go_ret
    exact ⟨rfl, nxt (HQB.out _ hb3) hb5⟩
  | true =>
  clear hs
  go_wp2_with fail
  refine (small_any 60 (by omega) 20 u _ _ w.heap.size (by omega) (hu.under (HQB.out _ hb3)) (HQB.out _ hb3).size).mono ?_
  rintro e w4 ⟨rfl, hb4'⟩
  have hb4 := nxt hb3 hb4'
  clear hb4' hb3 d0 d1 d2 d3 e0 e1 e2 e3 f0 f1 f2 f3 s3
  obtain ⟨⟨d0, d1, d2, d3⟩, ⟨e0, e1, e2, e3⟩, ⟨f0, f1, f2, f3⟩, s3⟩ := HQS.out _ hb4
  cases hs : smallV 60 20 u with
  | false =>
    clear hs
    go_wp2_with fail
    refine (awake_any _ (htabs.out _ (HQB.out _ hb4))).mono ?_
    rintro e w5 ⟨rfl, hb5⟩
    go_wp2
    go_ret
    exact ⟨rfl, nxt (HQB.out _ hb4) hb5⟩
  | true =>
  clear hs
  go_wp2_with fail
  refine (small_any 60 (by omega) 20 v _ _ w.heap.size (by omega) (hv.under (HQB.out _ hb4)) (HQB.out _ hb4).size).mono ?_
  rintro e w5 ⟨rfl, hb5'⟩
  have hb5 := nxt hb4 hb5'
  clear hb5' hb4 d0 d1 d2 d3 e0 e1 e2 e3 f0 f1 f2 f3 s3
  obtain ⟨⟨d0, d1, d2, d3⟩, ⟨e0, e1, e2, e3⟩, ⟨f0, f1, f2, f3⟩, s3⟩ := HQS.out _ hb5
  cases hs : smallV 60 20 v with
  | false =>
    clear hs
    go_wp2_with fail
    refine (awake_any _ (htabs.out _ (HQB.out _ hb5))).mono ?_
    rintro e w6 ⟨rfl, hb6⟩
    go_wp2
    go_ret
    exact ⟨rfl, nxt (HQB.out _ hb5) hb6⟩
  | true =>
  clear hs
  have hX := cmv_range 16 t u
  have hXa := cmv_anti 16 t u
  have hXs := cmv_self 16 t
  have hT := cmv_tri 16 t u v
  have hok := ht.ok 16
  have hok' := hu.ok 16
  have HSame := Lib.hid (fun a b => show_same (t := t) (u := u) a b hok hok')
  have HByte := Lib.hid (fun a b => bytes_same (t := t) (u := u) a b hok hok')
  obtain ⟨X, hXX⟩ : ∃ X, X = cmV t u := ⟨_, rfl⟩
  obtain ⟨Y, hYY⟩ : ∃ Y, Y = cmV u v := ⟨_, rfl⟩
  obtain ⟨Z, hZZ⟩ : ∃ Z, Z = cmV t v := ⟨_, rfl⟩
  have hba : cmV u t = -X := by rw [hXX]; exact hXa
  change -1 ≤ cmV t u ∧ cmV t u ≤ 1 at hX
  change Tri (cmV t u) (cmV u v) (cmV t v) at hT
  change cmV t t = 0 at hXs
  rw [← hXX] at hX hT HSame HByte
  rw [← hYY, ← hZZ] at hT
  have HX := Lib.hid hXX
  have HY := Lib.hid hYY
  have HZ := Lib.hid hZZ
  have HBA := Lib.hid hba
  have HXS := Lib.hid hXs
  have HT := Lib.hid hT
  obtain ⟨hX0, hX1⟩ := hX
  clear hXX hYY hZZ hba hXs hT hXa
  go_wp2_with fail
  go_region_held3 (fun w' => (w'.cell? ⟨w.heap.size, 0, none⟩ = some y0 ∧ w'.cell? ⟨w.heap.size, 1, none⟩ = some y1 ∧ w'.cell? ⟨w.heap.size, 2, none⟩ = some y2 ∧ w'.cell? ⟨w.heap.size, 3, none⟩ = some y3) ∧
      (w'.cell? ⟨w.heap.size + 1, 0, none⟩ = some z0 ∧ w'.cell? ⟨w.heap.size + 1, 1, none⟩ = some z1 ∧ w'.cell? ⟨w.heap.size + 1, 2, none⟩ = some z2 ∧ w'.cell? ⟨w.heap.size + 1, 3, none⟩ = some z3) ∧
      (w'.cell? ⟨w.heap.size + 1 + 1, 0, none⟩ = some x0 ∧ w'.cell? ⟨w.heap.size + 1 + 1, 1, none⟩ = some x1 ∧ w'.cell? ⟨w.heap.size + 1 + 1, 2, none⟩ = some x2 ∧ w'.cell? ⟨w.heap.size + 1 + 1, 3, none⟩ = some x3)) (go_keep)
    (first
      | (go_at_call 23
         (with_reducible show Calls _ _ #[.agg #[y0, y1, y2, y3], .agg #[z0, z1, z2, z3]] _ _)
         refine (compare_any t u _ _ _ w.heap.size (ht.under (HQB.out _ hb5).drew) (hu.under (HQB.out _ hb5).drew) (HQB.out _ hb5).size).mono ?_
         rintro e w6 ⟨rfl, hb6'⟩
         rw [← HX.out]
         have hb6 := nxt hb5 (of_drew hb6')
         clear d0 d1 d2 d3 e0 e1 e2 e3 f0 f1 f2 f3 s3
         obtain ⟨⟨d0, d1, d2, d3⟩, ⟨e0, e1, e2, e3⟩, ⟨f0, f1, f2, f3⟩, s3⟩ := HQS.out _ hb6)
      | (go_at_call 23
         (with_reducible show Calls _ _ #[.agg #[z0, z1, z2, z3], .agg #[x0, x1, x2, x3]] _ _)
         refine (compare_any u v _ _ _ w.heap.size (hu.under (HQB.out _ hb6)) (hv.under (HQB.out _ hb6)) (HQB.out _ hb6).size).mono ?_
         rintro e w7 ⟨rfl, hb7'⟩
         rw [← HY.out]
         have hb7 := nxt hb6 hb7'
         clear d0 d1 d2 d3 e0 e1 e2 e3 f0 f1 f2 f3 s3
         obtain ⟨⟨d0, d1, d2, d3⟩, ⟨e0, e1, e2, e3⟩, ⟨f0, f1, f2, f3⟩, s3⟩ := HQS.out _ hb7)
      | (go_at_call 23
         (with_reducible show Calls _ _ #[.agg #[y0, y1, y2, y3], .agg #[x0, x1, x2, x3]] _ _)
         refine (compare_any t v _ _ _ w.heap.size (ht.under (HQB.out _ hb7)) (hv.under (HQB.out _ hb7)) (HQB.out _ hb7).size).mono ?_
         rintro e w8 ⟨rfl, hb8'⟩
         rw [← HZ.out]
         have hb8 := nxt hb7 hb8'
         clear d0 d1 d2 d3 e0 e1 e2 e3 f0 f1 f2 f3 s3
         obtain ⟨⟨d0, d1, d2, d3⟩, ⟨e0, e1, e2, e3⟩, ⟨f0, f1, f2, f3⟩, s3⟩ := HQS.out _ hb8)
      | (fail))
  clear hb5 hb6 hb7 hb6' hb7' hb8'
  obtain ⟨bx, hbx⟩ : ∃ bx, bx = decide (X = 0) := ⟨_, rfl⟩
  have hbx1 : (X == 0) = bx := by rw [hbx]; rfl
  have HBX := Lib.hid hbx
  clear hbx
  have hbb : (bx != bx) = false := by simp
  have hneg : IntKind.i64.wrap (-X) = -X := by rw [IntKind.wrap_i64]; omega
  have hg1 : decide (X < -1) = false := by simp; omega
  have hg2 : decide (1 < X) = false := by simp; omega
  go_wp2_with fail
  refine (compare_any u t _ _ _ w.heap.size (hu.under (HQB.out _ hb8)) (ht.under (HQB.out _ hb8)) (HQB.out _ hb8).size).mono ?_
  rintro e w9 ⟨rfl, hb9'⟩
  rw [HBA.out]
  have hb9 := nxt hb8 hb9'
  clear hb9' hb8
  clear d0 d1 d2 d3 e0 e1 e2 e3 f0 f1 f2 f3 s3
  obtain ⟨⟨d0, d1, d2, d3⟩, ⟨e0, e1, e2, e3⟩, ⟨f0, f1, f2, f3⟩, s3⟩ := HQS.out _ hb9
  go_wp2_with fail
  refine (compare_any t t _ _ _ w.heap.size (ht.under (HQB.out _ hb9)) (ht.under (HQB.out _ hb9)) (HQB.out _ hb9).size).mono ?_
  rintro e w10 ⟨rfl, hb10'⟩
  rw [HXS.out]
  have hb10 := nxt hb9 hb10'
  clear hb10' hb9
  clear d0 d1 d2 d3 e0 e1 e2 e3 f0 f1 f2 f3 s3
  obtain ⟨⟨d0, d1, d2, d3⟩, ⟨e0, e1, e2, e3⟩, ⟨f0, f1, f2, f3⟩, s3⟩ := HQS.out _ hb10
  go_wp2_with fail
  refine (same_val t u _ _ _ w.heap.size (ht.under (HQB.out _ hb10)) (hu.under (HQB.out _ hb10)) (HQB.out _ hb10).size).mono ?_
  rintro e w11 ⟨rfl, hb11'⟩
  rw [← HX.out, ← HBX.out]
  have hb11 := nxt hb10 hb11'
  clear hb11' hb10
  clear d0 d1 d2 d3 e0 e1 e2 e3 f0 f1 f2 f3 s3
  obtain ⟨⟨d0, d1, d2, d3⟩, ⟨e0, e1, e2, e3⟩, ⟨f0, f1, f2, f3⟩, s3⟩ := HQS.out _ hb11
  go_upto_region 6 with (fail)
  go_cut [86] (fun b wx => b = .bool false ∧ w11 = wx)
  case first =>
    clear d0 d1 d2 d3 e0 e1 e2 e3 f0 f1 f2 f3 s3
    clear hbx1 hbb hneg hg1 hg2
    by_cases a1 : X ≤ 0
    · have g1 : decide (X ≤ 0) = true := by simpa using a1
      by_cases a2 : Y ≤ 0
      · obtain ⟨a3, a4⟩ := HT.out a1 a2
        have g2 : decide (Y ≤ 0) = true := by simpa using a2
        have g3 : decide (0 < Z) = false := by simp; omega
        by_cases a5 : Z = 0
        · obtain ⟨a6, a7⟩ := a4 a5
          have g4 : (Z == 0) = true := by simpa using a5
          have g5 : decide (X < 0) = false := by simp; omega
          have g6 : decide (Y < 0) = false := by simp; omega
          clear a4 a5 a6 a7 HT
          go_wp2_with fail
          go_meet
          exact ⟨rfl, rfl⟩
        · have g4 : (Z == 0) = false := beq_eq_false_iff_ne.2 a5
          clear a4 a5 HT
          go_wp2_with fail
          go_meet
          exact ⟨rfl, rfl⟩
      · have g2 : decide (Y ≤ 0) = false := by simp; omega
        go_wp2_with fail
        go_meet
        exact ⟨rfl, rfl⟩
    · have g1 : decide (X ≤ 0) = false := by simp; omega
      go_wp2_with fail
      go_meet
      exact ⟨rfl, rfl⟩
  case rest =>
  obtain ⟨rfl, rfl⟩ := hcut
  clear hneg hg1 hg2 HT HBA HXS HY HZ
  go_wp2_with fail
  refine (right_any t _ _ w.heap.size (ht.under (HQB.out _ hb11)) (HQB.out _ hb11).size).mono ?_
  rintro e w12 ⟨rfl, hb12'⟩
  have hb12 := nxt hb11 hb12'
  clear hb12' hb11
  clear d0 d1 d2 d3 e0 e1 e2 e3 f0 f1 f2 f3 s3
  obtain ⟨⟨d0, d1, d2, d3⟩, ⟨e0, e1, e2, e3⟩, ⟨f0, f1, f2, f3⟩, s3⟩ := HQS.out _ hb12
  cases hr : right t with
  | false =>
    clear hr
    go_wp2_with fail
    refine (awake_any _ (htabs.out _ (HQB.out _ hb12))).mono ?_
    rintro e w6 ⟨rfl, hb6⟩
    go_wp2
    go_ret
    exact ⟨rfl, nxt (HQB.out _ hb12) hb6⟩
  | true =>
  have HR := Lib.hid hr
  clear hr
  go_wp2_with fail
  refine (right_any u _ _ w.heap.size (hu.under (HQB.out _ hb12)) (HQB.out _ hb12).size).mono ?_
  rintro e w13 ⟨rfl, hb13'⟩
  have hb13 := nxt hb12 hb13'
  clear hb13' hb12
  clear d0 d1 d2 d3 e0 e1 e2 e3 f0 f1 f2 f3 s3
  obtain ⟨⟨d0, d1, d2, d3⟩, ⟨e0, e1, e2, e3⟩, ⟨f0, f1, f2, f3⟩, s3⟩ := HQS.out _ hb13
  cases hr : right u with
  | false =>
    clear hr
    go_wp2_with fail
    refine (awake_any _ (htabs.out _ (HQB.out _ hb13))).mono ?_
    rintro e w6 ⟨rfl, hb6⟩
    go_wp2
    go_ret
    exact ⟨rfl, nxt (HQB.out _ hb13) hb6⟩
  | true =>
  have HR' := Lib.hid hr
  clear hr
  have HSame' : Hid (((strOf (showT t)).toList == (strOf (showT u)).toList) = decide (X = 0)) := HSame.out HR.out HR'.out
  have HByte' : Hid (decide (enc 16 t = enc 16 u) = bx) := by
    show _ = _
    rw [HBX.out, decide_eq_decide, HByte.out HR.out HR'.out]
  have HE8 := Lib.hid (enc_bytes HR.out hok)
  have HE8' := Lib.hid (enc_bytes HR'.out hok')
  obtain ⟨s1, hs1⟩ : ∃ s, s = strOf (showT t) := ⟨_, rfl⟩
  obtain ⟨s2, hs2⟩ : ∃ s, s = strOf (showT u) := ⟨_, rfl⟩
  have hs3 : (s1.toList == s2.toList) = bx := by
    rw [HBX.out, hs1, hs2, HSame'.out]
  have HS1 := Lib.hid hs1
  have HS2 := Lib.hid hs2
  clear hs1 hs2 HSame HByte
  go_wp2_with fail
  refine (put_any t _ _ [] _ w.heap.size (ht.under (HQB.out _ hb13)) (HQB.out _ hb13).size (Bs.nil _) (by simp)).mono ?_
  rintro e w14 ⟨hb14', _, hput⟩
  obtain ⟨u5, rfl, ho5⟩ := hput HR.out
  rw [List.nil_append] at ho5
  have hu5 := Bs.of_own ho5 HE8.out
  obtain ⟨A5, c5, rfl, hc5, _, _, _, _⟩ := ho5.form
  have hb14 := nxt hb13 hb14'
  clear hb14' hb13 hput ho5
  clear d0 d1 d2 d3 e0 e1 e2 e3 f0 f1 f2 f3 s3
  obtain ⟨⟨d0, d1, d2, d3⟩, ⟨e0, e1, e2, e3⟩, ⟨f0, f1, f2, f3⟩, s3⟩ := HQS.out _ hb14
  go_wp2_with fail
  refine (put_any u _ _ [] _ w.heap.size (hu.under (HQB.out _ hb14)) (HQB.out _ hb14).size (Bs.nil _) (by simp)).mono ?_
  rintro e w15 ⟨hb15', _, hput⟩
  obtain ⟨u6, rfl, ho6⟩ := hput HR'.out
  rw [List.nil_append] at ho6
  have hu6 := Bs.of_own ho6 HE8'.out
  obtain ⟨A6, c6, rfl, hc6, _, _, _, _⟩ := ho6.form
  have hb15 := nxt hb14 hb15'
  have hu5b := hu5.below hb15'
  clear hb15' hb14 hput ho6 hu5
  clear d0 d1 d2 d3 e0 e1 e2 e3 f0 f1 f2 f3 s3
  obtain ⟨⟨d0, d1, d2, d3⟩, ⟨e0, e1, e2, e3⟩, ⟨f0, f1, f2, f3⟩, s3⟩ := HQS.out _ hb15
  go_wp2_with fail
  go_region_held3 (fun w' => (w'.cell? ⟨w.heap.size, 0, none⟩ = some y0 ∧ w'.cell? ⟨w.heap.size, 1, none⟩ = some y1 ∧ w'.cell? ⟨w.heap.size, 2, none⟩ = some y2 ∧ w'.cell? ⟨w.heap.size, 3, none⟩ = some y3) ∧
      (w'.cell? ⟨w.heap.size + 1, 0, none⟩ = some z0 ∧ w'.cell? ⟨w.heap.size + 1, 1, none⟩ = some z1 ∧ w'.cell? ⟨w.heap.size + 1, 2, none⟩ = some z2 ∧ w'.cell? ⟨w.heap.size + 1, 3, none⟩ = some z3)) (go_keep)
    (first
      | (go_at_call 27
         refine (same_bs _ _ (enc 16 t) (enc 16 u) bx _ (by exact hu5b) (by exact hu6) HByte'.out).mono ?_
         rintro e w16 ⟨rfl, rfl⟩)
      | (go_at_call 19
         (with_reducible show Calls _ _ #[.agg #[y0, y1, y2, y3]] _ _)
         refine (show_any t _ _ w.heap.size (ht.under (HQB.out _ hb15).drew) (HQB.out _ hb15).size (htabs.out _ (HQB.out _ hb15).drew)).mono ?_
         rintro e w17 ⟨rfl, hb17'⟩
         rw [← HS1.out]
         have hb17 := nxt hb15 (of_drew hb17')
         clear d0 d1 d2 d3 e0 e1 e2 e3 f0 f1 f2 f3 s3
         obtain ⟨⟨d0, d1, d2, d3⟩, ⟨e0, e1, e2, e3⟩, ⟨f0, f1, f2, f3⟩, s3⟩ := HQS.out _ hb17)
      | (go_at_call 19
         (with_reducible show Calls _ _ #[.agg #[z0, z1, z2, z3]] _ _)
         refine (show_any u _ _ w.heap.size (hu.under (HQB.out _ hb17)) (HQB.out _ hb17).size (htabs.out _ (HQB.out _ hb17))).mono ?_
         rintro e w18 ⟨rfl, hb18'⟩
         rw [← HS2.out]
         have hb18 := nxt hb17 hb18'
         clear d0 d1 d2 d3 e0 e1 e2 e3 f0 f1 f2 f3 s3
         obtain ⟨⟨d0, d1, d2, d3⟩, ⟨e0, e1, e2, e3⟩, ⟨f0, f1, f2, f3⟩, s3⟩ := HQS.out _ hb18)
      | (fail))
  all_goals
    have hbw := HQB.out _ hb18
    clear d0 d1 d2 d3 e0 e1 e2 e3 f0 f1 f2 f3 s3
    go_wp2_with fail
    refine (awake_any _ (htabs.out _ hbw)).mono ?_
    rintro e w19 ⟨rfl, hb19⟩
    go_wp2
    go_ret
    exact ⟨rfl, nxt hbw hb19⟩

set_option maxRecDepth 100000 in
theorem lifted (os : Os) (started : os.Started) (H : Type) (enc : TypeId × Value → H) :
    ReturnsInHanded {} Tryd.checked os 5 .any (fun w args => (Rows.valueOrderSpec.pre enc Tryd.prog Tryd.f5 [] false w args ∧ laidMetH Tryd.prog laid3 w) ∧ sizedMet enc Tryd.prog Tryd.f5 (OpenSpec.ofChange Rows.valueOrderSpec) false w args) (Rows.valueOrderSpec.post enc Tryd.prog Tryd.f5 false true false false) := by
  refine returnsInHanded_of_change_and (C := Tryd.checked) (X := fun w _ => laidMetH Tryd.prog laid3 w) (fun _ _ _ hh h => h.of_heap hh) knob_own started (by kernel_rfl) Tryd.func5
    (ChangeSpec.witness_shaped (enc := enc) (C := Tryd.checked) (os := os) (X := fun w _ => laidMetH Tryd.prog laid3 w) false (World.doorLaid Tryd.prog 400 os) #[.agg #[.int .u8 0, .int .i64 0, .string ⟨#[]⟩, .slice none 0 0], .agg #[.int .u8 0, .int .i64 0, .string ⟨#[]⟩, .slice none 0 0], .agg #[.int .u8 0, .int .i64 0, .string ⟨#[]⟩, .slice none 0 0]] 8 rfl (World.shaped_of_RefB (by kernel_rfl) (by kernel_rfl)) (by kernel_rfl) (by kernel_rfl) (by kernel_rfl) (door_met os _)) ?_
  intro W base args ds gs before hval0 hW _ _ hL _
  have hval : ∀ (j : Nat) t v, Tryd.f5.params[j]? = some t → args[j]? = some v → Value.okWide Tryd.prog W .any base t v := hval0
  have hW' := hW
  obtain ⟨p, q, hA0, hV, rfl, hfz, hnd⟩ := hW
  have hA : DataW.TrodAll enc Tryd.prog W 0 (fun _ => true) true Tryd.f5.params.toList args.toList ds p := hA0
  rw [Tryd.params5] at hA hval
  obtain ⟨v0, vs0, d0, ds0, p0, q0, hargs, rfl, rfl, h0, r0⟩ := trodAll_cons hA
  obtain ⟨v1, vs1, d1, ds1, p1, q1, rfl, rfl, rfl, h1, r1⟩ := trodAll_cons r0
  obtain ⟨v2, vs2, d2, ds2, p2, q2, rfl, rfl, rfl, h2, r2⟩ := trodAll_cons r1
  obtain ⟨rfl, rfl, rfl⟩ := trodAll_nil r2
  obtain rfl : args = #[v0, v1, v2] := by cases args; simp_all
  obtain ⟨rfl, rfl⟩ := trodVars_none hV
  have k0 := h0
  have lt0 : ∀ x ∈ p0, x.block < W.heap.size := by obtain ⟨m, hm⟩ := k0; exact DataW.trod_lt m _ _ _ hm
  have w0 := val_open (hval 0 25 v0 rfl rfl) h0
  have k1 := h1
  have lt1 : ∀ x ∈ p1, x.block < W.heap.size := by obtain ⟨m, hm⟩ := k1; exact DataW.trod_lt m _ _ _ hm
  have w1 := val_open (hval 1 25 v1 rfl rfl) h1
  have k2 := h2
  have lt2 : ∀ x ∈ p2, x.block < W.heap.size := by obtain ⟨m, hm⟩ := k2; exact DataW.trod_lt m _ _ _ hm
  have w2 := val_open (hval 2 25 v2 rfl rfl) h2
  clear hA0 hval0
  refine (walk W (tab_laid hL) v0 v1 v2 w0 w1 w2).mono fun e W' ⟨he, bel⟩ => ?_
  subst he
  exact ⟨_, rfl, _, _, _, [], _, [], hW', trodAll_mk1 (shut_bool Tryd.underlying4 _), (trodAll_cons_mk (Below.trod laid_out (by kernel_rfl) (of_decide_eq_true (by kernel_rfl)) k0 bel lt0) (trodAll_cons_mk (Below.trod laid_out (by kernel_rfl) (of_decide_eq_true (by kernel_rfl)) k1 bel lt1) (trodAll_cons_mk (Below.trod laid_out (by kernel_rfl) (of_decide_eq_true (by kernel_rfl)) k2 bel lt2) (trodAll_mk0)))), rfl, bel.frame _, fun h => by cases h⟩

theorem over : Rows.valueOrderRow.holds Tryd.pinned (OpenSpec.ofChange Rows.valueOrderSpec) :=
  OpenClaim.holds_of_wide 5 Tryd.f5 rfl rfl rfl rfl rfl rfl rfl ⟨rfl, rfl, rfl, rfl, rfl⟩ rfl rfl rfl rfl rfl (by kernel_rfl) Tryd.func5 (by kernel_rfl)
    (of_decide_eq_true (by kernel_rfl)) (by unfold Func.isWrapper; first | (rw [if_pos (by decide +kernel)]; kernel_rfl) | (rw [if_neg (by decide +kernel)]; exact ⟨rfl, rfl⟩))
    (fun os started H enc _ => lifted os started H enc)

theorem proved : Rows.ValueOrderCardSaid :=
  Claim7.holds_tied_plain_at .later [] [.data, .data, .data] true Rows.valueOrderCard.stood.harness false
    over (fun _ h => by cases h) (by kernel_rfl) (fun _ h => by cases h) valueOrder_row_tie rfl ⟨rfl, rfl⟩ (by kernel_rfl) rfl
    (fun f fn hf hfn => by
      obtain rfl : f = 5 := Option.some.inj ((show Tryd.prog.funcNamed "drover/droverlaw02.ValueOrder" = some 5 by kernel_rfl).symm.trans hf) |>.symm
      obtain rfl : fn = Tryd.f5 := (Option.some.inj (Tryd.func5.symm.trans hfn)).symm
      exact ⟨by kernel_rfl, fun j t ht => by
        have hall : (Tryd.f5.params.toList.all fun u => !Tryd.prog.wantsStandIn u) = true := by kernel_rfl
        have hm : t ∈ Tryd.f5.params.toList := Array.mem_toList_iff.2 (Array.mem_of_getElem? ht)
        exact (show Tryd.prog.wantsStandIn t = false by simpa using List.all_eq_true.1 hall t hm)⟩)
    (by kernel_rfl)
end Go.Proofs.YtfobmlicmbelnaaDoor.valueOrder
