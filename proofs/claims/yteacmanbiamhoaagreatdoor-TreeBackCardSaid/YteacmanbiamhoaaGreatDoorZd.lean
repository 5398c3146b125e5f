/- droverkit.SameBodies, SameProgram at what reads as the same: the walks. -/
import Derived.Test.YteacmanbiamhoaaGreatDoorZac
namespace Go.Proofs.YteacmanbiamhoaaGreatDoor
open Go.RowKit
set_option linter.unusedVariables false

theorem bdsB_at2 {ls : Bool} : ∀ {l m : List Bd}, bdsB ls l m = true → l.length = m.length ∧ ∀ (j : Nat) (x y : Bd), l[j]? = some x → m[j]? = some y → bdB ls x y = true
  | [], [], _ => ⟨rfl, by simp⟩
  | x :: r, y :: q, h => by
    rw [bdsB, Bool.and_eq_true] at h
    obtain ⟨h1, h2⟩ := bdsB_at2 h.2
    refine ⟨by simp [h1], fun j a b ha hb => ?_⟩
    cases j with
    | zero =>
      simp at ha hb
      subst ha hb
      exact h.1
    | succ j => exact h2 j a b (by simpa using ha) (by simpa using hb)
  | [], _ :: _, h => by simp [bdsB] at h
  | _ :: _, [], h => by simp [bdsB] at h
/-- Four cells, one behind the other. -/
theorem four_cells {w : World} {b o : Nat} {a0 a1 a2 a3 : Value} (h : ∀ i u, [a0, a1, a2, a3][i]? = some u → w.cell? ⟨b, o + i, none⟩ = some u) :
    w.cell? ⟨b, o, none⟩ = some a0 ∧ w.cell? ⟨b, o + 1, none⟩ = some a1 ∧ w.cell? ⟨b, o + 2, none⟩ = some a2 ∧ w.cell? ⟨b, o + 3, none⟩ = some a3 :=
  ⟨h 0 _ rfl, h 1 _ rfl, h 2 _ rfl, h 3 _ rfl⟩
set_option maxRecDepth 100000 in
set_option maxHeartbeats 8000000 in
theorem samebodies_any (ls : Bool) (l m : List Bd) (hlm : bdsB ls l m = true) (w : World) (S S' : Nat → Prop) (v v' : Value) (hS : ∀ b, S b → b < w.heap.size) (hS' : ∀ b, S' b → b < w.heap.size) (h : Rd w S (.row 4 (l.map Bd.nd)) v) (h' : Rd w S' (.row 4 (m.map Bd.nd)) v') :
    Calls Tryz.prog 63 #[v, v', .bool ls] w fun e w' => e = .returned (.bool true) ∧ Below w.heap.size w w' := by
  obtain ⟨hlen, hat⟩ := bdsB_at2 hlm
  rw [Rd] at h h'
  obtain ⟨A, c, rfl, hc, hcm, hr⟩ := h
  obtain ⟨A', c', rfl, hc', hcm', hr'⟩ := h'
  rw [List.length_map] at hc hc' ⊢
  rw [← hlen] at hc'
  rw [List.length_map, ← hlen]
  have HR := Lib.hid hr
  have HR' := Lib.hid hr'
  have HSS := Lib.hid hS
  have HSS' := Lib.hid hS'
  have HAT := Lib.hid hat
  have HLEN := Lib.hid hlen
  obtain ⟨n, hn⟩ : ∃ n, Hid (l.length = n) := ⟨_, Lib.hid rfl⟩
  rw [hn.out] at hc hc' ⊢
  unfold maxLen at hcm
  clear hr hr' hcm' hlm hlen hat hS hS'
  go_enter Tryz.func63, Tryz.ntmps63
  go_wp2_with fail
  go_loopg [7] n (fun g i wr => ∃ (j : Nat), j + g = n ∧ i = .int .i64 (j : Int) ∧ Hid (Below w.heap.size w wr))
  case atStart => exact ⟨0, by omega, rfl, Lib.hid (Below.refl _ _)⟩
  case round =>
    obtain ⟨j, hj, rfl, HB⟩ := hrel
    cases gk with
    | zero =>
      have h1 : ¬ (j : Int) < (n : Int) := by omega
      go_wp2_with fail
      go_ret
      exact ⟨rfl, HB.out⟩
    | succ g =>
      have h1 : (j : Int) < (n : Int) := by omega
      have hjl : j < l.length := by rw [hn.out]; omega
      have hjm : j < m.length := by rw [← HLEN.out]; exact hjl
      obtain ⟨b, o, vs, rfl, hSb, hvl, hrg, hx⟩ := HR.out.at j (Bd.nd l[j]) (by simp [hjl])
      obtain ⟨b', o', vs', rfl, hSb', hvl', hrg', hx'⟩ := HR'.out.at j (Bd.nd m[j]) (by simp [hjm])
      have hsm := HAT.out j l[j] m[j] (by simp [hjl]) (by simp [hjm])
      generalize l[j] = x at *
      generalize m[j] = y at *
      obtain ⟨s, ps, st, ln⟩ := x
      obtain ⟨s', ps', st', ln'⟩ := y
      unfold bdB at hsm
      simp only [Bool.and_eq_true, beq_iff_eq] at hsm
      obtain ⟨⟨⟨rfl, hln⟩, rfl⟩, hst⟩ := hsm
      obtain ⟨u1, u2, e1, -, -, r1, r2⟩ := (hd_rd s ps 6 (st.map Sm.nd) ln _).1 hx
      obtain ⟨t1, t2, e2, -, -, q1, q2⟩ := (hd_rd s ps 6 (st'.map Sm.nd) ln' _).1 hx'
      obtain ⟨X, hX⟩ : ∃ X, strOf s = X := ⟨_, rfl⟩
      rw [hX] at e1 e2
      obtain rfl := bx4v e1
      obtain rfl := bx4v e2
      have hbq : b < w.heap.size := HSS.out b hSb
      have hbq' : b' < w.heap.size := HSS'.out b' hSb'
      obtain ⟨A1, n1, c1, rfl⟩ := r1.rowf
      obtain ⟨A2, n2, c2, rfl⟩ := r2.rowf
      obtain ⟨B1, m1, d1, rfl⟩ := q1.rowf
      obtain ⟨B2, m2, d2, rfl⟩ := q2.rowf
      have HCL : Hid (∀ w', Below w.heap.size w w' → (w'.cell? ⟨b, o + j * 4, none⟩ = some (.string X) ∧ w'.cell? ⟨b, o + j * 4 + 1, none⟩ = some (.slice A1 n1 c1) ∧ w'.cell? ⟨b, o + j * 4 + 2, none⟩ = some (.slice A2 n2 c2) ∧ w'.cell? ⟨b, o + j * 4 + 3, none⟩ = some (.int .i64 ln)) ∧ (w'.cell? ⟨b', o' + j * 4, none⟩ = some (.string X) ∧ w'.cell? ⟨b', o' + j * 4 + 1, none⟩ = some (.slice B1 m1 d1) ∧ w'.cell? ⟨b', o' + j * 4 + 2, none⟩ = some (.slice B2 m2 d2) ∧ w'.cell? ⟨b', o' + j * 4 + 3, none⟩ = some (.int .i64 ln'))) := Lib.hid fun w' hb =>
        ⟨four_cells (fun i u hu => by
          have := hrg i u hu
          rw [Nat.zero_add] at this
          exact (hb.cell (p := ⟨b, o + j * 4 + i, none⟩) hbq).trans this), four_cells (fun i u hu => by
          have := hrg' i u hu
          rw [Nat.zero_add] at this
          exact (hb.cell (p := ⟨b', o' + j * 4 + i, none⟩) hbq').trans this)⟩
      have HTX : Hid (∀ w', Below w.heap.size w w' → Calls Tryz.prog 64 #[.slice A1 n1 c1, .slice B1 m1 d1] w' fun e w'' => e = .returned (.bool true) ∧ Below w.heap.size w w'') := Lib.hid fun w' hb =>
        (sametexts_any ps w' S S' _ _ (Rd.keep (fun p hp => hb.cell (HSS.out _ hp)) (fun _ h => h) _ _ r1) (Rd.keep (fun p hp => hb.cell (HSS'.out _ hp)) (fun _ h => h) _ _ q1)).mono (by
          rintro e w'' ⟨h1, k, rfl⟩
          exact ⟨h1, below_drewN hb k⟩)
      have HST : Hid (∀ w', Below w.heap.size w w' → Calls Tryz.prog 124 #[.slice A2 n2 c2, .slice B2 m2 d2, .bool ls] w' fun e w'' => e = .returned (.bool true) ∧ Below w.heap.size w w'') := Lib.hid fun w' hb =>
        (samestmts_any ls _ st st' (Nat.lt_succ_self _) hst w' S S' _ _ (fun b h => Nat.lt_of_lt_of_le (HSS.out b h) hb.size) (fun b h => Nat.lt_of_lt_of_le (HSS'.out b h) hb.size) (Rd.keep (fun p hp => hb.cell (HSS.out _ hp)) (fun _ h => h) _ _ r2) (Rd.keep (fun p hp => hb.cell (HSS'.out _ hp)) (fun _ h => h) _ _ q2)).mono (by
          rintro e w'' ⟨h1, h2⟩
          exact ⟨h1, hb.trans (h2.mono hb.size)⟩)
      obtain ⟨⟨y0, y1, y2, y3⟩, z0, z1, z2, z3⟩ := HCL.out wr HB.out
      have hwr : w.heap.size ≤ wr.heap.size := HB.out.size
      have hb1 : b < wr.heap.size := by omega
      have hb2 : b' < wr.heap.size := by omega
      clear hX hrg hrg' hx hx' e1 e2 hjl hjm hvl hvl' r1 r2 q1 q2 hst
      cases ls with
      | true =>
        obtain rfl : ln = ln' := by simpa using hln
        clear hln
        go_wp2_with fail
        go_region_held3 (fun w' => (w'.cell? ⟨b, o + j * 4, none⟩ = some (.string X) ∧ w'.cell? ⟨b, o + j * 4 + 1, none⟩ = some (.slice A1 n1 c1) ∧ w'.cell? ⟨b, o + j * 4 + 2, none⟩ = some (.slice A2 n2 c2) ∧ w'.cell? ⟨b, o + j * 4 + 3, none⟩ = some (.int .i64 ln)) ∧ (w'.cell? ⟨b', o' + j * 4, none⟩ = some (.string X) ∧ w'.cell? ⟨b', o' + j * 4 + 1, none⟩ = some (.slice B1 m1 d1) ∧ w'.cell? ⟨b', o' + j * 4 + 2, none⟩ = some (.slice B2 m2 d2) ∧ w'.cell? ⟨b', o' + j * 4 + 3, none⟩ = some (.int .i64 ln))) (go_keep)
          (first
            | (go_at_call 64
               refine (HTX.out _ (below_drewN HB.out _)).mono ?_
               rintro e w1 ⟨rfl, hb1⟩
               have HB1 := Lib.hid hb1
               clear y0 y1 y2 y3 z0 z1 z2 z3 hb1
               obtain ⟨⟨y0, y1, y2, y3⟩, z0, z1, z2, z3⟩ := HCL.out w1 HB1.out)
            | (go_at_call 124
               refine (HST.out _ HB1.out).mono ?_
               rintro e w2 ⟨rfl, hb2⟩
               have HB2 := Lib.hid hb2
               clear y0 y1 y2 y3 z0 z1 z2 z3 hb2
               obtain ⟨⟨y0, y1, y2, y3⟩, z0, z1, z2, z3⟩ := HCL.out w2 HB2.out)
            | (fail))
        all_goals
          go_wp2_with fail
          go_roundg g
          case measure => omega
          case rel => exact ⟨j + 1, by omega, by go_num, HB2⟩
      | false =>
        clear hln
        go_wp2_with fail
        refine wp_region_held_drew (S := (fun w' => (w'.cell? ⟨b, o + j * 4, none⟩ = some (.string X) ∧ w'.cell? ⟨b, o + j * 4 + 1, none⟩ = some (.slice A1 n1 c1) ∧ w'.cell? ⟨b, o + j * 4 + 2, none⟩ = some (.slice A2 n2 c2) ∧ w'.cell? ⟨b, o + j * 4 + 3, none⟩ = some (.int .i64 ln)) ∧ (w'.cell? ⟨b', o' + j * 4, none⟩ = some (.string X) ∧ w'.cell? ⟨b', o' + j * 4 + 1, none⟩ = some (.slice B1 m1 d1) ∧ w'.cell? ⟨b', o' + j * 4 + 2, none⟩ = some (.slice B2 m2 d2) ∧ w'.cell? ⟨b', o' + j * 4 + 3, none⟩ = some (.int .i64 ln')))) (by kernel_rfl) ⟨⟨y0, y1, y2, y3⟩, z0, z1, z2, z3⟩ (fun hHeld => ?_)
        refine wpAnyH_take (i := 0) (oi := ({ dst := some 19, op := Op.move (Operand.tmp 0), type := 23, pos := "kit.go:95", after := #[], guard := none } : Go.Oper)) (v := ?v0) rfl (by kernel_rfl) (by kernel_rfl) (by kernel_rfl) (fun _ _ _ h => h) (Or.inl ⟨by rfl, ?hy0⟩) (by assumption) ?rest0
        case hy0 => intro w hSw; (try dsimp only at hSw); go_simp; try with_reducible rfl
        try simp only [Act.put, List.setIfInBounds_toArray, List.set_cons_zero, List.set_cons_succ]
        refine wpAnyH_take (i := 1) (oi := ({ dst := some 20, op := Op.move (Operand.tmp 7), type := 3, pos := "kit.go:95", after := #[], guard := none } : Go.Oper)) (v := ?v1) rfl (by kernel_rfl) (by kernel_rfl) (by kernel_rfl) (fun _ _ _ h => h) (Or.inl ⟨by rfl, ?hy1⟩) (by assumption) ?rest1
        case hy1 => intro w hSw; (try dsimp only at hSw); go_simp; try with_reducible rfl
        try simp only [Act.put, List.setIfInBounds_toArray, List.set_cons_zero, List.set_cons_succ]
        refine wpAnyH_take (i := 2) (oi := ({ dst := some 21, op := Op.indexAddr 23 (Operand.tmp 19) (Operand.tmp 20), type := 0, pos := "kit.go:95", after := #[{ on := 0, ground := Ground.data }, { on := 1, ground := Ground.data }], guard := none } : Go.Oper)) (v := ?v2) rfl (by kernel_rfl) (by kernel_rfl) (by kernel_rfl) (fun _ _ _ h => h) (Or.inl ⟨by rfl, ?hy2⟩) (by assumption) ?rest2
        case hy2 => intro w hSw; (try dsimp only at hSw); go_simp; try with_reducible rfl
        try simp only [Act.put, List.setIfInBounds_toArray, List.set_cons_zero, List.set_cons_succ]
        refine wpAnyH_take (i := 3) (oi := ({ dst := some 22, op := Op.fieldAddr 55 (Operand.tmp 21) 0, type := 0, pos := "kit.go:95", after := #[{ on := 2, ground := Ground.data }], guard := none } : Go.Oper)) (v := ?v3) rfl (by kernel_rfl) (by kernel_rfl) (by kernel_rfl) (fun _ _ _ h => h) (Or.inl ⟨by rfl, ?hy3⟩) (by assumption) ?rest3
        case hy3 => intro w hSw; (try dsimp only at hSw); go_simp; try with_reducible rfl
        try simp only [Act.put, List.setIfInBounds_toArray, List.set_cons_zero, List.set_cons_succ]
        refine wpAnyH_take (i := 4) (oi := ({ dst := some 23, op := Op.load 9 (Operand.tmp 22), type := 9, pos := "kit.go:95", after := #[{ on := 3, ground := Ground.data }], guard := none } : Go.Oper)) (v := ?v4) rfl (by kernel_rfl) (by kernel_rfl) (by kernel_rfl) (fun _ _ _ h => h) (Or.inl ⟨by rfl, ?hy4⟩) (by assumption) ?rest4
        case hy4 => intro w hSw; (try dsimp only at hSw); go_simp; try with_reducible rfl
        try simp only [Act.put, List.setIfInBounds_toArray, List.set_cons_zero, List.set_cons_succ]
        refine wpAnyH_take (i := 5) (oi := ({ dst := some 24, op := Op.move (Operand.tmp 1), type := 23, pos := "kit.go:95", after := #[], guard := none } : Go.Oper)) (v := ?v5) rfl (by kernel_rfl) (by kernel_rfl) (by kernel_rfl) (fun _ _ _ h => h) (Or.inl ⟨by rfl, ?hy5⟩) (by assumption) ?rest5
        case hy5 => intro w hSw; (try dsimp only at hSw); go_simp; try with_reducible rfl
        try simp only [Act.put, List.setIfInBounds_toArray, List.set_cons_zero, List.set_cons_succ]
        refine wpAnyH_take (i := 6) (oi := ({ dst := some 25, op := Op.move (Operand.tmp 7), type := 3, pos := "kit.go:95", after := #[], guard := none } : Go.Oper)) (v := ?v6) rfl (by kernel_rfl) (by kernel_rfl) (by kernel_rfl) (fun _ _ _ h => h) (Or.inl ⟨by rfl, ?hy6⟩) (by assumption) ?rest6
        case hy6 => intro w hSw; (try dsimp only at hSw); go_simp; try with_reducible rfl
        try simp only [Act.put, List.setIfInBounds_toArray, List.set_cons_zero, List.set_cons_succ]
        refine wpAnyH_take (i := 7) (oi := ({ dst := some 26, op := Op.indexAddr 23 (Operand.tmp 24) (Operand.tmp 25), type := 0, pos := "kit.go:95", after := #[{ on := 5, ground := Ground.data }, { on := 6, ground := Ground.data }], guard := none } : Go.Oper)) (v := ?v7) rfl (by kernel_rfl) (by kernel_rfl) (by kernel_rfl) (fun _ _ _ h => h) (Or.inl ⟨by rfl, ?hy7⟩) (by assumption) ?rest7
        case hy7 => intro w hSw; (try dsimp only at hSw); go_simp; try with_reducible rfl
        try simp only [Act.put, List.setIfInBounds_toArray, List.set_cons_zero, List.set_cons_succ]
        refine wpAnyH_take (i := 8) (oi := ({ dst := some 27, op := Op.fieldAddr 55 (Operand.tmp 26) 0, type := 0, pos := "kit.go:95", after := #[{ on := 7, ground := Ground.data }], guard := none } : Go.Oper)) (v := ?v8) rfl (by kernel_rfl) (by kernel_rfl) (by kernel_rfl) (fun _ _ _ h => h) (Or.inl ⟨by rfl, ?hy8⟩) (by assumption) ?rest8
        case hy8 => intro w hSw; (try dsimp only at hSw); go_simp; try with_reducible rfl
        try simp only [Act.put, List.setIfInBounds_toArray, List.set_cons_zero, List.set_cons_succ]
        refine wpAnyH_take (i := 9) (oi := ({ dst := some 28, op := Op.load 9 (Operand.tmp 27), type := 9, pos := "kit.go:95", after := #[{ on := 8, ground := Ground.data }], guard := none } : Go.Oper)) (v := ?v9) rfl (by kernel_rfl) (by kernel_rfl) (by kernel_rfl) (fun _ _ _ h => h) (Or.inl ⟨by rfl, ?hy9⟩) (by assumption) ?rest9
        case hy9 => intro w hSw; (try dsimp only at hSw); go_simp; try with_reducible rfl
        try simp only [Act.put, List.setIfInBounds_toArray, List.set_cons_zero, List.set_cons_succ]
        refine wpAnyH_take (i := 10) (oi := ({ dst := some 29, op := Op.binOp BinOp.neq 9 (Operand.tmp 23) (Operand.tmp 28) 9, type := 4, pos := "kit.go:95", after := #[{ on := 4, ground := Ground.data }, { on := 9, ground := Ground.data }], guard := none } : Go.Oper)) (v := ?v10) rfl (by kernel_rfl) (by kernel_rfl) (by kernel_rfl) (fun _ _ _ h => h) (Or.inl ⟨by rfl, ?hy10⟩) (by assumption) ?rest10
        case hy10 => intro w hSw; (try dsimp only at hSw); go_simp; try with_reducible rfl
        try simp only [Act.put, List.setIfInBounds_toArray, List.set_cons_zero, List.set_cons_succ]
        refine wpAnyH_take (i := 11) (oi := ({ dst := some 30, op := Op.move (Operand.tmp 29), type := 4, pos := "kit.go:95", after := #[{ on := 10, ground := Ground.data }], guard := none } : Go.Oper)) (v := ?v11) rfl (by kernel_rfl) (by kernel_rfl) (by kernel_rfl) (fun _ _ _ h => h) (Or.inl ⟨by rfl, ?hy11⟩) (by assumption) ?rest11
        case hy11 => intro w hSw; (try dsimp only at hSw); go_simp; try with_reducible rfl
        try simp only [Act.put, List.setIfInBounds_toArray, List.set_cons_zero, List.set_cons_succ]
        refine wpAnyH_take (i := 12) (oi := ({ dst := some 31, op := Op.move (Operand.tmp 2), type := 4, pos := "kit.go:95", after := #[{ on := 11, ground := Ground.guard }], guard := some (11, false) } : Go.Oper)) (v := ?v12) rfl (by kernel_rfl) (by kernel_rfl) (by kernel_rfl) (fun _ _ _ h => h) (Or.inl ⟨by rfl, ?hy12⟩) (by assumption) ?rest12
        case hy12 => intro w hSw; (try dsimp only at hSw); go_simp; try with_reducible rfl
        try simp only [Act.put, List.setIfInBounds_toArray, List.set_cons_zero, List.set_cons_succ]
        refine wpAnyH_take (i := 13) (oi := ({ dst := some 32, op := Op.move (Operand.tmp 31), type := 4, pos := "kit.go:95", after := #[{ on := 12, ground := Ground.data }, { on := 11, ground := Ground.chain }, { on := 11, ground := Ground.guard }], guard := some (11, false) } : Go.Oper)) (v := ?v13) rfl (by kernel_rfl) (by kernel_rfl) (by kernel_rfl) (fun _ _ _ h => h) (Or.inl ⟨by rfl, ?hy13⟩) (by assumption) ?rest13
        case hy13 => intro w hSw; (try dsimp only at hSw); go_simp; try with_reducible rfl
        try simp only [Act.put, List.setIfInBounds_toArray, List.set_cons_zero, List.set_cons_succ]
        refine wpAnyH_take (i := 14) (oi := ({ dst := some 33, op := Op.move (Operand.tmp 0), type := 23, pos := "kit.go:95", after := #[{ on := 13, ground := Ground.guard }], guard := some (13, true) } : Go.Oper)) (v := undef) rfl (by kernel_rfl) (by kernel_rfl) (by kernel_rfl) (fun _ _ _ h => h) (Or.inr ⟨by rfl, rfl⟩) (by assumption) ?_
        try simp only [Act.put, List.setIfInBounds_toArray, List.set_cons_zero, List.set_cons_succ]
        refine wpAnyH_take (i := 15) (oi := ({ dst := some 34, op := Op.move (Operand.tmp 7), type := 3, pos := "kit.go:95", after := #[{ on := 13, ground := Ground.guard }], guard := some (13, true) } : Go.Oper)) (v := undef) rfl (by kernel_rfl) (by kernel_rfl) (by kernel_rfl) (fun _ _ _ h => h) (Or.inr ⟨by rfl, rfl⟩) (by assumption) ?_
        try simp only [Act.put, List.setIfInBounds_toArray, List.set_cons_zero, List.set_cons_succ]
        refine wpAnyH_take (i := 16) (oi := ({ dst := some 35, op := Op.indexAddr 23 (Operand.tmp 33) (Operand.tmp 34), type := 0, pos := "kit.go:95", after := #[{ on := 14, ground := Ground.data }, { on := 15, ground := Ground.data }, { on := 13, ground := Ground.guard }], guard := some (13, true) } : Go.Oper)) (v := undef) rfl (by kernel_rfl) (by kernel_rfl) (by kernel_rfl) (fun _ _ _ h => h) (Or.inr ⟨by rfl, rfl⟩) (by assumption) ?_
        try simp only [Act.put, List.setIfInBounds_toArray, List.set_cons_zero, List.set_cons_succ]
        refine wpAnyH_take (i := 17) (oi := ({ dst := some 36, op := Op.fieldAddr 55 (Operand.tmp 35) 3, type := 0, pos := "kit.go:95", after := #[{ on := 16, ground := Ground.data }, { on := 13, ground := Ground.guard }], guard := some (13, true) } : Go.Oper)) (v := undef) rfl (by kernel_rfl) (by kernel_rfl) (by kernel_rfl) (fun _ _ _ h => h) (Or.inr ⟨by rfl, rfl⟩) (by assumption) ?_
        try simp only [Act.put, List.setIfInBounds_toArray, List.set_cons_zero, List.set_cons_succ]
        refine wpAnyH_take (i := 18) (oi := ({ dst := some 37, op := Op.load 3 (Operand.tmp 36), type := 3, pos := "kit.go:95", after := #[{ on := 17, ground := Ground.data }, { on := 13, ground := Ground.guard }], guard := some (13, true) } : Go.Oper)) (v := undef) rfl (by kernel_rfl) (by kernel_rfl) (by kernel_rfl) (fun _ _ _ h => h) (Or.inr ⟨by rfl, rfl⟩) (by assumption) ?_
        try simp only [Act.put, List.setIfInBounds_toArray, List.set_cons_zero, List.set_cons_succ]
        refine wpAnyH_take (i := 19) (oi := ({ dst := some 38, op := Op.move (Operand.tmp 1), type := 23, pos := "kit.go:95", after := #[{ on := 13, ground := Ground.guard }], guard := some (13, true) } : Go.Oper)) (v := undef) rfl (by kernel_rfl) (by kernel_rfl) (by kernel_rfl) (fun _ _ _ h => h) (Or.inr ⟨by rfl, rfl⟩) (by assumption) ?_
        try simp only [Act.put, List.setIfInBounds_toArray, List.set_cons_zero, List.set_cons_succ]
        refine wpAnyH_take (i := 20) (oi := ({ dst := some 39, op := Op.move (Operand.tmp 7), type := 3, pos := "kit.go:95", after := #[{ on := 13, ground := Ground.guard }], guard := some (13, true) } : Go.Oper)) (v := undef) rfl (by kernel_rfl) (by kernel_rfl) (by kernel_rfl) (fun _ _ _ h => h) (Or.inr ⟨by rfl, rfl⟩) (by assumption) ?_
        try simp only [Act.put, List.setIfInBounds_toArray, List.set_cons_zero, List.set_cons_succ]
        refine wpAnyH_take (i := 21) (oi := ({ dst := some 40, op := Op.indexAddr 23 (Operand.tmp 38) (Operand.tmp 39), type := 0, pos := "kit.go:95", after := #[{ on := 19, ground := Ground.data }, { on := 20, ground := Ground.data }, { on := 13, ground := Ground.guard }], guard := some (13, true) } : Go.Oper)) (v := undef) rfl (by kernel_rfl) (by kernel_rfl) (by kernel_rfl) (fun _ _ _ h => h) (Or.inr ⟨by rfl, rfl⟩) (by assumption) ?_
        try simp only [Act.put, List.setIfInBounds_toArray, List.set_cons_zero, List.set_cons_succ]
        refine wpAnyH_take (i := 22) (oi := ({ dst := some 41, op := Op.fieldAddr 55 (Operand.tmp 40) 3, type := 0, pos := "kit.go:95", after := #[{ on := 21, ground := Ground.data }, { on := 13, ground := Ground.guard }], guard := some (13, true) } : Go.Oper)) (v := undef) rfl (by kernel_rfl) (by kernel_rfl) (by kernel_rfl) (fun _ _ _ h => h) (Or.inr ⟨by rfl, rfl⟩) (by assumption) ?_
        try simp only [Act.put, List.setIfInBounds_toArray, List.set_cons_zero, List.set_cons_succ]
        refine wpAnyH_take (i := 23) (oi := ({ dst := some 42, op := Op.load 3 (Operand.tmp 41), type := 3, pos := "kit.go:95", after := #[{ on := 22, ground := Ground.data }, { on := 13, ground := Ground.guard }], guard := some (13, true) } : Go.Oper)) (v := undef) rfl (by kernel_rfl) (by kernel_rfl) (by kernel_rfl) (fun _ _ _ h => h) (Or.inr ⟨by rfl, rfl⟩) (by assumption) ?_
        try simp only [Act.put, List.setIfInBounds_toArray, List.set_cons_zero, List.set_cons_succ]
        refine wpAnyH_take (i := 24) (oi := ({ dst := some 43, op := Op.binOp BinOp.neq 3 (Operand.tmp 37) (Operand.tmp 42) 3, type := 4, pos := "kit.go:95", after := #[{ on := 18, ground := Ground.data }, { on := 23, ground := Ground.data }, { on := 13, ground := Ground.guard }], guard := some (13, true) } : Go.Oper)) (v := undef) rfl (by kernel_rfl) (by kernel_rfl) (by kernel_rfl) (fun _ _ _ h => h) (Or.inr ⟨by rfl, rfl⟩) (by assumption) ?_
        try simp only [Act.put, List.setIfInBounds_toArray, List.set_cons_zero, List.set_cons_succ]
        refine wpAnyH_take (i := 25) (oi := ({ dst := some 44, op := Op.pick (Operand.tmp 32) (Operand.tmp 43) (Operand.const (Value.bool false)), type := 4, pos := "kit.go:95", after := #[{ on := 13, ground := Ground.data }, { on := 24, ground := Ground.data }, { on := 11, ground := Ground.guard }], guard := some (11, false) } : Go.Oper)) (v := ?v25) rfl (by kernel_rfl) (by kernel_rfl) (by kernel_rfl) (fun _ _ _ h => h) (Or.inl ⟨by rfl, ?hy25⟩) (by assumption) ?rest25
        case hy25 => intro w hSw; (try dsimp only at hSw); go_simp; try with_reducible rfl
        try simp only [Act.put, List.setIfInBounds_toArray, List.set_cons_zero, List.set_cons_succ]
        refine wpAnyH_take (i := 26) (oi := ({ dst := some 45, op := Op.pick (Operand.tmp 30) (Operand.const (Value.bool true)) (Operand.tmp 44), type := 4, pos := "kit.go:95", after := #[{ on := 11, ground := Ground.data }, { on := 25, ground := Ground.data }], guard := none } : Go.Oper)) (v := ?v26) rfl (by kernel_rfl) (by kernel_rfl) (by kernel_rfl) (fun _ _ _ h => h) (Or.inl ⟨by rfl, ?hy26⟩) (by assumption) ?rest26
        case hy26 => intro w hSw; (try dsimp only at hSw); go_simp; try with_reducible rfl
        try simp only [Act.put, List.setIfInBounds_toArray, List.set_cons_zero, List.set_cons_succ]
        refine wpAnyH_take (i := 27) (oi := ({ dst := some 46, op := Op.move (Operand.tmp 45), type := 4, pos := "kit.go:95", after := #[{ on := 26, ground := Ground.data }, { on := 13, ground := Ground.chain }], guard := none } : Go.Oper)) (v := ?v27) rfl (by kernel_rfl) (by kernel_rfl) (by kernel_rfl) (fun _ _ _ h => h) (Or.inl ⟨by rfl, ?hy27⟩) (by assumption) ?rest27
        case hy27 => intro w hSw; (try dsimp only at hSw); go_simp; try with_reducible rfl
        try simp only [Act.put, List.setIfInBounds_toArray, List.set_cons_zero, List.set_cons_succ]
        refine wpAnyH_take (i := 28) (oi := ({ dst := some 47, op := Op.move (Operand.tmp 0), type := 23, pos := "kit.go:95", after := #[{ on := 27, ground := Ground.guard }], guard := some (27, false) } : Go.Oper)) (v := ?v28) rfl (by kernel_rfl) (by kernel_rfl) (by kernel_rfl) (fun _ _ _ h => h) (Or.inl ⟨by rfl, ?hy28⟩) (by assumption) ?rest28
        case hy28 => intro w hSw; (try dsimp only at hSw); go_simp; try with_reducible rfl
        try simp only [Act.put, List.setIfInBounds_toArray, List.set_cons_zero, List.set_cons_succ]
        refine wpAnyH_take (i := 29) (oi := ({ dst := some 48, op := Op.move (Operand.tmp 7), type := 3, pos := "kit.go:95", after := #[{ on := 27, ground := Ground.guard }], guard := some (27, false) } : Go.Oper)) (v := ?v29) rfl (by kernel_rfl) (by kernel_rfl) (by kernel_rfl) (fun _ _ _ h => h) (Or.inl ⟨by rfl, ?hy29⟩) (by assumption) ?rest29
        case hy29 => intro w hSw; (try dsimp only at hSw); go_simp; try with_reducible rfl
        try simp only [Act.put, List.setIfInBounds_toArray, List.set_cons_zero, List.set_cons_succ]
        refine wpAnyH_take (i := 30) (oi := ({ dst := some 49, op := Op.indexAddr 23 (Operand.tmp 47) (Operand.tmp 48), type := 0, pos := "kit.go:95", after := #[{ on := 28, ground := Ground.data }, { on := 29, ground := Ground.data }, { on := 27, ground := Ground.guard }], guard := some (27, false) } : Go.Oper)) (v := ?v30) rfl (by kernel_rfl) (by kernel_rfl) (by kernel_rfl) (fun _ _ _ h => h) (Or.inl ⟨by rfl, ?hy30⟩) (by assumption) ?rest30
        case hy30 => intro w hSw; (try dsimp only at hSw); go_simp; try with_reducible rfl
        try simp only [Act.put, List.setIfInBounds_toArray, List.set_cons_zero, List.set_cons_succ]
        refine wpAnyH_take (i := 31) (oi := ({ dst := some 50, op := Op.fieldAddr 55 (Operand.tmp 49) 1, type := 0, pos := "kit.go:95", after := #[{ on := 30, ground := Ground.data }, { on := 27, ground := Ground.guard }], guard := some (27, false) } : Go.Oper)) (v := ?v31) rfl (by kernel_rfl) (by kernel_rfl) (by kernel_rfl) (fun _ _ _ h => h) (Or.inl ⟨by rfl, ?hy31⟩) (by assumption) ?rest31
        case hy31 => intro w hSw; (try dsimp only at hSw); go_simp; try with_reducible rfl
        try simp only [Act.put, List.setIfInBounds_toArray, List.set_cons_zero, List.set_cons_succ]
        refine wpAnyH_take (i := 32) (oi := ({ dst := some 51, op := Op.load 41 (Operand.tmp 50), type := 41, pos := "kit.go:95", after := #[{ on := 31, ground := Ground.data }, { on := 27, ground := Ground.guard }], guard := some (27, false) } : Go.Oper)) (v := ?v32) rfl (by kernel_rfl) (by kernel_rfl) (by kernel_rfl) (fun _ _ _ h => h) (Or.inl ⟨by rfl, ?hy32⟩) (by assumption) ?rest32
        case hy32 => intro w hSw; (try dsimp only at hSw); go_simp; try with_reducible rfl
        try simp only [Act.put, List.setIfInBounds_toArray, List.set_cons_zero, List.set_cons_succ]
        refine wpAnyH_take (i := 33) (oi := ({ dst := some 52, op := Op.move (Operand.tmp 1), type := 23, pos := "kit.go:95", after := #[{ on := 27, ground := Ground.guard }], guard := some (27, false) } : Go.Oper)) (v := ?v33) rfl (by kernel_rfl) (by kernel_rfl) (by kernel_rfl) (fun _ _ _ h => h) (Or.inl ⟨by rfl, ?hy33⟩) (by assumption) ?rest33
        case hy33 => intro w hSw; (try dsimp only at hSw); go_simp; try with_reducible rfl
        try simp only [Act.put, List.setIfInBounds_toArray, List.set_cons_zero, List.set_cons_succ]
        refine wpAnyH_take (i := 34) (oi := ({ dst := some 53, op := Op.move (Operand.tmp 7), type := 3, pos := "kit.go:95", after := #[{ on := 27, ground := Ground.guard }], guard := some (27, false) } : Go.Oper)) (v := ?v34) rfl (by kernel_rfl) (by kernel_rfl) (by kernel_rfl) (fun _ _ _ h => h) (Or.inl ⟨by rfl, ?hy34⟩) (by assumption) ?rest34
        case hy34 => intro w hSw; (try dsimp only at hSw); go_simp; try with_reducible rfl
        try simp only [Act.put, List.setIfInBounds_toArray, List.set_cons_zero, List.set_cons_succ]
        refine wpAnyH_take (i := 35) (oi := ({ dst := some 54, op := Op.indexAddr 23 (Operand.tmp 52) (Operand.tmp 53), type := 0, pos := "kit.go:95", after := #[{ on := 33, ground := Ground.data }, { on := 34, ground := Ground.data }, { on := 27, ground := Ground.guard }], guard := some (27, false) } : Go.Oper)) (v := ?v35) rfl (by kernel_rfl) (by kernel_rfl) (by kernel_rfl) (fun _ _ _ h => h) (Or.inl ⟨by rfl, ?hy35⟩) (by assumption) ?rest35
        case hy35 => intro w hSw; (try dsimp only at hSw); go_simp; try with_reducible rfl
        try simp only [Act.put, List.setIfInBounds_toArray, List.set_cons_zero, List.set_cons_succ]
        refine wpAnyH_take (i := 36) (oi := ({ dst := some 55, op := Op.fieldAddr 55 (Operand.tmp 54) 1, type := 0, pos := "kit.go:95", after := #[{ on := 35, ground := Ground.data }, { on := 27, ground := Ground.guard }], guard := some (27, false) } : Go.Oper)) (v := ?v36) rfl (by kernel_rfl) (by kernel_rfl) (by kernel_rfl) (fun _ _ _ h => h) (Or.inl ⟨by rfl, ?hy36⟩) (by assumption) ?rest36
        case hy36 => intro w hSw; (try dsimp only at hSw); go_simp; try with_reducible rfl
        try simp only [Act.put, List.setIfInBounds_toArray, List.set_cons_zero, List.set_cons_succ]
        refine wpAnyH_take (i := 37) (oi := ({ dst := some 56, op := Op.load 41 (Operand.tmp 55), type := 41, pos := "kit.go:95", after := #[{ on := 36, ground := Ground.data }, { on := 27, ground := Ground.guard }], guard := some (27, false) } : Go.Oper)) (v := ?v37) rfl (by kernel_rfl) (by kernel_rfl) (by kernel_rfl) (fun _ _ _ h => h) (Or.inl ⟨by rfl, ?hy37⟩) (by assumption) ?rest37
        case hy37 => intro w hSw; (try dsimp only at hSw); go_simp; try with_reducible rfl
        try simp only [Act.put, List.setIfInBounds_toArray, List.set_cons_zero, List.set_cons_succ]
        refine wpAnyH_ready (rs := [38]) (by kernel_rfl) (by simp) ?_
        refine AllReadyH.cons (o := ({ dst := some 57, op := Op.call { callee := Callee.value (Operand.func 64), args := #[Operand.tmp 51, Operand.tmp 56], argTypes := #[41, 41] }, type := 4, pos := "kit.go:95", after := #[{ on := 32, ground := Ground.data }, { on := 37, ground := Ground.data }, { on := 27, ground := Ground.chain }, { on := 27, ground := Ground.guard }], guard := some (27, false) } : Go.Oper)) rfl (fun K hK => ?_) AllReadyH.nil
        go_simp
        go_at_call 64
        refine (HTX.out _ (below_drewN HB.out _)).mono ?_
        rintro e w1 ⟨rfl, hb1⟩
        have HB1 := Lib.hid hb1
        have hHeld2 := HCL.out w1 HB1.out
        first
          | (refine hK.out _ _ hHeld2 (fun hHeld2 => ?_))
          | (go_wp2_with fail
             refine hK.out _ _ hHeld2 (fun hHeld2 => ?_))
        clear hK K
        try simp only [Act.put, List.setIfInBounds_toArray, List.set_cons_zero, List.set_cons_succ]
        refine wpAnyH_take (i := 39) (oi := ({ dst := some 58, op := Op.unOp UnOp.not 4 (Operand.tmp 57), type := 4, pos := "kit.go:95", after := #[{ on := 38, ground := Ground.data }, { on := 27, ground := Ground.guard }], guard := some (27, false) } : Go.Oper)) (v := ?v39) rfl (by kernel_rfl) (by kernel_rfl) (by kernel_rfl) (fun _ _ _ h => h) (Or.inl ⟨by rfl, ?hy39⟩) (by assumption) ?rest39
        case hy39 => intro w hSw; (try dsimp only at hSw); go_simp; try with_reducible rfl
        try simp only [Act.put, List.setIfInBounds_toArray, List.set_cons_zero, List.set_cons_succ]
        refine wpAnyH_take (i := 40) (oi := ({ dst := some 59, op := Op.pick (Operand.tmp 46) (Operand.const (Value.bool true)) (Operand.tmp 58), type := 4, pos := "kit.go:95", after := #[{ on := 27, ground := Ground.data }, { on := 39, ground := Ground.data }], guard := none } : Go.Oper)) (v := ?v40) rfl (by kernel_rfl) (by kernel_rfl) (by kernel_rfl) (fun _ _ _ h => h) (Or.inl ⟨by rfl, ?hy40⟩) (by assumption) ?rest40
        case hy40 => intro w hSw; (try dsimp only at hSw); go_simp; try with_reducible rfl
        try simp only [Act.put, List.setIfInBounds_toArray, List.set_cons_zero, List.set_cons_succ]
        refine wpAnyH_take (i := 41) (oi := ({ dst := some 60, op := Op.move (Operand.tmp 59), type := 4, pos := "kit.go:95", after := #[{ on := 40, ground := Ground.data }, { on := 38, ground := Ground.chain }], guard := none } : Go.Oper)) (v := ?v41) rfl (by kernel_rfl) (by kernel_rfl) (by kernel_rfl) (fun _ _ _ h => h) (Or.inl ⟨by rfl, ?hy41⟩) (by assumption) ?rest41
        case hy41 => intro w hSw; (try dsimp only at hSw); go_simp; try with_reducible rfl
        try simp only [Act.put, List.setIfInBounds_toArray, List.set_cons_zero, List.set_cons_succ]
        refine wpAnyH_take (i := 42) (oi := ({ dst := some 61, op := Op.move (Operand.tmp 0), type := 23, pos := "kit.go:95", after := #[{ on := 41, ground := Ground.guard }], guard := some (41, false) } : Go.Oper)) (v := ?v42) rfl (by kernel_rfl) (by kernel_rfl) (by kernel_rfl) (fun _ _ _ h => h) (Or.inl ⟨by rfl, ?hy42⟩) (by assumption) ?rest42
        case hy42 => intro w hSw; (try dsimp only at hSw); go_simp; try with_reducible rfl
        try simp only [Act.put, List.setIfInBounds_toArray, List.set_cons_zero, List.set_cons_succ]
        refine wpAnyH_take (i := 43) (oi := ({ dst := some 62, op := Op.move (Operand.tmp 7), type := 3, pos := "kit.go:95", after := #[{ on := 41, ground := Ground.guard }], guard := some (41, false) } : Go.Oper)) (v := ?v43) rfl (by kernel_rfl) (by kernel_rfl) (by kernel_rfl) (fun _ _ _ h => h) (Or.inl ⟨by rfl, ?hy43⟩) (by assumption) ?rest43
        case hy43 => intro w hSw; (try dsimp only at hSw); go_simp; try with_reducible rfl
        try simp only [Act.put, List.setIfInBounds_toArray, List.set_cons_zero, List.set_cons_succ]
        refine wpAnyH_take (i := 44) (oi := ({ dst := some 63, op := Op.indexAddr 23 (Operand.tmp 61) (Operand.tmp 62), type := 0, pos := "kit.go:95", after := #[{ on := 42, ground := Ground.data }, { on := 43, ground := Ground.data }, { on := 41, ground := Ground.guard }], guard := some (41, false) } : Go.Oper)) (v := ?v44) rfl (by kernel_rfl) (by kernel_rfl) (by kernel_rfl) (fun _ _ _ h => h) (Or.inl ⟨by rfl, ?hy44⟩) (by assumption) ?rest44
        case hy44 => intro w hSw; (try dsimp only at hSw); go_simp; try with_reducible rfl
        try simp only [Act.put, List.setIfInBounds_toArray, List.set_cons_zero, List.set_cons_succ]
        refine wpAnyH_take (i := 45) (oi := ({ dst := some 64, op := Op.fieldAddr 55 (Operand.tmp 63) 2, type := 0, pos := "kit.go:95", after := #[{ on := 44, ground := Ground.data }, { on := 41, ground := Ground.guard }], guard := some (41, false) } : Go.Oper)) (v := ?v45) rfl (by kernel_rfl) (by kernel_rfl) (by kernel_rfl) (fun _ _ _ h => h) (Or.inl ⟨by rfl, ?hy45⟩) (by assumption) ?rest45
        case hy45 => intro w hSw; (try dsimp only at hSw); go_simp; try with_reducible rfl
        try simp only [Act.put, List.setIfInBounds_toArray, List.set_cons_zero, List.set_cons_succ]
        refine wpAnyH_take (i := 46) (oi := ({ dst := some 65, op := Op.load 53 (Operand.tmp 64), type := 53, pos := "kit.go:95", after := #[{ on := 45, ground := Ground.data }, { on := 41, ground := Ground.guard }], guard := some (41, false) } : Go.Oper)) (v := ?v46) rfl (by kernel_rfl) (by kernel_rfl) (by kernel_rfl) (fun _ _ _ h => h) (Or.inl ⟨by rfl, ?hy46⟩) (by assumption) ?rest46
        case hy46 => intro w hSw; (try dsimp only at hSw); go_simp; try with_reducible rfl
        try simp only [Act.put, List.setIfInBounds_toArray, List.set_cons_zero, List.set_cons_succ]
        refine wpAnyH_take (i := 47) (oi := ({ dst := some 66, op := Op.move (Operand.tmp 1), type := 23, pos := "kit.go:95", after := #[{ on := 41, ground := Ground.guard }], guard := some (41, false) } : Go.Oper)) (v := ?v47) rfl (by kernel_rfl) (by kernel_rfl) (by kernel_rfl) (fun _ _ _ h => h) (Or.inl ⟨by rfl, ?hy47⟩) (by assumption) ?rest47
        case hy47 => intro w hSw; (try dsimp only at hSw); go_simp; try with_reducible rfl
        try simp only [Act.put, List.setIfInBounds_toArray, List.set_cons_zero, List.set_cons_succ]
        refine wpAnyH_take (i := 48) (oi := ({ dst := some 67, op := Op.move (Operand.tmp 7), type := 3, pos := "kit.go:95", after := #[{ on := 41, ground := Ground.guard }], guard := some (41, false) } : Go.Oper)) (v := ?v48) rfl (by kernel_rfl) (by kernel_rfl) (by kernel_rfl) (fun _ _ _ h => h) (Or.inl ⟨by rfl, ?hy48⟩) (by assumption) ?rest48
        case hy48 => intro w hSw; (try dsimp only at hSw); go_simp; try with_reducible rfl
        try simp only [Act.put, List.setIfInBounds_toArray, List.set_cons_zero, List.set_cons_succ]
        refine wpAnyH_take (i := 49) (oi := ({ dst := some 68, op := Op.indexAddr 23 (Operand.tmp 66) (Operand.tmp 67), type := 0, pos := "kit.go:95", after := #[{ on := 47, ground := Ground.data }, { on := 48, ground := Ground.data }, { on := 41, ground := Ground.guard }], guard := some (41, false) } : Go.Oper)) (v := ?v49) rfl (by kernel_rfl) (by kernel_rfl) (by kernel_rfl) (fun _ _ _ h => h) (Or.inl ⟨by rfl, ?hy49⟩) (by assumption) ?rest49
        case hy49 => intro w hSw; (try dsimp only at hSw); go_simp; try with_reducible rfl
        try simp only [Act.put, List.setIfInBounds_toArray, List.set_cons_zero, List.set_cons_succ]
        refine wpAnyH_take (i := 50) (oi := ({ dst := some 69, op := Op.fieldAddr 55 (Operand.tmp 68) 2, type := 0, pos := "kit.go:95", after := #[{ on := 49, ground := Ground.data }, { on := 41, ground := Ground.guard }], guard := some (41, false) } : Go.Oper)) (v := ?v50) rfl (by kernel_rfl) (by kernel_rfl) (by kernel_rfl) (fun _ _ _ h => h) (Or.inl ⟨by rfl, ?hy50⟩) (by assumption) ?rest50
        case hy50 => intro w hSw; (try dsimp only at hSw); go_simp; try with_reducible rfl
        try simp only [Act.put, List.setIfInBounds_toArray, List.set_cons_zero, List.set_cons_succ]
        refine wpAnyH_take (i := 51) (oi := ({ dst := some 70, op := Op.load 53 (Operand.tmp 69), type := 53, pos := "kit.go:95", after := #[{ on := 50, ground := Ground.data }, { on := 41, ground := Ground.guard }], guard := some (41, false) } : Go.Oper)) (v := ?v51) rfl (by kernel_rfl) (by kernel_rfl) (by kernel_rfl) (fun _ _ _ h => h) (Or.inl ⟨by rfl, ?hy51⟩) (by assumption) ?rest51
        case hy51 => intro w hSw; (try dsimp only at hSw); go_simp; try with_reducible rfl
        try simp only [Act.put, List.setIfInBounds_toArray, List.set_cons_zero, List.set_cons_succ]
        refine wpAnyH_take (i := 52) (oi := ({ dst := some 71, op := Op.move (Operand.tmp 2), type := 4, pos := "kit.go:95", after := #[{ on := 41, ground := Ground.guard }], guard := some (41, false) } : Go.Oper)) (v := ?v52) rfl (by kernel_rfl) (by kernel_rfl) (by kernel_rfl) (fun _ _ _ h => h) (Or.inl ⟨by rfl, ?hy52⟩) (by assumption) ?rest52
        case hy52 => intro w hSw; (try dsimp only at hSw); go_simp; try with_reducible rfl
        try simp only [Act.put, List.setIfInBounds_toArray, List.set_cons_zero, List.set_cons_succ]
        refine wpAnyH_ready (rs := [53]) (by kernel_rfl) (by simp) ?_
        refine AllReadyH.cons (o := ({ dst := some 72, op := Op.call { callee := Callee.value (Operand.func 124), args := #[Operand.tmp 65, Operand.tmp 70, Operand.tmp 71], argTypes := #[53, 53, 4] }, type := 4, pos := "kit.go:95", after := #[{ on := 46, ground := Ground.data }, { on := 51, ground := Ground.data }, { on := 52, ground := Ground.data }, { on := 41, ground := Ground.chain }, { on := 41, ground := Ground.guard }], guard := some (41, false) } : Go.Oper)) rfl (fun K hK => ?_) AllReadyH.nil
        go_simp
        go_at_call 124
        refine (HST.out _ HB1.out).mono ?_
        rintro e w2 ⟨rfl, hb2⟩
        have HB2 := Lib.hid hb2
        have hHeld3 := HCL.out w2 HB2.out
        first
          | (refine hK.out _ _ hHeld3 (fun hHeld3 => ?_))
          | (go_wp2_with fail
             refine hK.out _ _ hHeld3 (fun hHeld3 => ?_))
        clear hK K
        try simp only [Act.put, List.setIfInBounds_toArray, List.set_cons_zero, List.set_cons_succ]
        refine wpAnyH_take (i := 54) (oi := ({ dst := some 73, op := Op.unOp UnOp.not 4 (Operand.tmp 72), type := 4, pos := "kit.go:95", after := #[{ on := 53, ground := Ground.data }, { on := 41, ground := Ground.guard }], guard := some (41, false) } : Go.Oper)) (v := ?v54) rfl (by kernel_rfl) (by kernel_rfl) (by kernel_rfl) (fun _ _ _ h => h) (Or.inl ⟨by rfl, ?hy54⟩) (by assumption) ?rest54
        case hy54 => intro w hSw; (try dsimp only at hSw); go_simp; try with_reducible rfl
        try simp only [Act.put, List.setIfInBounds_toArray, List.set_cons_zero, List.set_cons_succ]
        refine wpAnyH_take (i := 55) (oi := ({ dst := some 74, op := Op.pick (Operand.tmp 60) (Operand.const (Value.bool true)) (Operand.tmp 73), type := 4, pos := "kit.go:95", after := #[{ on := 41, ground := Ground.data }, { on := 54, ground := Ground.data }], guard := none } : Go.Oper)) (v := ?v55) rfl (by kernel_rfl) (by kernel_rfl) (by kernel_rfl) (fun _ _ _ h => h) (Or.inl ⟨by rfl, ?hy55⟩) (by assumption) ?rest55
        case hy55 => intro w hSw; (try dsimp only at hSw); go_simp; try with_reducible rfl
        try simp only [Act.put, List.setIfInBounds_toArray, List.set_cons_zero, List.set_cons_succ]
        refine wpAnyH_done (by kernel_rfl) ?_ _
        go_wp2_with fail
        go_roundg g
        case measure => omega
        case rel => exact ⟨j + 1, by omega, by go_num, HB2⟩
/-- .. programs. -/
theorem rlsB_at2 {ls : Bool} : ∀ {l m : List Rl}, rlsB ls l m = true → l.length = m.length ∧ ∀ (j : Nat) (x y : Rl), l[j]? = some x → m[j]? = some y → rlB ls x y = true
  | [], [], _ => ⟨rfl, by simp⟩
  | x :: r, y :: q, h => by
    rw [rlsB, Bool.and_eq_true] at h
    obtain ⟨h1, h2⟩ := rlsB_at2 h.2
    refine ⟨by simp [h1], fun j a b ha hb => ?_⟩
    cases j with
    | zero =>
      simp at ha hb
      subst ha hb
      exact h.1
    | succ j => exact h2 j a b (by simpa using ha) (by simpa using hb)
  | [], _ :: _, h => by simp [rlsB] at h
  | _ :: _, [], h => by simp [rlsB] at h
theorem two_box {X : World} {g : Nat} {y0 y1 : Value} {E : TypeId} (h : X.heap[g]? = some (.cells #[y0, y1] E (0, 0))) : X.cell? ⟨g, 0, none⟩ = some y0 ∧ X.cell? ⟨g, 1, none⟩ = some y1 := ⟨cell_block h 0, cell_block h 1⟩
set_option maxRecDepth 100000 in
set_option maxHeartbeats 8000000 in
theorem sameprogram_any (ls : Bool) (g m : Pg) (hgm : pgB ls g m = true) (w : World) (S S' : Nat → Prop) (v v' : Value) (hS : ∀ b, S b → b < w.heap.size) (hS' : ∀ b, S' b → b < w.heap.size) (h : Rd w S g.nd v) (h' : Rd w S' m.nd v') :
    Calls Tryz.prog 21 #[v, v', .bool ls] w fun e w' => e = .returned (.bool true) ∧ Below w.heap.size w w' := by
  unfold pgB at hgm
  rw [Bool.and_eq_true] at hgm
  obtain ⟨hfn, hrl⟩ := hgm
  obtain ⟨y, z, rfl, hy, hz⟩ := (Pg.rd g v).1 h
  obtain ⟨y', z', rfl, hy', hz'⟩ := (Pg.rd m v').1 h'
  obtain ⟨AF, nF, cF, rfl⟩ := hy.rowf
  obtain ⟨AG, nG, cG, rfl⟩ := hy'.rowf
  have HFN : Hid (∀ w', Below w.heap.size w w' → Calls Tryz.prog 63 #[.slice AF nF cF, .slice AG nG cG, .bool ls] w' fun e w'' => e = .returned (.bool true) ∧ Below w'.heap.size w' w'') := Lib.hid fun w' hb =>
    samebodies_any ls g.fns m.fns hfn w' S S' _ _ (fun b h => Nat.lt_of_lt_of_le (hS b h) hb.size) (fun b h => Nat.lt_of_lt_of_le (hS' b h) hb.size) (Rd.keep (fun p hp => hb.cell (hS _ hp)) (fun _ h => h) _ _ hy) (Rd.keep (fun p hp => hb.cell (hS' _ hp)) (fun _ h => h) _ _ hy')
  obtain ⟨hlen, hat⟩ := rlsB_at2 hrl
  rw [Rd] at hz hz'
  obtain ⟨A, c, rfl, hc, hcm, hr⟩ := hz
  obtain ⟨A', c', rfl, hc', hcm', hr'⟩ := hz'
  rw [List.length_map] at hc hc' h h' ⊢
  rw [← hlen] at hc'
  rw [List.length_map, ← hlen]
  have HR := Lib.hid hr
  have HR' := Lib.hid hr'
  have HSS := Lib.hid hS
  have HSS' := Lib.hid hS'
  have HAT := Lib.hid hat
  have HLEN := Lib.hid hlen
  obtain ⟨n, hn⟩ : ∃ n, Hid (g.roles.length = n) := ⟨_, Lib.hid rfl⟩
  rw [hn.out] at hc hc' ⊢
  unfold maxLen at hcm
  have HB0 : Hid (Below w.heap.size w ((w.alloc (.cells #[.slice AF nF cF, .slice A n c] 26)).alloc (.cells #[.slice AG nG cG, .slice A' n c'] 26))) := Lib.hid (two w _ _)
  obtain ⟨W2, hW2⟩ : ∃ W, Hid ((w.alloc (.cells #[.slice AF nF cF, .slice A n c] 26)).alloc (.cells #[.slice AG nG cG, .slice A' n c'] 26) = W) := ⟨_, Lib.hid rfl⟩
  have QA : Hid (W2.heap[w.heap.size]? = some (.cells #[.slice AF nF cF, .slice A n c] 26 (0, 0))) := Lib.hid (by rw [← hW2.out]; exact heap_old (heap_new w _) _)
  have QB : Hid (W2.heap[w.heap.size + 1]? = some (.cells #[.slice AG nG cG, .slice A' n c'] 26 (0, 0))) := Lib.hid (by rw [← hW2.out]; exact heap_new' (w.alloc _) _ _ (by simp))
  rw [hW2.out] at HB0
  clear hr hr' hcm' hfn hrl hlen hat hS hS' h h' hy hy'
  go_enter Tryz.func21, Tryz.ntmps21
  go_wp2_with fail
  rw [hW2.out]
  refine (HFN.out _ HB0.out).mono ?_
  rintro e w3 ⟨rfl, hb3⟩
  have HB3 := Lib.hid (HB0.out.trans (hb3.mono HB0.out.size))
  have HR3 := Lib.hid hb3
  clear hb3
  go_wp2_with fail
  go_loopg [7] n (fun g i wr => ∃ (j : Nat), j + g = n ∧ i = .int .i64 (j : Int) ∧ Hid (Below w.heap.size w wr) ∧ Hid (Below W2.heap.size W2 wr))
  case atStart => exact ⟨0, by omega, rfl, HB3, HR3⟩
  case round =>
    obtain ⟨j, hj, rfl, HB, HR2⟩ := hrel
    obtain ⟨p0, p1⟩ := two_box (heap_below QA.out HR2.out)
    obtain ⟨q0, q1⟩ := two_box (heap_below QB.out HR2.out)
    cases gk with
    | zero =>
      have h1 : ¬ (j : Int) < (n : Int) := by omega
      go_wp2_with fail
      go_ret
      exact ⟨rfl, HB.out⟩
    | succ g1 =>
      have h1 : (j : Int) < (n : Int) := by omega
      have hjl : j < g.roles.length := by rw [hn.out]; omega
      have hjm : j < m.roles.length := by rw [← HLEN.out]; exact hjl
      obtain ⟨b, o, vs, rfl, hSb, hvl, hrg, hx⟩ := HR.out.at j (Rl.nd g.roles[j]) (by simp [hjl])
      obtain ⟨b', o', vs', rfl, hSb', hvl', hrg', hx'⟩ := HR'.out.at j (Rl.nd m.roles[j]) (by simp [hjm])
      have hsm := HAT.out j g.roles[j] m.roles[j] (by simp [hjl]) (by simp [hjm])
      generalize g.roles[j] = x at *
      generalize m.roles[j] = y at *
      obtain ⟨s, ps, st, ln⟩ := x
      obtain ⟨s', ps', st', ln'⟩ := y
      unfold rlB at hsm
      simp only [Bool.and_eq_true, beq_iff_eq] at hsm
      obtain ⟨⟨⟨rfl, hln⟩, rfl⟩, hst⟩ := hsm
      obtain ⟨u1, u2, e1, -, -, r1, r2⟩ := (hd_rd s ps 4 (st.map Bd.nd) ln _).1 hx
      obtain ⟨t1, t2, e2, -, -, s1, s2⟩ := (hd_rd s ps 4 (st'.map Bd.nd) ln' _).1 hx'
      obtain ⟨X, hX⟩ : ∃ X, strOf s = X := ⟨_, rfl⟩
      rw [hX] at e1 e2
      obtain rfl := bx4v e1
      obtain rfl := bx4v e2
      have hbq : b < w.heap.size := HSS.out b hSb
      have hbq' : b' < w.heap.size := HSS'.out b' hSb'
      obtain ⟨A1, n1, c1, rfl⟩ := r1.rowf
      obtain ⟨A2, n2, c2, rfl⟩ := r2.rowf
      obtain ⟨B1, m1, d1, rfl⟩ := s1.rowf
      obtain ⟨B2, m2, d2, rfl⟩ := s2.rowf
      obtain ⟨y0, y1, y2, y3⟩ := four_cells (w := wr) (b := b) (o := o + j * 4) (a0 := .string X) (a1 := .slice A1 n1 c1) (a2 := .slice A2 n2 c2) (a3 := .int .i64 ln) (fun i u hu => by
        have := hrg i u hu
        rw [Nat.zero_add] at this
        exact (HB.out.cell (p := ⟨b, o + j * 4 + i, none⟩) hbq).trans this)
      obtain ⟨z0, z1, z2, z3⟩ := four_cells (w := wr) (b := b') (o := o' + j * 4) (a0 := .string X) (a1 := .slice B1 m1 d1) (a2 := .slice B2 m2 d2) (a3 := .int .i64 ln') (fun i u hu => by
        have := hrg' i u hu
        rw [Nat.zero_add] at this
        exact (HB.out.cell (p := ⟨b', o' + j * 4 + i, none⟩) hbq').trans this)
      have hwr : w.heap.size ≤ wr.heap.size := HB.out.size
      have hb1 : b < wr.heap.size := by omega
      have hb2 : b' < wr.heap.size := by omega
      have hlA := lt_heap (heap_below QA.out HR2.out)
      have hlB := lt_heap (heap_below QB.out HR2.out)
      have HTX := Lib.hid (fun w' (hb : Below w.heap.size w w') => sametexts_any ps w' S S' _ _ (Rd.keep (fun p hp => hb.cell (HSS.out _ hp)) (fun _ h => h) _ _ r1) (Rd.keep (fun p hp => hb.cell (HSS'.out _ hp)) (fun _ h => h) _ _ s1))
      have HBD := Lib.hid (fun w' (hb : Below w.heap.size w w') => samebodies_any ls st st' hst w' S S' _ _ (fun b h => Nat.lt_of_lt_of_le (HSS.out b h) hb.size) (fun b h => Nat.lt_of_lt_of_le (HSS'.out b h) hb.size) (Rd.keep (fun p hp => hb.cell (HSS.out _ hp)) (fun _ h => h) _ _ r2) (Rd.keep (fun p hp => hb.cell (HSS'.out _ hp)) (fun _ h => h) _ _ s2))
      clear hX hrg hrg' hx hx' e1 e2 hjl hjm hvl hvl' r1 r2 s1 s2 hst
      go_wp2_with fail
      go_region_held3 (fun w' => ((w'.cell? ⟨b, o + j * 4, none⟩ = some (.string X) ∧ w'.cell? ⟨b, o + j * 4 + 1, none⟩ = some (.slice A1 n1 c1) ∧ w'.cell? ⟨b, o + j * 4 + 2, none⟩ = some (.slice A2 n2 c2) ∧ w'.cell? ⟨b, o + j * 4 + 3, none⟩ = some (.int .i64 ln)) ∧ (w'.cell? ⟨b', o' + j * 4, none⟩ = some (.string X) ∧ w'.cell? ⟨b', o' + j * 4 + 1, none⟩ = some (.slice B1 m1 d1) ∧ w'.cell? ⟨b', o' + j * 4 + 2, none⟩ = some (.slice B2 m2 d2) ∧ w'.cell? ⟨b', o' + j * 4 + 3, none⟩ = some (.int .i64 ln'))) ∧ w'.cell? ⟨w.heap.size, 1, none⟩ = some (.slice (some ⟨b, o, none⟩) n c) ∧ w'.cell? ⟨w.heap.size + 1, 1, none⟩ = some (.slice (some ⟨b', o', none⟩) n c')) (go_keep) (fail)
      · cases ls with
        | false =>
          clear hln
          obtain ⟨W, hW⟩ : ∃ W, Hid (((wr.alloc (.cells #[.string X, .slice A1 n1 c1, .slice A2 n2 c2, .int .i64 ln] 85)).alloc (.cells #[.string X, .slice B1 m1 d1, .slice B2 m2 d2, .int .i64 ln'] 85)).drew = W) := ⟨_, Lib.hid rfl⟩
          have HBW : Hid (Below w.heap.size w W) := Lib.hid (by rw [← hW.out]; exact two_drew (hB := hwr) HB.out _ _)
          have HBR : Hid (Below W2.heap.size W2 W) := Lib.hid (by rw [← hW.out]; exact two_drew (hB := HR2.out.size) HR2.out _ _)
          have HP : Hid (W.heap[wr.heap.size]? = some (.cells #[.string X, .slice A1 n1 c1, .slice A2 n2 c2, .int .i64 ln] 85 (0, 0))) := Lib.hid (by rw [← hW.out]; exact heap_old (heap_new wr _) _)
          have HQ : Hid (W.heap[(wr.heap.size + 1)]? = some (.cells #[.string X, .slice B1 m1 d1, .slice B2 m2 d2, .int .i64 ln'] 85 (0, 0))) := Lib.hid (by rw [← hW.out]; exact heap_new' (wr.alloc _) _ _ (by simp))
          rw [hW.out]
          clear hW y0 y1 y2 y3 z0 z1 z2 z3 p0 p1 q0 q1 HB HR2
          obtain ⟨⟨p0, p1, p2, p3⟩, -⟩ := box4f HP.out
          obtain ⟨⟨v0, v1, v2, v3⟩, -⟩ := box4f HQ.out
          go_wp2_with (first
            | (go_at_call 64
               refine (HTX.out _ HBW.out).mono ?_
               rintro e w1 ⟨rfl, kq, rfl⟩
               have HB1 := Lib.hid (below_drewN HBW.out kq)
               have HR1 := Lib.hid (below_drewN HBR.out kq))
            | (go_at_call 63
               refine (HBD.out _ HB1.out).mono ?_
               rintro e w2 ⟨rfl, hb2⟩
               have HB2 := Lib.hid (HB1.out.trans (hb2.mono HB1.out.size))
               have HR3 := Lib.hid (HR1.out.trans (hb2.mono HR1.out.size))
               clear hb2)
            | (fail))
          go_roundg g1
          case measure => omega
          case rel => exact ⟨j + 1, by omega, by go_num, HB2, HR3⟩
        | true =>
          obtain rfl : ln = ln' := by simpa using hln
          clear hln
          obtain ⟨W, hW⟩ : ∃ W, Hid (((wr.alloc (.cells #[.string X, .slice A1 n1 c1, .slice A2 n2 c2, .int .i64 ln] 85)).alloc (.cells #[.string X, .slice B1 m1 d1, .slice B2 m2 d2, .int .i64 ln] 85)).drew = W) := ⟨_, Lib.hid rfl⟩
          have HBW : Hid (Below w.heap.size w W) := Lib.hid (by rw [← hW.out]; exact two_drew (hB := hwr) HB.out _ _)
          have HBR : Hid (Below W2.heap.size W2 W) := Lib.hid (by rw [← hW.out]; exact two_drew (hB := HR2.out.size) HR2.out _ _)
          have HP : Hid (W.heap[wr.heap.size]? = some (.cells #[.string X, .slice A1 n1 c1, .slice A2 n2 c2, .int .i64 ln] 85 (0, 0))) := Lib.hid (by rw [← hW.out]; exact heap_old (heap_new wr _) _)
          have HQ : Hid (W.heap[(wr.heap.size + 1)]? = some (.cells #[.string X, .slice B1 m1 d1, .slice B2 m2 d2, .int .i64 ln] 85 (0, 0))) := Lib.hid (by rw [← hW.out]; exact heap_new' (wr.alloc _) _ _ (by simp))
          rw [hW.out]
          clear hW y0 y1 y2 y3 z0 z1 z2 z3 p0 p1 q0 q1 HB HR2
          obtain ⟨⟨p0, p1, p2, p3⟩, -⟩ := box4f HP.out
          obtain ⟨⟨v0, v1, v2, v3⟩, -⟩ := box4f HQ.out
          go_wp2_with (first
            | (go_at_call 64
               refine (HTX.out _ HBW.out).mono ?_
               rintro e w1 ⟨rfl, kq, rfl⟩
               have HB1 := Lib.hid (below_drewN HBW.out kq)
               have HR1 := Lib.hid (below_drewN HBR.out kq))
            | (go_at_call 63
               refine (HBD.out _ HB1.out).mono ?_
               rintro e w2 ⟨rfl, hb2⟩
               have HB2 := Lib.hid (HB1.out.trans (hb2.mono HB1.out.size))
               have HR3 := Lib.hid (HR1.out.trans (hb2.mono HR1.out.size))
               clear hb2)
            | (fail))
          go_roundg g1
          case measure => omega
          case rel => exact ⟨j + 1, by omega, by go_num, HB2, HR3⟩
      · cases ls with
        | false =>
          clear hln
          obtain ⟨W, hW⟩ : ∃ W, Hid (((wr.alloc (.cells #[.string X, .slice B1 m1 d1, .slice B2 m2 d2, .int .i64 ln'] 85)).alloc (.cells #[.string X, .slice A1 n1 c1, .slice A2 n2 c2, .int .i64 ln] 85)).drew = W) := ⟨_, Lib.hid rfl⟩
          have HBW : Hid (Below w.heap.size w W) := Lib.hid (by rw [← hW.out]; exact two_drew (hB := hwr) HB.out _ _)
          have HBR : Hid (Below W2.heap.size W2 W) := Lib.hid (by rw [← hW.out]; exact two_drew (hB := HR2.out.size) HR2.out _ _)
          have HP : Hid (W.heap[(wr.heap.size + 1)]? = some (.cells #[.string X, .slice A1 n1 c1, .slice A2 n2 c2, .int .i64 ln] 85 (0, 0))) := Lib.hid (by rw [← hW.out]; exact heap_new' (wr.alloc _) _ _ (by simp))
          have HQ : Hid (W.heap[wr.heap.size]? = some (.cells #[.string X, .slice B1 m1 d1, .slice B2 m2 d2, .int .i64 ln'] 85 (0, 0))) := Lib.hid (by rw [← hW.out]; exact heap_old (heap_new wr _) _)
          rw [hW.out]
          clear hW y0 y1 y2 y3 z0 z1 z2 z3 p0 p1 q0 q1 HB HR2
          obtain ⟨⟨p0, p1, p2, p3⟩, -⟩ := box4f HP.out
          obtain ⟨⟨v0, v1, v2, v3⟩, -⟩ := box4f HQ.out
          go_wp2_with (first
            | (go_at_call 64
               refine (HTX.out _ HBW.out).mono ?_
               rintro e w1 ⟨rfl, kq, rfl⟩
               have HB1 := Lib.hid (below_drewN HBW.out kq)
               have HR1 := Lib.hid (below_drewN HBR.out kq))
            | (go_at_call 63
               refine (HBD.out _ HB1.out).mono ?_
               rintro e w2 ⟨rfl, hb2⟩
               have HB2 := Lib.hid (HB1.out.trans (hb2.mono HB1.out.size))
               have HR3 := Lib.hid (HR1.out.trans (hb2.mono HR1.out.size))
               clear hb2)
            | (fail))
          go_roundg g1
          case measure => omega
          case rel => exact ⟨j + 1, by omega, by go_num, HB2, HR3⟩
        | true =>
          obtain rfl : ln = ln' := by simpa using hln
          clear hln
          obtain ⟨W, hW⟩ : ∃ W, Hid (((wr.alloc (.cells #[.string X, .slice B1 m1 d1, .slice B2 m2 d2, .int .i64 ln] 85)).alloc (.cells #[.string X, .slice A1 n1 c1, .slice A2 n2 c2, .int .i64 ln] 85)).drew = W) := ⟨_, Lib.hid rfl⟩
          have HBW : Hid (Below w.heap.size w W) := Lib.hid (by rw [← hW.out]; exact two_drew (hB := hwr) HB.out _ _)
          have HBR : Hid (Below W2.heap.size W2 W) := Lib.hid (by rw [← hW.out]; exact two_drew (hB := HR2.out.size) HR2.out _ _)
          have HP : Hid (W.heap[(wr.heap.size + 1)]? = some (.cells #[.string X, .slice A1 n1 c1, .slice A2 n2 c2, .int .i64 ln] 85 (0, 0))) := Lib.hid (by rw [← hW.out]; exact heap_new' (wr.alloc _) _ _ (by simp))
          have HQ : Hid (W.heap[wr.heap.size]? = some (.cells #[.string X, .slice B1 m1 d1, .slice B2 m2 d2, .int .i64 ln] 85 (0, 0))) := Lib.hid (by rw [← hW.out]; exact heap_old (heap_new wr _) _)
          rw [hW.out]
          clear hW y0 y1 y2 y3 z0 z1 z2 z3 p0 p1 q0 q1 HB HR2
          obtain ⟨⟨p0, p1, p2, p3⟩, -⟩ := box4f HP.out
          obtain ⟨⟨v0, v1, v2, v3⟩, -⟩ := box4f HQ.out
          go_wp2_with (first
            | (go_at_call 64
               refine (HTX.out _ HBW.out).mono ?_
               rintro e w1 ⟨rfl, kq, rfl⟩
               have HB1 := Lib.hid (below_drewN HBW.out kq)
               have HR1 := Lib.hid (below_drewN HBR.out kq))
            | (go_at_call 63
               refine (HBD.out _ HB1.out).mono ?_
               rintro e w2 ⟨rfl, hb2⟩
               have HB2 := Lib.hid (HB1.out.trans (hb2.mono HB1.out.size))
               have HR3 := Lib.hid (HR1.out.trans (hb2.mono HR1.out.size))
               clear hb2)
            | (fail))
          go_roundg g1
          case measure => omega
          case rel => exact ⟨j + 1, by omega, by go_num, HB2, HR3⟩
end Go.Proofs.YteacmanbiamhoaaGreatDoor
