/- droverkit.Huge, of any program. -/
import Derived.Test.YteacmanbiamhoaaGreatDoorZx
import Derived.Deep.Cut
import Derived.Deep.CutBlock
import Derived.Deep.CutRange
namespace Go.Proofs.YteacmanbiamhoaaGreatDoor
open Go.RowKit
set_option linter.unusedVariables false

theorem bx2h {w : World} {b : Nat} {v0 v1 : Value} {t : TypeId} {x : Nat × Nat} (h : w.heap[b]? = some (.cells #[v0, v1] t x)) : w.cell? ⟨b, 0, none⟩ = some v0 ∧ w.cell? ⟨b, 1, none⟩ = some v1 := ⟨by simp [World.cell?, h], by simp [World.cell?, h]⟩

/-- Where the count stands: too many were met already, or not yet. -/
def HgSt (q : Nat) (f : Int → Option Int) (R : Option Int) (bad : Bool) (w : World) : Prop := ∃ z, Cn w q z ∧ ((bad = true ∧ R = none) ∨ (bad = false ∧ f z = R))
def nxHB (many : Int) (lv : Nat) (l : List Bd) : Option Int → Option Int
  | none => none
  | some c => hgBs many lv l c
theorem hgBs_cons (many : Int) (lv : Nat) (x : Bd) (l : List Bd) (c : Int) : hgBs many lv (x :: l) c = nxHB many lv l (hgB many lv x c) := by
  rw [hgBs]
  cases hgB many lv x c <;> rfl
def nxHRl (many : Int) (lv : Nat) (l : List Rl) : Option Int → Option Int
  | none => none
  | some c => hgRs many lv l c
theorem hgRs_cons (many : Int) (lv : Nat) (x : Rl) (l : List Rl) (c : Int) : hgRs many lv (x :: l) c = nxHRl many lv l (hgR many lv x c) := by
  rw [hgRs]
  cases hgR many lv x c <;> rfl
/-- A body behind which the count goes on. -/
theorem HgSt.next {q : Nat} {w w' : World} {r : Option Int} {f : Int → Option Int} {R : Option Int} {f0 : Option Int → Option Int} (h0 : f0 none = none) (hs : ∀ c, f0 (some c) = f c) (h : OutH q w r (.returned (.bool r.isNone)) w') (hR : f0 r = R) : HgSt q f R r.isNone w' := by
  obtain ⟨-, ⟨z, hz, hz2⟩, -⟩ := h
  refine ⟨z, hz, ?_⟩
  cases r with
  | none => exact .inl ⟨rfl, by rw [← hR, h0]⟩
  | some c =>
    obtain rfl := hz2 c rfl
    exact .inr ⟨rfl, by rw [← hR, hs]⟩
def finH (many : Int) : Option Int → Option Int
  | none => none
  | some n => if many < n then none else some n
theorem hgP_eq (many : Int) (lv : Nat) (fns : List Bd) (roles : List Rl) : hgP many lv ⟨fns, roles⟩ = finH many (nxHRl many lv roles (hgBs many lv fns (wi ((fns.length : Int) + (roles.length : Int))))) := by
  unfold hgP
  dsimp only
  cases hgBs many lv fns (wi ((fns.length : Int) + (roles.length : Int))) with
  | none => rfl
  | some n =>
    dsimp only [nxHRl]
    cases hgRs many lv roles n <;> rfl
theorem HgSt.stop {q : Nat} {f g : Int → Option Int} {R R' : Option Int} {w : World} {bad : Bool} (h : HgSt q f R bad w) (h1 : R = none → R' = none) (h2 : ∀ z, f z = R → g z = R') : HgSt q g R' bad w := by
  obtain ⟨z, hz, (⟨a, b⟩ | ⟨a, b⟩)⟩ := h
  · exact ⟨z, hz, .inl ⟨a, h1 b⟩⟩
  · exact ⟨z, hz, .inr ⟨a, h2 z b⟩⟩
theorem HgSt.end {q : Nat} {f g : Int → Option Int} {R R' : Option Int} {w : World} (h : HgSt q f R true w) (h1 : R = none → R' = none) : HgSt q g R' true w := by
  obtain ⟨z, hz, (⟨a, b⟩ | ⟨a, b⟩)⟩ := h
  · exact ⟨z, hz, .inl ⟨a, h1 b⟩⟩
  · cases a
theorem HgSt.bad {q : Nat} {f g : Int → Option Int} {R : Option Int} {w : World} (h : HgSt q f R true w) : HgSt q g R true w := by
  obtain ⟨z, hz, (⟨a, b⟩ | ⟨a, b⟩)⟩ := h
  · exact ⟨z, hz, .inl ⟨a, b⟩⟩
  · cases a
theorem HgSt.none {q : Nat} {f : Int → Option Int} {R : Option Int} {w : World} (h : HgSt q f R true w) : R = none := by
  obtain ⟨z, hz, (⟨a, b⟩ | ⟨a, b⟩)⟩ := h
  · exact b
  · cases a
theorem HgSt.go {q : Nat} {f : Int → Option Int} {R : Option Int} {w : World} (h : HgSt q f R false w) : ∃ z, Cn w q z ∧ f z = R := by
  obtain ⟨z, hz, (⟨a, b⟩ | ⟨a, b⟩)⟩ := h
  · cases a
  · exact ⟨z, hz, b⟩
set_option maxRecDepth 100000 in
set_option maxHeartbeats 8000000 in
theorem huge_any (many : Int) (hm : many ≤ 1000000) (hm0 : 0 ≤ many) (lv : Nat) (hlv : lv ≤ 1000) (g : Pg) (w : World) (S : Nat → Prop) (v : Value) (hS : ∀ b, S b → b < w.heap.size) (hr : Rw w S g.nd v) :
    Calls Tryz.prog 19 #[v, .int .i64 (lv : Int), .int .i64 many] w fun e w' => e = .returned (.bool (hgP many lv g).isNone) ∧ Below w.heap.size w w' := by
  obtain ⟨fns, roles⟩ := g
  obtain ⟨y, z, rfl, hy, hz⟩ := (Pg.rw ⟨fns, roles⟩ v).1 hr
  rw [Rw] at hy hz
  obtain ⟨AF, cF, rfl, hcF, hmF, hrF⟩ := hy
  obtain ⟨AR, cR, rfl, hcR, hmR, hrR⟩ := hz
  rw [List.length_map] at hcF hcR
  rw [List.length_map, List.length_map]
  dsimp only at hcF hcR ⊢
  obtain ⟨nF, hnF⟩ : ∃ n, Hid (fns.length = n) := ⟨_, Lib.hid rfl⟩
  obtain ⟨nR, hnR⟩ : ∃ n, Hid (roles.length = n) := ⟨_, Lib.hid rfl⟩
  rw [hnF.out] at hcF ⊢
  rw [hnR.out] at hcR ⊢
  unfold maxLen at hmF hmR
  obtain ⟨n0, hn0⟩ : ∃ n, wi ((nF : Int) + (nR : Int)) = n := ⟨_, rfl⟩
  have wn : IntKind.i64.wrap ((nF : Int) + (nR : Int)) = n0 := hn0
  obtain ⟨r, hrr⟩ : ∃ r, Hid (hgP many lv ⟨fns, roles⟩ = r) := ⟨_, Lib.hid rfl⟩
  rw [hrr.out]
  obtain ⟨r1, hr1⟩ : ∃ r1, Hid (hgBs many lv fns n0 = r1) := ⟨_, Lib.hid rfl⟩
  have HFI : Hid (finH many (nxHRl many lv roles r1) = r) := Lib.hid (by rw [← hrr.out, hgP_eq, hnF.out, hnR.out, hn0, hr1.out])
  have HRF : Hid (Rws w S AF 4 0 (fns.map Bd.nd)) := Lib.hid hrF
  have HRR : Hid (Rws w S AR 4 0 (roles.map Rl.nd)) := Lib.hid hrR
  have HSS := Lib.hid hS
  obtain ⟨W1, hW1⟩ : ∃ W, Hid (((w.alloc (.cells #[.slice AF nF cF, .slice AR nR cR] 26)).alloc (.cells #[.int .i64 n0] 3)) = W) := ⟨_, Lib.hid rfl⟩
  have HC1 : Hid (Cn W1 (w.heap.size + 1) n0) := Lib.hid (by
    rw [← hW1.out]
    have := heap_new (w.alloc (.cells #[.slice AF nF cF, .slice AR nR cR] 26)) (.cells #[.int .i64 n0] 3)
    unfold Cn
    simpa using this)
  have HK1 : Hid (Kp (w.heap.size + 1) w W1) := Lib.hid (by rw [← hW1.out]; exact ((Kp.refl _ w).alloc _).alloc _)
  have HQ1 : Hid (W1.heap[w.heap.size]? = some (.cells #[.slice AF nF cF, .slice AR nR cR] 26 (0, 0))) := Lib.hid (by rw [← hW1.out]; exact heap_old (heap_new w _) _)
  have HPB : Hid (∀ w', Kp (w.heap.size + 1) W1 w' → w'.cell? ⟨w.heap.size, 0, none⟩ = some (.slice AF nF cF) ∧ w'.cell? ⟨w.heap.size, 1, none⟩ = some (.slice AR nR cR)) := Lib.hid fun w' hk => by
    obtain ⟨p0, p1⟩ := bx2h (hk.heap HQ1.out (Nat.ne_of_lt (Nat.lt_succ_self _)))
    exact ⟨p0, p1⟩
  have HSU : Hid (∀ w', Kp (w.heap.size + 1) W1 w' → ∀ b, S b → b < w'.heap.size ∧ b ≠ w.heap.size + 1) := Lib.hid fun w' hk b hb => by
    have := HSS.out b hb
    have := (HK1.out.trans hk).size
    exact ⟨by omega, by omega⟩
  have HKC : Hid (∀ w', Kp (w.heap.size + 1) W1 w' → ∀ p : Addr, S p.block → w'.cell? p = w.cell? p) := Lib.hid fun w' hk p hp => (HK1.out.trans hk).cellq (HSS.out _ hp) (by have := HSS.out _ hp; omega)
  have HBD : Hid (∀ (x : Bd) (z : Int) (w' : World) (v : Value), Kp (w.heap.size + 1) W1 w' → Rw w S x.nd v → Cn w' (w.heap.size + 1) z → Calls Tryz.prog 59 #[v, .int .i64 (lv : Int), .int .i64 many, .pointer (some ⟨w.heap.size + 1, 0, none⟩)] w' (OutH (w.heap.size + 1) w' (hgB many lv x z))) := Lib.hid fun x z w' v hk hx hc => hugebody_any _ many hm hm0 lv hlv x z w' S v (HSU.out w' hk) (Rw.keep (fun p hp => HKC.out w' hk p hp) (fun _ h => h) _ _ hx) hc
  clear hr hrF hrR hS hn0
  go_enter Tryz.func19, Tryz.ntmps19
  go_upto_block 0 with fail
  rw [hW1.out]
  clear hW1
  go_cut [8] from 9 to 37 (fun s wr => ∃ bd : Bool, s = .bool bd ∧ Hid (HgSt (w.heap.size + 1) some r1 bd wr) ∧ Hid (Kp (w.heap.size + 1) W1 wr))
  case first =>
    go_wp2_with fail
    go_loopg [8, 9] nF (fun g s i wr => ∃ (j : Nat) (bd : Bool), j + g = nF ∧ i = .int .i64 (j : Int) ∧ s = .bool bd ∧ Hid (HgSt (w.heap.size + 1) (hgBs many lv (fns.drop j)) r1 bd wr) ∧ Hid (Kp (w.heap.size + 1) W1 wr))
    case atStart => exact ⟨0, false, by omega, rfl, rfl, Lib.hid ⟨n0, HC1.out, .inr ⟨rfl, by rw [List.drop_zero]; exact hr1.out⟩⟩, Lib.hid (Kp.refl _ _)⟩
    case round =>
      obtain ⟨j, bd, hj, rfl, rfl, HS, HK⟩ := hrel
      obtain ⟨p0, p1⟩ := HPB.out wr HK.out
      cases gk with
      | zero =>
        have h1 : ¬ (j : Int) < (nF : Int) := by omega
        have HE : Hid (HgSt (w.heap.size + 1) some r1 bd wr) := Lib.hid (HS.out.stop (fun h => h) (fun z h => by rw [← h, List.drop_eq_nil_of_le (by rw [hnF.out]; omega), hgBs]))
        clear HS
        go_wp2_with fail
        go_meet
        exact ⟨bd, rfl, HE, HK⟩
      | succ g =>
        have h1 : (j : Int) < (nF : Int) := by omega
        have h2 : j < nF := by omega
        cases bd with
        | true =>
          have HE : Hid (HgSt (w.heap.size + 1) some r1 true wr) := Lib.hid HS.out.bad
          clear HS
          go_wp2_with fail
          go_meet
          exact ⟨true, rfl, HE, HK⟩
        | false =>
          have hjl : j < fns.length := by rw [hnF.out]; exact h2
          obtain ⟨b, o, vs, rfl, hSb, hvl, hrg, hx⟩ := HRF.out.at j (Bd.nd fns[j]) (by simp [hjl])
          have HD := Lib.hid (List.drop_eq_getElem_cons hjl)
          generalize fns[j] = x at *
          have HX := Lib.hid hx
          obtain ⟨s1, ps1, st1, ln1⟩ := x
          obtain ⟨y, y', hv, -, -, hy, hy1⟩ := (hd_rw s1 ps1 6 _ ln1 _).1 hx
          obtain ⟨A3, n3, c3, rfl⟩ := hy.rowf
          obtain ⟨A4, n4, c4, rfl⟩ := hy1.rowf
          have hv2 : vs = [.string (strOf s1), .slice A3 n3 c3, .slice A4 n4 c4, .int .i64 ln1] := by
            injection hv with hv
            have := congrArg Array.toList hv
            simpa using this
          subst hv2
          have hcell : ∀ i u, ([.string (strOf s1), .slice A3 n3 c3, .slice A4 n4 c4, .int .i64 ln1] : List Value)[i]? = some u → wr.cell? ⟨b, o + j * 4 + i, none⟩ = some u := fun i u hu => by
            have := hrg i u hu
            rw [Nat.zero_add] at this
            exact (HKC.out wr HK.out ⟨b, o + j * 4 + i, none⟩ hSb).trans this
          have y0 : wr.cell? ⟨b, o + j * 4, none⟩ = some (.string (strOf s1)) := hcell 0 _ rfl
          have y1 := hcell 1 _ rfl
          have y2 := hcell 2 _ rfl
          have y3 := hcell 3 _ rfl
          obtain ⟨z, hz, hf⟩ := HS.out.go
          have HB := Lib.hid (HBD.out ⟨s1, ps1, st1, ln1⟩ z wr _ HK.out HX.out hz)
          have HN : Hid (nxHB many lv (fns.drop (j + 1)) (hgB many lv ⟨s1, ps1, st1, ln1⟩ z) = r1) := Lib.hid (by rw [← hgBs_cons, ← HD.out]; exact hf)
          clear hrg hx hv hy hy1 HD hjl hcell hf hz HS HX
          generalize hgB many lv ⟨s1, ps1, st1, ln1⟩ z = rb at *
          go_wp2_with (first
            | (go_at_call 59
               refine HB.out.mono ?_
               rintro e w3 ⟨rfl, h3, hk3⟩
               have HS3 := Lib.hid (HgSt.next (f0 := nxHB many lv (fns.drop (j + 1))) rfl (fun _ => rfl) ⟨rfl, h3, hk3⟩ HN.out)
               have HK3 := Lib.hid (HK.out.trans hk3)
               clear h3 hk3)
            | (fail))
          go_roundg g
          case measure => omega
          case rel => exact ⟨j + 1, rb.isNone, by omega, by go_num, rfl, HS3, HK3⟩
  case rest =>
    obtain ⟨bd1, rfl, HS1, HKK⟩ := hcut
    obtain ⟨p0, p1⟩ := HPB.out wc HKK.out
    obtain ⟨R2, hR2⟩ : ∃ R2, Hid (nxHRl many lv roles r1 = R2) := ⟨_, Lib.hid rfl⟩
    have HS2 : Hid (HgSt (w.heap.size + 1) (hgRs many lv roles) R2 bd1 wc) := Lib.hid (HS1.out.stop (fun h => by rw [← hR2.out, h]; rfl) (fun z h => by rw [← hR2.out, ← h]; rfl))
    rw [hR2.out] at HFI
    clear HS1 hr1 HC1 HRF hR2
    go_upto_block 2 with fail
    go_cut [8] from 10 to 106 (fun s wr => ∃ bd : Bool, s = .bool bd ∧ Hid (HgSt (w.heap.size + 1) some R2 bd wr) ∧ Hid (Kp (w.heap.size + 1) W1 wr))
    case first =>
      clear p0 p1
      go_wp2_with fail
      go_loopg [8, 10] nR (fun g s i wr => ∃ (j : Nat) (bd : Bool), j + g = nR ∧ i = .int .i64 (j : Int) ∧ s = .bool bd ∧ Hid (HgSt (w.heap.size + 1) (hgRs many lv (roles.drop j)) R2 bd wr) ∧ Hid (Kp (w.heap.size + 1) W1 wr))
      case atStart => exact ⟨0, bd1, by omega, rfl, rfl, HS2, HKK⟩
      case round =>
        clear HS2 HKK
        obtain ⟨j, bd, hj, rfl, rfl, HS, HK⟩ := hrel
        obtain ⟨p0, p1⟩ := HPB.out wr HK.out
        cases gk with
        | zero =>
          have h1 : ¬ (j : Int) < (nR : Int) := by omega
          have HE : Hid (HgSt (w.heap.size + 1) some R2 bd wr) := Lib.hid (HS.out.stop (fun h => h) (fun z h => by rw [← h, List.drop_eq_nil_of_le (by rw [hnR.out]; omega), hgRs]))
          clear HS
          go_wp2_with fail
          go_meet
          exact ⟨bd, rfl, HE, HK⟩
        | succ g =>
          have h1 : (j : Int) < (nR : Int) := by omega
          have h2 : j < nR := by omega
          cases bd with
          | true =>
            have HE : Hid (HgSt (w.heap.size + 1) some R2 true wr) := Lib.hid HS.out.bad
            clear HS
            go_wp2_with fail
            go_meet
            exact ⟨true, rfl, HE, HK⟩
          | false =>
            have hjl : j < roles.length := by rw [hnR.out]; exact h2
            obtain ⟨b, o, vs, rfl, hSb, hvl, hrg, hx⟩ := HRR.out.at j (Rl.nd roles[j]) (by simp [hjl])
            have HD := Lib.hid (List.drop_eq_getElem_cons hjl)
            generalize roles[j] = x at *
            obtain ⟨s1, ps1, on1, ln1⟩ := x
            obtain ⟨y, y', hv, -, -, hy, hy1⟩ := (hd_rw s1 ps1 4 _ ln1 _).1 hx
            have HYP := Lib.hid hy
            rw [Rw] at hy hy1
            obtain ⟨A3, c3, rfl, hc3, hm3, -⟩ := hy
            obtain ⟨A4, c4, rfl, hc4, hm4, hr4⟩ := hy1
            rw [List.length_map] at hc3 hc4 hv
            rw [List.length_map] at hv
            have HYP2 := HYP
            have HON : Hid (Rws w S A4 4 0 (on1.map Bd.nd)) := Lib.hid hr4
            obtain ⟨n3, hn3⟩ : ∃ n, Hid (ps1.length = n) := ⟨_, Lib.hid rfl⟩
            obtain ⟨n4, hn4⟩ : ∃ n, Hid (on1.length = n) := ⟨_, Lib.hid rfl⟩
            rw [hn3.out] at hc3 hv
            rw [hn4.out] at hc4 hv
            unfold maxLen at hm3 hm4
            obtain ⟨X, hX⟩ : ∃ X, strOf s1 = X := ⟨_, rfl⟩
            have hXs : X.size = s1.length := by rw [← hX, strOf_size]
            rw [hX] at hv
            have hv2 : vs = [.string X, .slice A3 n3 c3, .slice A4 n4 c4, .int .i64 ln1] := by
              injection hv with hv
              have := congrArg Array.toList hv
              simpa using this
            subst hv2
            have HCE : Hid (∀ w', Kp (w.heap.size + 1) W1 w' → w'.cell? ⟨b, o + j * 4, none⟩ = some (.string X) ∧ w'.cell? ⟨b, o + j * 4 + 1, none⟩ = some (.slice A3 n3 c3) ∧ w'.cell? ⟨b, o + j * 4 + 2, none⟩ = some (.slice A4 n4 c4)) := Lib.hid fun w' hk => by
              have hcell : ∀ i u, ([.string X, .slice A3 n3 c3, .slice A4 n4 c4, .int .i64 ln1] : List Value)[i]? = some u → w'.cell? ⟨b, o + j * 4 + i, none⟩ = some u := fun i u hu => by
                have := hrg i u hu
                rw [Nat.zero_add] at this
                exact (HKC.out w' hk ⟨b, o + j * 4 + i, none⟩ hSb).trans this
              exact ⟨hcell 0 _ rfl, hcell 1 _ rfl, hcell 2 _ rfl⟩
            obtain ⟨y0, y1, y2⟩ := HCE.out wr HK.out
            obtain ⟨z, hz, hf⟩ := HS.out.go
            have HN : Hid (nxHRl many lv (roles.drop (j + 1)) (hgR many lv ⟨s1, ps1, on1, ln1⟩ z) = R2) := Lib.hid (by rw [← hgRs_cons, ← HD.out]; exact hf)
            obtain ⟨ro, hro⟩ : ∃ r, Hid (hgR many lv ⟨s1, ps1, on1, ln1⟩ z = r) := ⟨_, Lib.hid rfl⟩
            rw [hro.out] at HN
            obtain ⟨m, hmm⟩ : ∃ m, wi (z + (n3 : Int)) = m := ⟨_, rfl⟩
            have w3 : IntKind.i64.wrap (z + (n3 : Int)) = m := hmm
            obtain ⟨k, hk⟩ : ∃ k, X.size = k := ⟨_, rfl⟩
            have HRO : Hid ((if many < m ∨ 1000 < k ∨ longF ps1 = true then none else hgBs many lv on1 m) = ro) := Lib.hid (by
              rw [← hro.out]
              unfold hgR
              dsimp only
              rw [hn3.out, hmm, ← hk, hXs])
            have c0 := cell_of_one hz
            have f0 := free_block hz 0
            have HCM := Lib.hid (hz.set m)
            have hbq : b ≠ w.heap.size + 1 := (HSU.out wr HK.out b hSb).2
            have hbq2 : ¬ w.heap.size + 1 = b := fun e => hbq e.symm
            clear hrg hx hv HD hjl hf hz HS hX hXs hmm hro hr4 hSb hvl HYP2
            go_upto_region 10 with (fail)
            go_region
            obtain ⟨W2, hW2⟩ : ∃ W, Hid ((wr.setCell ⟨w.heap.size + 1, 0, none⟩ (.int .i64 m)).drew = W) := ⟨_, Lib.hid rfl⟩
            have HC2 : Hid (Cn W2 (w.heap.size + 1) m) := Lib.hid (by rw [← hW2.out]; exact HCM.out)
            have HK2 : Hid (Kp (w.heap.size + 1) W1 W2) := Lib.hid (by rw [← hW2.out]; exact (HK.out.set (p := ⟨w.heap.size + 1, 0, none⟩) rfl (.int .i64 m)).drew)
            rw [hW2.out]
            clear hW2 HCM HK y0 y1 y2 p0 p1 c0 f0
            obtain ⟨p0, p1⟩ := HPB.out W2 HK2.out
            obtain ⟨y0, y1, y2⟩ := HCE.out W2 HK2.out
            have c0 := cell_of_one HC2.out
            have HLG := Lib.hid (long_any ps1 W2 S (.slice A3 n3 c3) (Rw.keep (fun p hp => HKC.out W2 HK2.out p hp) (fun _ h => h) _ _ (by rw [← hn3.out]; have := HYP.out; rw [List.length_map] at this; exact this)))
            obtain ⟨lg, hlg⟩ : ∃ lg, Hid (longF ps1 = lg) := ⟨_, Lib.hid rfl⟩
            rw [hlg.out] at HRO HLG
            go_upto_region 11 with (fail)
            go_cut [8] from 38 to 106 (fun s wx => s = .bool (decide (many < m ∨ 1000 < k ∨ lg = true)) ∧ wx = W2)
            case first =>
              by_cases hA : many < m
              · have t1 : decide (many < m) = true := decide_eq_true hA
                go_wp2_with fail
                go_meet
                exact ⟨by rw [decide_eq_true (.inl hA)], rfl⟩
              · have t1 : decide (many < m) = false := decide_eq_false hA
                by_cases hL : 1000 < k
                · have t3 : (1000 : Int) < (k : Int) := by omega
                  have t4 : decide ((1000 : Int) < (k : Int)) = true := decide_eq_true t3
                  go_wp2_with fail
                  go_meet
                  exact ⟨by rw [decide_eq_true (.inr (.inl hL))], rfl⟩
                · have t3 : ¬ (1000 : Int) < (k : Int) := by omega
                  have t4 : decide ((1000 : Int) < (k : Int)) = false := decide_eq_false t3
                  have HV : Hid (lg = decide (many < m ∨ 1000 < k ∨ lg = true)) := Lib.hid (by
                    cases lg with
                    | true => rw [decide_eq_true (.inr (.inr rfl))]
                    | false => rw [decide_eq_false (by rintro (h | h | h); exact hA h; exact hL h; cases h)])
                  go_wp2_with (first
                    | (go_at_call 60
                       refine HLG.out.mono ?_
                       rintro e w1 ⟨rfl, rfl⟩)
                    | (fail))
                  go_meet
                  exact ⟨congrArg Value.bool HV.out, rfl⟩
            case rest =>
              obtain ⟨rfl, rfl⟩ := hcut
              obtain ⟨bx, hbx⟩ : ∃ bx, Hid (decide (many < m ∨ 1000 < k ∨ lg = true) = bx) := ⟨_, Lib.hid rfl⟩
              have HS4 : Hid (HgSt (w.heap.size + 1) (hgBs many lv on1) ro bx wc) := Lib.hid ⟨m, HC2.out, by
                have h1 := hbx.out
                have h2 := HRO.out
                by_cases hh : many < m ∨ 1000 < k ∨ lg = true
                · rw [decide_eq_true hh] at h1
                  rw [if_pos hh] at h2
                  exact .inl ⟨h1.symm, h2.symm⟩
                · rw [decide_eq_false hh] at h1
                  rw [if_neg hh] at h2
                  exact .inr ⟨h1.symm, h2⟩⟩
              rw [hbx.out]
              clear HRO HLG hlg hbx hk w3
              clear y0 y1 y2 p0 p1 c0
              go_wp2_with fail
              go_loopg [8, 11] n4 (fun g2 s i wr => ∃ (j2 : Nat) (bd : Bool), j2 + g2 = n4 ∧ i = .int .i64 (j2 : Int) ∧ s = .bool bd ∧ Hid (HgSt (w.heap.size + 1) (hgBs many lv (on1.drop j2)) ro bd wr) ∧ Hid (Kp (w.heap.size + 1) W1 wr))
              case atStart => exact ⟨0, bx, by omega, rfl, rfl, HS4, HK2⟩
              case round =>
                clear HS4 HK2
                obtain ⟨j2, bd, hj2, rfl, rfl, HS, HK⟩ := hrel
                obtain ⟨p0, p1⟩ := HPB.out wr HK.out
                obtain ⟨y0, y1, y2⟩ := HCE.out wr HK.out
                cases gk with
                | zero =>
                  have h3 : ¬ (j2 : Int) < (n4 : Int) := by omega
                  have HE : Hid (HgSt (w.heap.size + 1) (hgRs many lv (roles.drop (j + 1))) R2 bd wr) := Lib.hid (HS.out.stop (fun h => by rw [← HN.out, h]; rfl) (fun z h => by rw [← HN.out, ← h, show on1.drop j2 = [] from List.drop_eq_nil_of_le (by rw [hn4.out]; omega), hgBs]; rfl))
                  clear HS
                  go_wp2_with fail
                  go_roundg g
                  case measure => omega
                  case rel => exact ⟨j + 1, bd, by omega, by go_num, rfl, HE, HK⟩
                | succ g2 =>
                  have h3 : (j2 : Int) < (n4 : Int) := by omega
                  have h4 : j2 < n4 := by omega
                  cases bd with
                  | true =>
                    have HE : Hid (HgSt (w.heap.size + 1) (hgRs many lv (roles.drop (j + 1))) R2 true wr) := Lib.hid (HS.out.end (fun h => by rw [← HN.out, h]; rfl))
                    clear HS
                    go_wp2_with fail
                    go_roundg g
                    case measure => omega
                    case rel => exact ⟨j + 1, true, by omega, by go_num, rfl, HE, HK⟩
                  | false =>
                    have hjl : j2 < on1.length := by rw [hn4.out]; exact h4
                    obtain ⟨b2, o2, vs, rfl, hSb, hvl, hrg, hx⟩ := HON.out.at j2 (Bd.nd on1[j2]) (by simp [hjl])
                    have HD := Lib.hid (List.drop_eq_getElem_cons hjl)
                    generalize on1[j2] = x at *
                    have HX := Lib.hid hx
                    obtain ⟨s5, ps5, st5, ln5⟩ := x
                    obtain ⟨y, y', hv, -, -, hy, hy1⟩ := (hd_rw s5 ps5 6 _ ln5 _).1 hx
                    obtain ⟨A5, n5, c5, rfl⟩ := hy.rowf
                    obtain ⟨A6, n6, c6, rfl⟩ := hy1.rowf
                    have hv2 : vs = [.string (strOf s5), .slice A5 n5 c5, .slice A6 n6 c6, .int .i64 ln5] := by
                      injection hv with hv
                      have := congrArg Array.toList hv
                      simpa using this
                    subst hv2
                    have hcell : ∀ i u, ([.string (strOf s5), .slice A5 n5 c5, .slice A6 n6 c6, .int .i64 ln5] : List Value)[i]? = some u → wr.cell? ⟨b2, o2 + j2 * 4 + i, none⟩ = some u := fun i u hu => by
                      have := hrg i u hu
                      rw [Nat.zero_add] at this
                      exact (HKC.out wr HK.out ⟨b2, o2 + j2 * 4 + i, none⟩ hSb).trans this
                    have x0 : wr.cell? ⟨b2, o2 + j2 * 4, none⟩ = some (.string (strOf s5)) := hcell 0 _ rfl
                    have x1 := hcell 1 _ rfl
                    have x2 := hcell 2 _ rfl
                    have x3 := hcell 3 _ rfl
                    obtain ⟨z2, hz, hf⟩ := HS.out.go
                    have HB := Lib.hid (HBD.out ⟨s5, ps5, st5, ln5⟩ z2 wr _ HK.out HX.out hz)
                    have HN2 : Hid (nxHB many lv (on1.drop (j2 + 1)) (hgB many lv ⟨s5, ps5, st5, ln5⟩ z2) = ro) := Lib.hid (by rw [← hgBs_cons, ← HD.out]; exact hf)
                    clear hrg hx hv hy hy1 HD hjl hcell hf hz HS HX
                    generalize hgB many lv ⟨s5, ps5, st5, ln5⟩ z2 = rb at *
                    go_wp2_with (first
                      | (go_at_call 59
                         refine HB.out.mono ?_
                         rintro e w3 ⟨rfl, h3, hk3⟩
                         have HS3 := Lib.hid (HgSt.next (f0 := nxHB many lv (on1.drop (j2 + 1))) rfl (fun _ => rfl) ⟨rfl, h3, hk3⟩ HN2.out)
                         have HK3 := Lib.hid (HK.out.trans hk3)
                         clear h3 hk3)
                      | (fail))
                    go_roundg g2
                    case measure => omega
                    case rel => exact ⟨j2 + 1, rb.isNone, by omega, by go_num, rfl, HS3, HK3⟩
    case rest =>
      obtain ⟨bd2, rfl, HS3, HK3⟩ := hcut
      have HBW : Hid (Below w.heap.size w wc) := Lib.hid ((HK1.out.trans HK3.out).below (Nat.le_succ _) (Nat.le_refl _))
      cases bd2 with
      | true =>
        have HE : Hid (none = r) := Lib.hid (by rw [← HFI.out, HS3.out.none]; rfl)
        go_wp2_with fail
        go_ret
        exact ⟨by rw [← HE.out]; rfl, HBW.out⟩
      | false =>
        obtain ⟨z, hz, hf⟩ := HS3.out.go
        have c0 := cell_of_one hz
        by_cases hA : many < z
        · have t1 : decide (many < z) = true := decide_eq_true hA
          have HE : Hid (none = r) := Lib.hid (by rw [← HFI.out, ← hf]; unfold finH; dsimp only; rw [if_pos hA])
          clear hf hz
          go_wp2_with fail
          go_ret
          exact ⟨by rw [← HE.out]; rfl, HBW.out⟩
        · have t1 : decide (many < z) = false := decide_eq_false hA
          have HE : Hid (some z = r) := Lib.hid (by rw [← HFI.out, ← hf]; unfold finH; dsimp only; rw [if_neg hA])
          clear hf hz
          go_wp2_with fail
          go_ret
          exact ⟨by rw [← HE.out]; rfl, HBW.out⟩
end Go.Proofs.YteacmanbiamhoaaGreatDoor
