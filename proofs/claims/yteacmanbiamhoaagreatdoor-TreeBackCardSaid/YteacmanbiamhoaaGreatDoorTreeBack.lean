/- droverlaw09.TreeBack returns true whatever its arguments: what is shown of a program is parsed to the same, but for lines; what is parsed is right, is shown, and parsed again, the same. For every input, without conditions. -/
import Derived.Test.YteacmanbiamhoaaGreatDoorRow
import Derived.Test.YteacmanbiamhoaaGreatDoorZfb
import Derived.Test.YteacmanbiamhoaaGreatDoorDoor09
import Derived.Test.YteacmanbiamhoaaGreatDoorCards
import Derived.SevenTiedAt
import Derived.Test.YteacmanbiamhoaaGreatDoorZq
import Derived.Test.YteacmanbiamhoaaGreatDoorZy
import Derived.Test.YteacmanbiamhoaaGreatDoorZw
import Derived.Test.YteacmanbiamhoaaGreatDoorZd
import Derived.Deep.Cut
import Derived.Deep.CutRange
namespace Go.Proofs.YteacmanbiamhoaaGreatDoor.treeBack
open Go.ChangeShapes Go.WideShapes Go.ChangeAt Go.RowKit
set_option linter.unusedVariables false

theorem b8_ex {X : World} {S : Nat → Prop} : ∀ (N : Nat) (x : Ex) (v : Value), SizeOf.sizeOf x < N → Rd X S x.nd v → B8 x
  | 0, x, v, h, _ => absurd h (by omega)
  | N + 1, .mk k s m l, v, h, hr => by
    obtain ⟨y, -, h8, -, hy⟩ := (Ex.rd k s m l v).1 hr
    rw [B8]
    refine ⟨h8, B8s.of fun x hx => ?_⟩
    obtain ⟨j, hj, rfl⟩ := List.mem_iff_getElem.1 hx
    rw [Rd] at hy
    obtain ⟨A, c, -, -, -, hrs⟩ := hy
    obtain ⟨b, o, vs, -, -, -, -, h1⟩ := hrs.at j (Ex.nd l[j]) (by simp [hj])
    have := List.sizeOf_lt_of_mem hx
    exact b8_ex N _ _ (by simp at h; omega) h1
theorem b8_row {X : World} {S : Nat → Prop} {l : List Ex} {v : Value} (h : Rd X S (.row 4 (l.map Ex.nd)) v) : B8s l := B8s.of fun x hx => by
  obtain ⟨j, hj, rfl⟩ := List.mem_iff_getElem.1 hx
  rw [Rd] at h
  obtain ⟨A, c, -, -, -, hrs⟩ := h
  obtain ⟨b, o, vs, -, -, -, -, h1⟩ := hrs.at j (Ex.nd l[j]) (by simp [hj])
  exact b8_ex _ _ _ (Nat.lt_succ_self _) h1
theorem b8_sm {X : World} {S : Nat → Prop} : ∀ (N : Nat) (x : Sm) (v : Value), SizeOf.sizeOf x < N → Rd X S x.nd v → B8S x
  | 0, x, v, h, _ => absurd h (by omega)
  | N + 1, .mk k s xs bd el ln, v, h, hr => by
    obtain ⟨y, z, u, -, -, -, h1, h2, h3⟩ := (Sm.rd k s xs bd el ln v).1 hr
    rw [B8S]
    refine ⟨b8_row h1, B8Ss.of fun x hx => ?_, B8Ss.of fun x hx => ?_⟩
    · obtain ⟨j, hj, rfl⟩ := List.mem_iff_getElem.1 hx
      rw [Rd] at h2
      obtain ⟨A, c, -, -, -, hrs⟩ := h2
      obtain ⟨b, o, vs, -, -, -, -, h1⟩ := hrs.at j (Sm.nd bd[j]) (by simp [hj])
      have := List.sizeOf_lt_of_mem hx
      exact b8_sm N _ _ (by simp at h; omega) h1
    · obtain ⟨j, hj, rfl⟩ := List.mem_iff_getElem.1 hx
      rw [Rd] at h3
      obtain ⟨A, c, -, -, -, hrs⟩ := h3
      obtain ⟨b, o, vs, -, -, -, -, h1⟩ := hrs.at j (Sm.nd el[j]) (by simp [hj])
      have := List.sizeOf_lt_of_mem hx
      exact b8_sm N _ _ (by simp at h; omega) h1
theorem b8_body {X : World} {S : Nat → Prop} {b : Bd} {v : Value} (h : Rd X S b.nd v) : B8Ss b.st := by
  obtain ⟨y, z, -, -, -, -, hz⟩ := (hd_rd b.name b.ps 6 (b.st.map Sm.nd) b.ln v).1 h
  refine B8Ss.of fun x hx => ?_
  obtain ⟨j, hj, rfl⟩ := List.mem_iff_getElem.1 hx
  rw [Rd] at hz
  obtain ⟨A, c, -, -, -, hrs⟩ := hz
  obtain ⟨b', o, vs, -, -, -, -, h1⟩ := hrs.at j (Sm.nd b.st[j]) (by simp [hj])
  exact b8_sm _ _ _ (Nat.lt_succ_self _) h1
theorem b8_bodies {X : World} {S : Nat → Prop} {l : List Bd} {v : Value} (h : Rd X S (.row 4 (l.map Bd.nd)) v) : ∀ b ∈ l, B8Ss b.st := fun x hx => by
  obtain ⟨j, hj, rfl⟩ := List.mem_iff_getElem.1 hx
  rw [Rd] at h
  obtain ⟨A, c, -, -, -, hrs⟩ := h
  obtain ⟨b, o, vs, -, -, -, -, h1⟩ := hrs.at j (Bd.nd l[j]) (by simp [hj])
  exact b8_body h1
theorem b8_prog {X : World} {S : Nat → Prop} {g : Pg} {v : Value} (h : Rd X S g.nd v) : B8P g := by
  obtain ⟨y, z, -, hy, hz⟩ := (Pg.rd g v).1 h
  refine ⟨b8_bodies hy, fun r hr => ?_⟩
  obtain ⟨j, hj, rfl⟩ := List.mem_iff_getElem.1 hr
  rw [Rd] at hz
  obtain ⟨A, c, -, -, -, hrs⟩ := hz
  obtain ⟨b, o, vs, -, -, -, -, h1⟩ := hrs.at j (Rl.nd g.roles[j]) (by simp [hj])
  obtain ⟨y2, z2, -, -, -, -, hz2⟩ := (hd_rd g.roles[j].name g.roles[j].ps 4 (g.roles[j].on.map Bd.nd) g.roles[j].ln _).1 h1
  exact b8_bodies hz2
/-- What is shown is parsed to the same. -/
theorem back_of {g : Pg} {T : List Nat} (h : showB g = (T, 0)) (hn : NbP g) (hb : B8P g) : ∃ g', pgB false g g' = true ∧ parseF T 2001 = some (g', 0, 0) := by
  have h1 := showB_small h
  exact show_back ((showB_eq (g := g) (by omega)).symm.trans h) hn hb (Nat.le_refl _)
theorem right_small {g : Pg} (h : rightP g = true) : g.fns.length + g.roles.length ≤ 60 := by
  unfold rightP at h
  split at h
  · cases h
  · omega
theorem show_kinds {g : Pg} {T : List Nat} {e : Nat} (h : showF g = (T, e)) (hr : rightP g = true) : e = 0 ∨ e = 3 := by
  unfold showF at h
  rw [hr] at h
  by_cases hl : (pgS g).long = true
  · rw [if_pos rfl, if_pos hl] at h
    cases h
    exact .inr rfl
  · rw [if_pos rfl, if_neg hl] at h
    cases h
    exact .inl rfl
theorem back_len {g : Pg} {T : List Nat} (h : showB g = (T, 0)) : T.length ≤ 32768 := by
  have h1 := showB_small h
  exact (showF_text ((showB_eq (g := g) (by omega)).symm.trans h)).2.2

set_option maxRecDepth 100000 in
set_option maxHeartbeats 8000000 in
theorem walk (w : World) (htab : W9 w) (v0 : Value) (S1 : ByteArray) (w0 : ∃ g, Rw w (fun b => b < w.heap.size) (Pg.nd g) v0 ∧ NbP g ∧ B8P g) (w1 : S1.size ≤ maxLen) :
    Calls Tryz.prog 4 #[v0, .string S1] w fun e w' => e = .returned (.bool true) ∧ Below w.heap.size w w' := by
  obtain ⟨g, hr, hnb, hb8⟩ := w0
  obtain ⟨T, rfl, h8, hTs⟩ := bytes_open S1
  obtain ⟨n, hn⟩ : ∃ n, T.length = n := ⟨_, rfl⟩
  have hsz : (strOf T).size = n := by rw [← hTs]; exact hn
  have HAW := Lib.hid (fun W (hb : Below w.heap.size w W) => awake09_any W (htab.below hb))
  obtain ⟨y, z, rfl, hy, hz⟩ := (Pg.rw g v0).1 hr
  obtain ⟨AF, nF, cF, rfl⟩ := hy.rowf
  obtain ⟨AR, nR, cR, rfl⟩ := hz.rowf
  obtain ⟨Z, hZ⟩ : ∃ Z, Hid (strOf T = Z) := ⟨_, Lib.hid rfl⟩
  rw [hZ.out] at hsz ⊢
  have HTB := Lib.hid htab
  have HB0 := Lib.hid ((Below.refl w.heap.size w).alloc (Nat.le_refl _) (.cells #[.slice AF nF cF, .slice AR nR cR] 26))
  have HQ0 := Lib.hid (heap_new w (.cells #[.slice AF nF cF, .slice AR nR cR] 26))
  have HRW := Lib.hid (fun W (hb : Below w.heap.size w W) => Rw.keep (S' := fun b => b < w.heap.size) (fun p hp => hb.cell hp) (fun _ h => h) _ _ hr)
  have HHU := Lib.hid (fun W (hb : Below w.heap.size w W) => huge_any 3000 (by decide) (by decide) 100 (by decide) g W (fun b => b < w.heap.size) _ (fun b h => Nat.lt_of_lt_of_le h hb.size) (HRW.out W hb))
  have HNB := Lib.hid hnb
  have HB8 := Lib.hid hb8
  have H8 := Lib.hid h8
  have HN := Lib.hid hn
  have HBX := Lib.hid (fun W (h : Below (w.heap.size + 1) (w.alloc (.cells #[.slice AF nF cF, .slice AR nR cR] 26)) W) => (show W.heap[w.heap.size]? = _ from (h.block _ (Nat.lt_succ_self _)).trans HQ0.out))
  obtain ⟨W1, hW1⟩ : ∃ W, Hid (w.alloc (.cells #[.slice AF nF cF, .slice AR nR cR] 26) = W) := ⟨_, Lib.hid rfl⟩
  rw [hW1.out] at HB0 HQ0 HBX
  have hs1 : w.heap.size < W1.heap.size := lt_heap HQ0.out
  obtain ⟨⟨q0, q1⟩, -⟩ := bx2 HQ0.out
  have HH1 := Lib.hid (HHU.out W1 HB0.out)
  clear w1 hr hnb hb8 h8 hTs hn hy hz htab
  go_enter Tryz.func4, Tryz.ntmps4
  go_upto_region 1 with (fail)
  rw [hW1.out]
  cases hp : (hgP 3000 100 g).isNone with
  | true =>
    rw [hp] at HH1
    clear hp
    go_wp2_with (first
      | (go_at_call 19
         refine HH1.out.mono ?_
         rintro e w2 ⟨rfl, hb2⟩
         have HB2 := Lib.hid (HB0.out.trans (hb2.mono HB0.out.size))
         clear hb2)
      | (go_at_call 18
         refine (HAW.out _ HB2.out).mono ?_
         rintro e w3 ⟨rfl, hb3⟩
         have HB3 := Lib.hid (HB2.out.trans (hb3.mono HB2.out.size))
         clear hb3)
      | (fail))
    go_ret
    exact ⟨rfl, HB3.out⟩
  | false =>
    rw [hp] at HH1
    by_cases hL : 3000 < n
    · have t1 : (3000 : Int) < (n : Int) := by omega
      have t2 : decide ((3000 : Int) < (n : Int)) = true := decide_eq_true t1
      clear hp
      go_wp2_with (first
        | (go_at_call 19
           refine HH1.out.mono ?_
           rintro e w2 ⟨rfl, hb2⟩
           have HB2 := Lib.hid (HB0.out.trans (hb2.mono HB0.out.size))
           clear hb2)
        | (go_at_call 18
           refine (HAW.out _ HB2.out).mono ?_
           rintro e w3 ⟨rfl, hb3⟩
           have HB3 := Lib.hid (HB2.out.trans (hb3.mono HB2.out.size))
           clear hb3)
        | (fail))
      go_ret
      exact ⟨rfl, HB3.out⟩
    · have t1 : ¬ (3000 : Int) < (n : Int) := by omega
      have t2 : decide ((3000 : Int) < (n : Int)) = false := decide_eq_false t1
      have HSN : Hid (ShN g.nd) := Lib.hid (by
        cases hq : hgP 3000 100 g with
        | none => rw [hq] at hp; cases hp
        | some n => exact hgP_ok hq)
      clear hp
      have HRD := Lib.hid (fun W (hb : Below w.heap.size w W) => Rw.rd _ _ HSN.out (HRW.out W hb))
      have HSH := Lib.hid (fun W (hb : Below w.heap.size w W) => show_w W (HTB.out.below hb).wt (fun w' h => fmt_any (HTB.out.below hb).tab w' h) g HNB.out (fun b => b < w.heap.size) (fun b h => Nat.lt_of_lt_of_le h hb.size) _ (HRD.out W hb))
      have HSM := Lib.hid (fun (g2 : Pg) (h : pgB false g g2 = true) W (hb : Below w.heap.size w W) (S' : Nat → Prop) (v' : Value) (hS' : ∀ b, S' b → b < W.heap.size) (h' : Rd W S' g2.nd v') => sameprogram_any false g g2 h W (fun b => b < w.heap.size) S' _ v' (fun b h => Nat.lt_of_lt_of_le h hb.size) hS' (HRD.out W hb) h')
      obtain ⟨T2, e2, hT2⟩ : ∃ T2 e2, showB g = (T2, e2) := ⟨_, _, rfl⟩
      have HT2 := Lib.hid hT2
      rw [hT2] at HSH
      obtain ⟨Z2, hZ2⟩ : ∃ Z, Hid (strOf T2 = Z) := ⟨_, Lib.hid rfl⟩
      dsimp only at HSH
      rw [hZ2.out] at HSH
      clear hT2
      go_upto_if 29 with (first
        | (go_at_call 19
           refine HH1.out.mono ?_
           rintro e w2 ⟨rfl, hb2⟩
           have HB2 := Lib.hid (HB0.out.trans (hb2.mono HB0.out.size))
           have HQ2 := Lib.hid ((hb2.block _ hs1).trans HQ0.out)
           obtain ⟨⟨r0, r1⟩, -⟩ := bx2 HQ2.out
           have hs2 : w.heap.size < w2.heap.size := lt_heap HQ2.out
           clear hb2)
        | (go_at_call 20
           refine (HSH.out _ HB2.out).mono ?_
           rintro e w3 ⟨rfl, hb3, h38⟩
           have H38 := Lib.hid h38
           have HB3 := Lib.hid (HB2.out.trans (hb3.mono HB2.out.size))
           have HQ3 := Lib.hid ((hb3.block _ hs2).trans HQ2.out)
           have hs3 : w.heap.size < w3.heap.size := lt_heap HQ3.out
           clear hb3 h38)
        | (fail))
      go_cut [] from 5 to 43 (fun wx => Hid (Below w.heap.size w wx))
      case first =>
        by_cases he : e2 = 0
        · subst he
          obtain ⟨g2, hg2, hp2⟩ := back_of HT2.out HNB.out HB8.out
          have hl2 := back_len HT2.out
          have HP2 := Lib.hid (parse_any T2 H38.out (by omega) w3 (HTB.out.below HB3.out).wt (right_any _ (HTB.out.below HB3.out).wt) 2001 (by omega) g2 0 0 hp2)
          unfold OutP at HP2
          rw [hZ2.out] at HP2
          have HSA := Lib.hid (HSM.out g2 hg2)
          clear hg2 hp2 hl2 HSM HSH HH1
          go_wp2_with (first
            | (go_at_call 16
               refine HP2.out.mono ?_
               rintro e w4 ⟨v4, rfl, hr4, hb4⟩
               have HB4 := Lib.hid (HB3.out.trans (hb4.mono HB3.out.size))
               have HQ4 := Lib.hid ((hb4.block _ hs3).trans HQ3.out)
               obtain ⟨⟨u0, u1⟩, -⟩ := bx2 HQ4.out
               have hs4 : w.heap.size < w4.heap.size := lt_heap HQ4.out
               obtain ⟨y4, z4, rfl, hy4, hz4⟩ := (Pg.rd g2 v4).1 hr4
               obtain ⟨A5, n5, c5, rfl⟩ := hy4.rowf
               obtain ⟨A6, n6, c6, rfl⟩ := hz4.rowf
               have HBV : Hid (Below w.heap.size w ((w4.alloc (.cells #[.slice A5 n5 c5, .slice A6 n6 c6] 26)).alloc (.cells #[.int .i64 0, .int .i64 0] 29))) := Lib.hid (HB4.out.trans ((two w4 _ _).mono HB4.out.size))
               have HRV := Lib.hid (HSA.out _ HBV.out (Nw w3 w4) _ (fun b hb => Nat.lt_of_lt_of_le hb.2 (two w4 (.cells #[.slice A5 n5 c5, .slice A6 n6 c6] 26) (.cells #[.int .i64 0, .int .i64 0] 29)).size) (Rd.keep (fun p hp => (two w4 (.cells #[.slice A5 n5 c5, .slice A6 n6 c6] 26) (.cells #[.int .i64 0, .int .i64 0] 29)).cell hp.2) (fun _ h => h) _ _ hr4))
               clear hb4 hr4 hy4 hz4)
            | (go_at_call 21
               refine HRV.out.mono ?_
               rintro e w5 ⟨rfl, hb5⟩
               have HB5 := Lib.hid (HBV.out.trans (hb5.mono HBV.out.size))
               clear hb5)
            | (fail))
          go_meet
          exact HB5
        · have t3 : ((e2 : Int) == 0) = false := beq_eq_false_iff_ne.2 (by omega)
          go_wp2_with fail
          go_meet
          exact HB3
      case rest =>
        have HBC := hcut
        obtain ⟨g3, er, fl, hp3⟩ := parse_total T (n + 3) (by have := HN.out; omega)
        have HP3 := Lib.hid (parse_any T H8.out (by have := HN.out; omega) wc (HTB.out.below HBC.out).wt (right_any _ (HTB.out.below HBC.out).wt) (n + 3) (by omega) g3 er fl hp3)
        have HPF := Lib.hid (parse_form hp3)
        have HNB3 := Lib.hid (parse_nb hp3)
        unfold OutP at HP3
        rw [hZ.out] at HP3
        clear hcut hp3 HSM HSH HH1 HRD HSN HT2 HHU HRW HBX
        go_upto_region 9 with (first
          | (go_at_call 16
             refine HP3.out.mono ?_
             rintro e w4 ⟨v4, rfl, hr4, hb4⟩
             have HB4 := Lib.hid (HBC.out.trans (hb4.mono HBC.out.size))
             have HR4 := Lib.hid hr4
             obtain ⟨y4, z4, rfl, hy4, hz4⟩ := (Pg.rd g3 v4).1 hr4
             rw [Rd] at hy4 hz4
             obtain ⟨A5, c5, rfl, hc5, hm5, -⟩ := hy4
             obtain ⟨A6, c6, rfl, hc6, hm6, -⟩ := hz4
             obtain ⟨n5, hn5⟩ : ∃ m, Hid ((g3.fns.map Bd.nd).length = m) := ⟨_, Lib.hid rfl⟩
             obtain ⟨n6, hn6⟩ : ∃ m, Hid ((g3.roles.map Rl.nd).length = m) := ⟨_, Lib.hid rfl⟩
             rw [hn5.out] at hc5 ⊢
             rw [hn6.out] at hc6 ⊢
             rw [hn5.out, hn6.out] at HR4
             unfold maxLen at hm5 hm6
             clear hb4 hr4)
          | (fail))
        obtain ⟨V, hV⟩ : ∃ V, Hid ((w4.alloc (.cells #[.slice A5 n5 c5, .slice A6 n6 c6] 26)).alloc (.cells #[.int .i64 (er : Int), .int .i64 (fl : Int)] 29) = V) := ⟨_, Lib.hid rfl⟩
        have HMV : Hid (V.heap[w4.heap.size]? = some (.cells #[.slice A5 n5 c5, .slice A6 n6 c6] 26 (0, 0))) := Lib.hid (by rw [← hV.out]; exact heap_old (heap_new w4 _) _)
        have HFV : Hid (V.heap[w4.heap.size + 1]? = some (.cells #[.int .i64 (er : Int), .int .i64 (fl : Int)] 29 (0, 0))) := Lib.hid (by
          rw [← hV.out]
          have := heap_new (w4.alloc (.cells #[.slice A5 n5 c5, .slice A6 n6 c6] 26)) (.cells #[.int .i64 (er : Int), .int .i64 (fl : Int)] 29)
          simpa using this)
        have HB4V : Hid (Below w4.heap.size w4 V) := Lib.hid (by rw [← hV.out]; exact two w4 _ _)
        have HBV : Hid (Below w.heap.size w V) := Lib.hid (HB4.out.trans (HB4V.out.mono HB4.out.size))
        have HRV : Hid (Rd V (fun b => b < V.heap.size) g3.nd (.agg #[.slice A5 n5 c5, .slice A6 n6 c6])) := Lib.hid (Rd.keep (fun p hp => HB4V.out.cell hp.2) (fun b hb => Nat.lt_of_lt_of_le hb.2 HB4V.out.size) _ _ HR4.out)
        rw [hV.out]
        have hsV : w4.heap.size < V.heap.size := lt_heap HMV.out
        obtain ⟨⟨m0, m1⟩, -⟩ := bx2 HMV.out
        obtain ⟨⟨f0, f1⟩, -⟩ := bx2 HFV.out
        clear HP3 hV HR4
        by_cases he : er = 0
        · subst he
          have hrp := HPF.out.1 rfl
          have hsm := right_small hrp
          obtain ⟨T4, e4, hT4⟩ : ∃ T4 e4, showB g3 = (T4, e4) := ⟨_, _, rfl⟩
          have HT4 := Lib.hid hT4
          have hke := show_kinds ((showB_eq (g := g3) (by omega)).symm.trans hT4) hrp
          have HSH := Lib.hid (show_w V (HTB.out.below HBV.out).wt (fun w' h => fmt_any (HTB.out.below HBV.out).tab w' h) g3 HNB3.out (fun b => b < V.heap.size) (fun b h => h) _ HRV.out)
          have HRX := Lib.hid (fun W (hb : Below V.heap.size V W) => Rd.keep (S' := fun b => b < V.heap.size) (fun p hp => hb.cell hp) (fun _ h => h) _ _ HRV.out)
          have HRI := Lib.hid (fun W (hb : Below V.heap.size V W) => right_any V (HTB.out.below HBV.out).wt g3 W (fun b => b < V.heap.size) _ (by omega) hb (fun b h => Nat.lt_of_lt_of_le h hb.size) (HRX.out W hb))
          rw [hT4] at HSH
          rw [hrp] at HRI
          obtain ⟨Z4, hZ4⟩ : ∃ Z, Hid (strOf T4 = Z) := ⟨_, Lib.hid rfl⟩
          dsimp only at HSH
          rw [hZ4.out] at HSH
          have HB8 := Lib.hid (b8_prog HRV.out)
          clear hT4 hrp hsm HPF
          by_cases h4 : e4 = 0
          · subst h4
            obtain ⟨g5, hg5, hp5⟩ := back_of HT4.out HNB3.out HB8.out
            have hl5 := back_len HT4.out
            have HP5 := Lib.hid (fun W (hb : Below w.heap.size w W) (h8 : ∀ x ∈ T4, x < 256) => parse_any T4 h8 (by omega) W (HTB.out.below hb).wt (right_any _ (HTB.out.below hb).wt) 2001 (by omega) g5 0 0 hp5)
            unfold OutP at HP5
            rw [hZ4.out] at HP5
            have HSA := Lib.hid (fun W (hb : Below V.heap.size V W) (S' : Nat → Prop) (v' : Value) (hS' : ∀ b, S' b → b < W.heap.size) (h' : Rd W S' g5.nd v') => sameprogram_any false g3 g5 hg5 W (fun b => b < V.heap.size) S' _ v' (fun b h => Nat.lt_of_lt_of_le h hb.size) hS' (HRX.out W hb) h')
            clear hg5 hp5 hl5 HRX hke HRV HT4
            go_wp2_with (first
              | (go_at_call 20
                 refine HSH.out.mono ?_
                 rintro e w5 ⟨rfl, hb5, h48⟩
                 have H48 := Lib.hid h48
                 have HV5 := Lib.hid hb5
                 have HM5 := Lib.hid ((hb5.block _ hsV).trans HMV.out)
                 obtain ⟨⟨k0, k1⟩, -⟩ := bx2 HM5.out
                 clear hb5 h48)
              | (go_at_call 22
                 refine (HRI.out w5 HV5.out).mono ?_
                 rintro e w6 ⟨rfl, hb6⟩
                 have HV6 := Lib.hid (HV5.out.trans (hb6.mono HV5.out.size))
                 have HB6 := Lib.hid (HBV.out.trans (HV6.out.mono HBV.out.size))
                 have HM6 := Lib.hid ((HV6.out.block _ hsV).trans HMV.out)
                 have hs6 : w4.heap.size < w6.heap.size := lt_heap HM6.out
                 clear hb6)
              | (go_at_call 16
                 refine (HP5.out w6 HB6.out H48.out).mono ?_
                 rintro e w7 ⟨v7, rfl, hr7, hb7⟩
                 have HV7 := Lib.hid (HV6.out.trans (hb7.mono HV6.out.size))
                 have HM7 := Lib.hid ((hb7.block _ hs6).trans HM6.out)
                 obtain ⟨⟨d0, d1⟩, -⟩ := bx2 HM7.out
                 have hs7 : w4.heap.size < w7.heap.size := lt_heap HM7.out
                 obtain ⟨y7, z7, rfl, hy7, hz7⟩ := (Pg.rd g5 v7).1 hr7
                 obtain ⟨A7, n7, c7, rfl⟩ := hy7.rowf
                 obtain ⟨A8, n8, c8, rfl⟩ := hz7.rowf
                 have hbt := two w7 (.cells #[.slice A7 n7 c7, .slice A8 n8 c8] 26) (.cells #[.int .i64 0, .int .i64 0] 29)
                 have HV8 := Lib.hid (HV7.out.trans (hbt.mono HV7.out.size))
                 have HB8' := Lib.hid (HBV.out.trans (HV8.out.mono HBV.out.size))
                 have HSV := Lib.hid (HSA.out _ HV8.out (Nw w6 w7) _ (fun b hb => Nat.lt_of_lt_of_le hb.2 hbt.size) (Rd.keep (fun p hp => hbt.cell hp.2) (fun _ h => h) _ _ hr7))
                 clear hb7 hr7 hy7 hz7 hbt)
              | (go_at_call 21
                 refine HSV.out.mono ?_
                 rintro e w9 ⟨rfl, hb9⟩
                 have HB9 := Lib.hid (HB8'.out.trans (hb9.mono HB8'.out.size))
                 clear hb9)
              | (go_at_call 18
                 refine (HAW.out w9 HB9.out).mono ?_
                 rintro e w10 ⟨rfl, hb10⟩
                 have HB10 := Lib.hid (HB9.out.trans (hb10.mono HB9.out.size))
                 clear hb10)
              | (fail))
            go_ret
            exact ⟨rfl, HB10.out⟩
          · have h3 : e4 = 3 := by omega
            subst h3
            clear hke HRX HRV HT4
            go_wp2_with (first
              | (go_at_call 20
                 refine HSH.out.mono ?_
                 rintro e w5 ⟨rfl, hb5, -⟩
                 have HV5 := Lib.hid hb5
                 have HM5 := Lib.hid ((hb5.block _ hsV).trans HMV.out)
                 obtain ⟨⟨k0, k1⟩, -⟩ := bx2 HM5.out
                 clear hb5)
              | (go_at_call 22
                 refine (HRI.out w5 HV5.out).mono ?_
                 rintro e w6 ⟨rfl, hb6⟩
                 have HV6 := Lib.hid (HV5.out.trans (hb6.mono HV5.out.size))
                 have HM6 := Lib.hid ((HV6.out.block _ hsV).trans HMV.out)
                 obtain ⟨⟨l0, l1⟩, -⟩ := bx2 HM6.out
                 clear hb6)
              | (go_at_call 22
                 refine (HRI.out w6 HV6.out).mono ?_
                 rintro e w7 ⟨rfl, hb7⟩
                 have HV7 := Lib.hid (HV6.out.trans (hb7.mono HV6.out.size))
                 have HB7 := Lib.hid (HBV.out.trans (HV7.out.mono HBV.out.size))
                 clear hb7)
              | (go_at_call 18
                 refine (HAW.out w7 HB7.out).mono ?_
                 rintro e w8 ⟨rfl, hb8⟩
                 have HB8' := Lib.hid (HB7.out.trans (hb8.mono HB7.out.size))
                 clear hb8)
              | (fail))
            go_ret
            exact ⟨rfl, HB8'.out⟩
        · have t3 : ((er : Int) != 0) = true := bne_iff_ne.2 (by omega)
          obtain rfl := HPF.out.2 he
          have e5 : n5 = 0 := by rw [← hn5.out]; rfl
          have e6 : n6 = 0 := by rw [← hn6.out]; rfl
          subst e5 e6
          clear hn5 hn6
          go_wp2_with (first
            | (go_at_call 18
               refine (HAW.out _ HBV.out).mono ?_
               rintro e w5 ⟨rfl, hb5⟩
               have HB5 := Lib.hid (HBV.out.trans (hb5.mono HBV.out.size))
               clear hb5)
            | (fail))
          go_ret
          exact ⟨rfl, HB5.out⟩

set_option maxRecDepth 100000 in
set_option maxHeartbeats 8000000 in
theorem lifted (os : Os) (started : os.Started) (H : Type) (enc : TypeId × Value → H) :
    ReturnsInHanded {} Tryz.checked os 4 .any (fun w args => (Rows.treeBackSpec.pre enc Tryz.prog Tryz.f4 [] false w args ∧ laidMetH Tryz.prog laidW w) ∧ sizedMet enc Tryz.prog Tryz.f4 (OpenSpec.ofChange Rows.treeBackSpec) false w args) (Rows.treeBackSpec.post enc Tryz.prog Tryz.f4 false true false false) := by
  refine returnsInHanded_of_change_and (C := Tryz.checked) (X := fun w _ => laidMetH Tryz.prog laidW w) (fun _ _ _ hh h => h.of_heap hh) knob_own started (by as_aux_lemma => kernel_rfl) Tryz.func4
    (ChangeSpec.witness_shaped (enc := enc) (C := Tryz.checked) (os := os) (X := fun w _ => laidMetH Tryz.prog laidW w) false (World.doorLaid Tryz.prog 400 os) #[.agg #[.slice none 0 0, .slice none 0 0], .string ⟨#[]⟩] 8 rfl (World.shaped_of_RefB (by as_aux_lemma => kernel_rfl) (by as_aux_lemma => kernel_rfl)) (by as_aux_lemma => kernel_rfl) (by as_aux_lemma => kernel_rfl) (by as_aux_lemma => kernel_rfl) (doorW_met os _)) ?_
  intro W base args ds gs before hval0 hW _ _ hL _
  have hval : ∀ (j : Nat) t v, Tryz.f4.params[j]? = some t → args[j]? = some v → Value.okWide Tryz.prog W .any base t v := hval0
  have hW' := hW
  obtain ⟨p, q, hA0, hV, rfl, hfz, hnd⟩ := hW
  have hA : DataW.TrodAll enc Tryz.prog W 0 (fun _ => true) true Tryz.f4.params.toList args.toList ds p := hA0
  rw [Tryz.params4] at hA hval
  obtain ⟨v0, vs0, d0, ds0, p0, q0, hargs, rfl, rfl, h0, r0⟩ := trodAll_cons hA
  obtain ⟨v1, vs1, d1, ds1, p1, q1, rfl, rfl, rfl, h1, r1⟩ := trodAll_cons r0
  obtain ⟨rfl, rfl, rfl⟩ := trodAll_nil r1
  obtain rfl : args = #[v0, v1] := by cases args; simp_all
  obtain ⟨rfl, rfl⟩ := trodVars_none hV
  have k0 := h0
  have lt0 : ∀ x ∈ p0, x.block < W.heap.size := by obtain ⟨m, hm⟩ := k0; exact DataW.trod_lt m _ _ _ hm
  have w0 := prog_open (hval 0 26 v0 rfl rfl) h0
  have k1 := h1
  have lt1 : ∀ x ∈ p1, x.block < W.heap.size := by obtain ⟨m, hm⟩ := k1; exact DataW.trod_lt m _ _ _ hm
  obtain ⟨S1, rfl, _, _, w1⟩ := Go.ChangeMaps.open_string Tryz.underlying9 (hval 1 9 v1 rfl rfl) h1
  clear hA0 hval0
  refine (walk W (w9_laid hL) v0 S1 w0 w1).mono fun e W' ⟨he, bel⟩ => ?_
  subst he
  exact ⟨_, rfl, _, _, _, [], _, [], hW', trodAll_mk1 (shut_bool Tryz.underlying4 _), (trodAll_cons_mk (Below.trod laid_out (by as_aux_lemma => kernel_rfl) (of_decide_eq_true (by as_aux_lemma => kernel_rfl)) k0 bel lt0) (trodAll_cons_mk (Below.trod laid_out (by as_aux_lemma => kernel_rfl) (of_decide_eq_true (by as_aux_lemma => kernel_rfl)) k1 bel lt1) (trodAll_mk0))), rfl, bel.frame _, fun h => by cases h⟩

set_option maxHeartbeats 8000000 in
theorem closed : joinedFacts Tryz.pinned.checked.prog 4 Tryz.f4 Rows.treeBackSpec Rows.treeBackRow = true := by
  unfold joinedFacts
  simp only [Bool.and_eq_true]
  repeat' apply And.intro
  all_goals (as_aux_lemma => kernel_rfl)

set_option maxHeartbeats 8000000 in
theorem over : Rows.treeBackRow.holds Tryz.pinned (OpenSpec.ofChange Rows.treeBackSpec) :=
  OpenClaim.holds_of_wide 4 Tryz.f4 rfl rfl rfl rfl rfl rfl rfl ⟨rfl, rfl, rfl, rfl, rfl⟩ rfl rfl rfl rfl rfl (by as_aux_lemma => kernel_rfl) Tryz.func4 closed
    (of_decide_eq_true (by as_aux_lemma => kernel_rfl)) (by unfold Func.isWrapper; first | (rw [if_pos (by decide +kernel)]; kernel_rfl) | (rw [if_neg (by decide +kernel)]; exact ⟨rfl, rfl⟩))
    (fun os started H enc _ => lifted os started H enc)

set_option maxHeartbeats 8000000 in
theorem proved : Rows.TreeBackCardSaid :=
  Claim7.holds_tied_plain_at .later [] [.data, .data, .data, .sentinel, .sentinel, .data] true Rows.treeBackCard.stood.harness Rows.treeBackCard.stood.looks
    over (fun _ h => by cases h) (by as_aux_lemma => kernel_rfl) (fun _ h => by cases h) treeBack_row_tie rfl ⟨rfl, rfl⟩ (by as_aux_lemma => kernel_rfl) rfl
    (fun f fn hf hfn => by
      obtain rfl : f = 4 := Option.some.inj ((show Tryz.prog.funcNamed "drover/droverlaw09.TreeBack" = some 4 by as_aux_lemma => kernel_rfl).symm.trans hf) |>.symm
      obtain rfl : fn = Tryz.f4 := (Option.some.inj (Tryz.func4.symm.trans hfn)).symm
      exact ⟨by as_aux_lemma => kernel_rfl, fun j t ht => by
        have hall : (Tryz.f4.params.toList.all fun u => !Tryz.prog.wantsStandIn u) = true := by as_aux_lemma => kernel_rfl
        have hm : t ∈ Tryz.f4.params.toList := Array.mem_toList_iff.2 (Array.mem_of_getElem? ht)
        exact (show Tryz.prog.wantsStandIn t = false by simpa using List.all_eq_true.1 hall t hm)⟩)
    (by as_aux_lemma => kernel_rfl)
end Go.Proofs.YteacmanbiamhoaaGreatDoor.treeBack
