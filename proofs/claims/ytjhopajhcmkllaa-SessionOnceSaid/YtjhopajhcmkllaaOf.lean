/- droverlaw07.end.finish: the walk. -/
import Derived.Test.YtjhopajhcmkllaaOe
namespace Go.Proofs.Ytjhopajhcmkllaa
open Go.RowKit
set_option linter.unusedVariables false

theorem step_bapps {w : World} {base base' : Nat} {v : Value} {ll la : List (List Nat)} {ops : Array Oper} {o : Oper} {a : Act} {K : Act → World → Prop} {Q : Exit → Act → World → Prop} {E : Prop} (hgd : o.guard = none) (s x : Operand)
    (ho : o.op = .call { callee := .builtin .append, args := #[s, x], argTypes := #[48, 48] })
    (hs : a.eval s = v) (hown : RB w base v ll) {A : Option Addr} {m c : Nat} (hx : a.eval x = .slice A m c) (hsrc : RB w base' (.slice A m c) la) (hm : la.length = m) (hn : ll.length ≤ 100000) (hn' : m ≤ 100000) (hbase : base ≤ w.heap.size)
    (h : ∀ v' w', RB w' base v' (ll ++ la) → w.grownBy w' v.ownBlock → (v'.ownBlock = v.ownBlock ∨ v'.ownBlock = some w.heap.size) → K (a.put o.dst v') w') :
    if Region.wanted o (yielded ops a.tmps) = true then Oper.wp Try.prog o a w K Q else E := by
  have hw : Region.wanted o (yielded ops a.tmps) = true := by simp [Region.wanted, hgd]
  rw [if_pos hw]
  obtain ⟨i0, hi0, hz0, hz1, hz2⟩ := info_parts bl_info
  have hown' := hown
  have hsrc' := hsrc
  obtain ⟨vs, hrow, hcs, h1⟩ := hown
  obtain ⟨us, hrow2, hcs2, h2⟩ := hsrc
  have hlv : vs.length = ll.length := by have := hrow.1; simpa using this
  have hlu : us.length = la.length := by have := hrow2.1; simpa using this
  subst hm
  refine wp_append_at w s x 48 ho base 25 i0 _ 1 24 Try.underlying48 hi0 hz0 hz1 hz2 rfl (by omega) v ll.length vs hs hrow _ A la.length c us hx (At.of_own hrow2)
    (by omega) h2 (by unfold maxLen; omega) (by omega) hbase ?_
  intro v' w' k1 k2 k3
  have hu : ∀ (b : Nat) (cur : Array Value) (fr : Nat × Nat), w.heap[b]? = some (.cells cur 5 fr) → w'.heap[b]? = w.heap[b]? := fun b cur fr hb => k2.block b (lt_heap hb) (fun e => hown'.ne hb (by decide) e.symm)
  refine h v' w' ⟨vs ++ us, by rw [List.length_append]; exact k1, fun i x hx => ?_, ?_⟩ k2 k3
  · by_cases hi : i < ll.length
    · rw [List.getElem?_append_left hi] at hx
      obtain ⟨A2, c2, e1, e2⟩ := hcs i x hx
      exact ⟨A2, c2, by rw [List.getElem?_append_left (by omega)]; exact e1, e2.keep k2.size (fun b hb _ => absurd hb (Nat.not_lt_zero _)) hu⟩
    · rw [List.getElem?_append_right (by omega)] at hx
      obtain ⟨A2, c2, e1, e2⟩ := hcs2 _ x hx
      exact ⟨A2, c2, by rw [List.getElem?_append_right (by omega), hlv]; exact e1, e2.keep k2.size (fun b hb _ => absurd hb (Nat.not_lt_zero _)) hu⟩
  · intro u hu
    rcases List.mem_append.1 hu with hu | hu
    · exact h1 u hu
    · exact h2 u hu
theorem RB.drew {w : World} {B : Nat} {v : Value} {ll : List (List Nat)} (h : RB w B v ll) : RB w.drew B v ll := h.keep (Nat.le_refl _) (fun _ _ => rfl) (fun _ _ _ _ => rfl)
section
variable {w w' : World} {B g o : Nat} {x y : En}
set_option maxRecDepth 100000 in
set_option maxHeartbeats 3200000 in
theorem finish_one {n : Nat} (h : Arena w B g o x y) (hE : EpOk n x.e y.e) (hS' : y.e.S.length ≤ 1000) (hB : B ≤ w.heap.size) :
    Calls Try.prog 31 #[.pointer (some ⟨g, o, none⟩)] w fun e w' => TakeP7 B g o x y x.e.fin w e w' := by
  have hpre := pre_len hE
  have HA := Lib.hid h
  obtain ⟨AD, cD, hvD, -, -⟩ := h.a.rD.slice
  obtain ⟨AA, cA, hvA, -, -⟩ := h.a.rA.slice
  obtain ⟨nD, hnD⟩ : ∃ nD, Hid (x.e.D.length = nD) := ⟨_, Lib.hid rfl⟩
  obtain ⟨nA, hnA⟩ : ∃ nA, Hid (x.e.A.length = nA) := ⟨_, Lib.hid rfl⟩
  obtain ⟨c0, -, -, c3, c4⟩ := h.cells
  rw [hvD, hnD.out] at c3
  rw [hvA, hnA.out] at c4
  rw [hnD.out, hnA.out] at hpre
  rw [hnD.out] at hvD
  rw [hnA.out] at hvA
  have HVD := Lib.hid hvD
  have HVA := Lib.hid hvA
  have HEE := Lib.hid hE
  have hacc : x.e.p.acc = nD + nA := by rw [hE.acc, hnD.out, hnA.out]
  have hdone : x.e.p.done = nD := by rw [hE.done, hnD.out]
  have HACC := Lib.hid hacc
  have HDONE := Lib.hid hdone
  clear h hvD hvA hE hacc hdone
  by_cases h0 : nA = 0
  · have hAe : x.e.A = [] := List.eq_nil_of_length_eq_zero (by rw [hnA.out]; exact h0)
    have hfin : Hid (x.e.fin = x.e) := Lib.hid (by unfold Ep.fin; rw [if_pos hAe])
    have k1 : ((nA : Int) == 0) = true := by rw [h0]; rfl
    clear hAe h0
    go_enter Try.func31, Try.ntmps31
    go_wp2_with fail
    go_ret
    exact ⟨rfl, x, hfin.out.symm, rfl, HA.out, Fr.refl _ _ _⟩
  · have hAe : x.e.A ≠ [] := fun e => h0 (by rw [← hnA.out, e]; rfl)
    have hfin : Hid (x.e.fin = ⟨{ x.e.p with done := x.e.D.length + x.e.A.length }, x.e.S, x.e.D ++ x.e.A, []⟩) := Lib.hid (by unfold Ep.fin; rw [if_neg hAe])
    have k1 : ((nA : Int) == 0) = false := beq_eq_false_iff_ne.2 (by omega)
    have hB0 : 0 < nA := by omega
    have hnD1 : x.e.D.length ≤ 100000 := by rw [hnD.out]; omega
    have hnA1 : nA ≤ 100000 := by omega
    obtain ⟨nT, hT⟩ : ∃ nT, nT = nD + nA := ⟨_, rfl⟩
    have hT1 : nD < nT := by omega
    have hT2 : nT ≤ 1000 := by omega
    have HT := Lib.hid hT
    clear hAe h0 hT
    go_enter Try.func31, Try.ntmps31
    go_wp2_with fail
    clear k1
    go_region_law
      (refine step_bapps (w := w.drew) (v := .slice AD nD cD) (ll := x.e.D) (la := x.e.A) rfl (.tmp 13) (.tmp 17) rfl rfl (by rw [← HVD.out]; exact HA.out.a.rD.drew) rfl (by rw [← HVA.out]; exact HA.out.a.rA.drew) hnA.out hnD1 hnA1 hB ?_
       intro v4 w4 hv4 hg4 hr4
       have hg4' : w.drew.grownBy w4 x.vD.ownBlock := by rw [HVD.out]; exact hg4
       have hgb := hg4'.block g HA.out.lt (fun e => by obtain ⟨C, hC, _⟩ := HA.out.X; exact HA.out.a.rD.ne hC (by decide) e.symm)
       obtain ⟨-, -, -, y3, -⟩ := HA.out.cells
       have z3 := (cell_heap (o := o + 3) hgb).trans y3
       have f3 : w4.frozen? ⟨g, o + 3, none⟩ = false := by obtain ⟨C, hC, _⟩ := HA.out.X; exact free_block (hgb.trans hC) _
       obtain ⟨A4, c4', rfl, -, -⟩ := hv4.slice
       rw [show (x.e.D ++ x.e.A).length = nT by rw [List.length_append, hnD.out, hnA.out, HT.out]] at hv4 hr4 ⊢
       have HV4 := Lib.hid hv4
       have HG4 := Lib.hid hg4'
       have HR4 := Lib.hid hr4
       clear hv4 hg4 hg4' hr4 hgb y3)
    all_goals
      have hadd := HA.out.drew.addD (v' := .slice A4 nT c4') (l := x.e.A) (w' := w4) HV4.out HG4.out (by rw [HVD.out]; exact HR4.out)
      have HA5 := Lib.hid hadd.1
      have HF5 := Lib.hid (((Fr.refl g x w).drew).trans hadd.2)
      obtain ⟨V, hV⟩ : ∃ V, V = w4.setCell ⟨g, o + 3, none⟩ (.slice A4 nT c4') := ⟨_, rfl⟩
      rw [← hV] at HA5 HF5
      clear hadd c0 c3 c4 z3 f3 HV4 HG4 HR4
      go_upto_region 4 with fail
      rw [← hV]
      clear hV
      obtain ⟨d0, -, -, d3, d4⟩ := HA5.out.cells
      have f4 := HA5.out.free (o + 4)
      have hno := HA5.out.noA
      have HA6 := Lib.hid hno.1
      have HF6 := Lib.hid (HF5.out.trans hno.2)
      obtain ⟨V2, hV2⟩ : ∃ V2, V2 = V.setCell ⟨g, o + 4, none⟩ (.slice none 0 0) := ⟨_, rfl⟩
      rw [← hV2] at HA6 HF6
      clear hno d0 d3
      go_upto_region 5 with fail
      rw [← hV2]
      clear hV2 d4 f4 HA5 HF5
      obtain ⟨d0, -, -, d3, -⟩ := HA6.out.cells
      dsimp only at d0 d3
      have HD := Lib.hid (done_any HA6.out.a.s.drew (nT : Int))
      dsimp only at HD
      have hcond : ((x.e.p.done : Nat) : Int) < (nT : Int) ∧ (nT : Int) ≤ ((x.e.p.acc : Nat) : Int) := by
        rw [HDONE.out, HACC.out, ← HT.out]
        omega
      have hset : x.e.p.setDone (nT : Int) = { x.e.p with done := nT } := by
        unfold Se.setDone
        rw [if_pos hcond]
        simp
      rw [if_pos hcond, hset] at HD
      have HST : Hid (∀ w3 : World, SeAt w3 B x.q x.r { x.e.p with done := nT } → Kr x.q x.r V2.drew w3 → ∃ x3 : En, x3.lf = x.lf ∧ x3.e = ⟨{ x.e.p with done := nT }, x.e.S, x.e.D ++ x.e.A, []⟩ ∧ x3.q = x.q ∧ x3.vD = .slice A4 nT c4' ∧ Arena w3 B g o x3 y ∧ Fr g x w w3 x3) := Lib.hid (fun w3 hs3 hk3 => by
        have a1 := HA6.out.drew.sess hs3 hk3 (.inl rfl) rfl
        have a2 := HF6.out.drew.trans (Fr.sess (p1 := { x.e.p with done := nT }) hk3 (.inl rfl))
        refine ⟨_, ?_, ?_, ?_, ?_, a1, a2⟩
        · rfl
        · rfl
        · rfl
        · rfl)
      clear hcond hset hT1
      go_region_held3 (fun w' => w'.cell? ⟨g, o, none⟩ = some (.pointer (some ⟨x.q, 0, none⟩)) ∧ w'.cell? ⟨g, o + 3, none⟩ = some (.slice A4 nT c4')) (go_keep)
        (first
          | (go_at_call 14
             refine HD.out.mono ?_
             rintro e w6 ⟨rfl, hs6, hk6⟩
             obtain ⟨x6, m0, m1, m2, m3, a6, f6⟩ := HST.out w6 hs6 hk6
             obtain ⟨i0, -, -, i3, -⟩ := a6.cells
             rw [m2] at i0
             rw [m3] at i3
             have HM1 := Lib.hid m1
             have HM0 := Lib.hid m0
             have HA7 := Lib.hid a6
             have HF7 := Lib.hid f6
             clear m0 m1 m2 m3 a6 f6 hs6 hk6)
          | (fail))
      all_goals
        clear d0 d3
        go_wp2_with fail
        go_ret
        refine ⟨rfl, x6, ?_, HM0.out, HA7.out, HF7.out⟩
        rw [HM1.out, hfin.out, hnD.out, hnA.out, ← HT.out]
end
end Go.Proofs.Ytjhopajhcmkllaa
