/- droverlaw07.end.take: the walk. -/
import Derived.Test.YtjhopajhcmkllaaOd
import Derived.Deep.RegionLaw
namespace Go.Proofs.Ytjhopajhcmkllaa
open Go.RowKit
set_option linter.unusedVariables false

theorem step_bapp {w : World} {base : Nat} {v : Value} {ll : List (List Nat)} {ops : Array Oper} {o : Oper} {a : Act} {K : Act → World → Prop} {Q : Exit → Act → World → Prop} {E : Prop} (hgd : o.guard = none) (s x : Operand)
    (ho : o.op = .call { callee := .builtin .append, args := #[s, x], argTypes := #[48, 48] })
    (hs : a.eval s = v) (hown : RB w base v ll) {B : Nat} {A A' : Option Addr} {c c' : Nat} {y : List Nat} (hx : a.eval x = .slice A 1 c)
    (hr : At w B A [.slice A' y.length c']) (hy : Bx w 0 (.slice A' y.length c') y) (hn : ll.length ≤ 100000) (hbase : base ≤ w.heap.size)
    (h : ∀ v' w', RB w' base v' (ll ++ [y]) → w.grownBy w' v.ownBlock → (v'.ownBlock = v.ownBlock ∨ v'.ownBlock = some w.heap.size) → K (a.put o.dst v') w') :
    if Region.wanted o (yielded ops a.tmps) = true then Oper.wp Try.prog o a w K Q else E := by
  have hw : Region.wanted o (yielded ops a.tmps) = true := by simp [Region.wanted, hgd]
  rw [if_pos hw]
  obtain ⟨i0, hi0, hz0, hz1, hz2⟩ := info_parts bl_info
  have hown' := hown
  obtain ⟨vs, hrow, hcs, h1⟩ := hown
  have hlv : vs.length = ll.length := by have := hrow.1; simpa using this
  refine wp_append_at w s x 48 ho base 25 i0 _ 1 24 Try.underlying48 hi0 hz0 hz1 hz2 rfl (by omega) v ll.length vs hs hrow B A 1 c [.slice A' y.length c'] hx hr
    rfl (by intro u hu; simp at hu; subst hu; rfl) (by unfold maxLen; omega) (by omega) hbase ?_
  intro v' w' k1 k2 k3
  refine h v' w' ⟨vs ++ [.slice A' y.length c'], by rw [List.length_append]; exact k1, fun i x hx => ?_, ?_⟩ k2 k3
  · have hu : ∀ (b : Nat) (cur : Array Value) (fr : Nat × Nat), w.heap[b]? = some (.cells cur 5 fr) → w'.heap[b]? = w.heap[b]? := fun b cur fr hb => k2.block b (lt_heap hb) (fun e => hown'.ne hb (by decide) e.symm)
    by_cases hi : i < ll.length
    · rw [List.getElem?_append_left hi] at hx
      obtain ⟨A2, c2, e1, e2⟩ := hcs i x hx
      exact ⟨A2, c2, by rw [List.getElem?_append_left (by omega)]; exact e1, e2.keep k2.size (fun b hb _ => absurd hb (Nat.not_lt_zero _)) hu⟩
    · rw [List.getElem?_append_right (by omega)] at hx
      have h0 : i - ll.length = 0 := by
        have := (List.getElem?_eq_some_iff.1 hx).1
        simp at this
        omega
      rw [h0] at hx
      simp at hx
      subst hx
      exact ⟨A', c', by rw [List.getElem?_append_right (by omega), hlv, h0]; rfl, hy.keep k2.size (fun b hb _ => absurd hb (Nat.not_lt_zero _)) hu⟩
  · intro u hu
    rcases List.mem_append.1 hu with hu | hu
    · exact h1 u hu
    · simp at hu
      subst hu
      rfl
section
variable {w w' : World} {B g o : Nat} {x y : En}
theorem Bx.other0 {q : Nat} {r : Option Nat} {p : Se} {v : Value} {d : List Nat} (h' : Bx w 0 v d) (h : SeAt w B q r p) (k : Kr q r w w') : Bx w' 0 v d :=
  h'.keep k.size (fun b hb _ => absurd hb (Nat.not_lt_zero _)) (fun b cur fr hb => k.block b (lt_heap hb) (h.q_ne hb (by decide)) (h.row_ne hb (by decide)))
/-- The first one's cells. -/
theorem Arena.cells (h : Arena w B g o x y) : w.cell? ⟨g, o, none⟩ = some (.pointer (some ⟨x.q, 0, none⟩)) ∧ w.cell? ⟨g, o + 1, none⟩ = some (.int .i64 (x.lf : Int)) ∧ w.cell? ⟨g, o + 2, none⟩ = some x.vS ∧ w.cell? ⟨g, o + 3, none⟩ = some x.vD ∧ w.cell? ⟨g, o + 4, none⟩ = some x.vA := by
  obtain ⟨C, h1, h2, h3, h4⟩ := h.X
  exact ⟨(cell_block h1 _).trans h3.c0, (cell_block h1 _).trans h3.c1, (cell_block h1 _).trans h3.c2, (cell_block h1 _).trans h3.c3, (cell_block h1 _).trans h3.c4⟩
theorem Arena.free (h : Arena w B g o x y) (j : Nat) : w.frozen? ⟨g, j, none⟩ = false := by
  obtain ⟨C, h1, _⟩ := h.X
  exact free_block h1 j
/-- What comes at one end, is told and accepted, if it should be. -/
def TakeP7 (B g o : Nat) (x y : En) (e' : Ep) (w : World) (e : Ending) (w' : World) : Prop := e = .returned (.bool true) ∧ ∃ x', x'.e = e' ∧ x'.lf = x.lf ∧ Arena w' B g o x' y ∧ Fr g x w w' x'
set_option maxRecDepth 100000 in
set_option maxHeartbeats 3200000 in
theorem take_one {n : Nat} (h : Arena w B g o x y) (hE : EpOk n x.e y.e) (hE' : EpOk (1 - n) y.e x.e) (hn : n ≤ 1) {k : Pk} (hk : PkOk (1 - n) y.e k) (hr : pright k = true) (v : Value) (hv : Bx w B v (pkb k)) (acc : Bool)
    (hS : x.e.S.length ≤ 1000) (hS' : y.e.S.length ≤ 1000) (hB : B ≤ w.heap.size) :
    Calls Try.prog 28 #[.pointer (some ⟨g, o, none⟩), v, .bool acc] w fun e w' => TakeP7 B g o x y (x.e.got k acc) w e w' := by
  have hpre := pre_len hE
  have hrec := recv_ok hE hE' hn hk hr
  have HA := Lib.hid h
  have HV := Lib.hid hv
  have hshort := pkb_short (pright_iff.1 hr).2.2.2.2.1
  obtain ⟨c0, -, -, -, -⟩ := h.cells
  have hX : Hid (∃ C, w.heap[g]? = some (.cells C 60 (0, 0))) := Lib.hid (by obtain ⟨C, h1, _⟩ := h.X; exact ⟨C, h1⟩)
  obtain ⟨⟨A0, cap0, rfl, -, -⟩, -⟩ := hv.bs
  have HEE := Lib.hid hE
  clear h hv hE
  rcases hrec with ⟨hl, hrec⟩ | ⟨hl, hrec⟩
  · have hgot : Hid (x.e.got k acc = x.e) := Lib.hid (by unfold Ep.got; rw [if_pos hl])
    have HR := Lib.hid (recvn_any HA.out.a.s _ _ HV.out.bs hshort hB hrec)
    clear hrec
    go_enter Try.func28, Try.ntmps28
    go_wp2_with fail
    refine HR.out.mono ?_
    rintro e w1 ⟨rfl, r1, hs1, hk1, hw1⟩
    rw [show (((0 : Nat)) : Int) = 0 from rfl]
    have hA1 := HA.out.sess hs1 hk1 hw1 rfl
    have hF1 : Fr g x w w1 _ := Fr.sess (p1 := x.e.p) hk1 hw1
    have ho1 := (Below.refl w1.heap.size w1).alloc (Nat.le_refl _) (.cells #[.int .i64 0, .slice none 0 0] 27)
    have HA1 := Lib.hid (hA1.below ho1)
    have HF1 := Lib.hid (hF1.trans (Fr.of_below ho1))
    clear hA1 hF1 hs1 hk1 hw1 ho1 c0
    go_wp2_with fail
    go_ret
    refine ⟨rfl, _, ?_, ?_, HA1.out, HF1.out⟩
    · rw [hgot.out]
    · rfl
  · by_cases hs : k.s = x.e.D.length + x.e.A.length + 1
    · rw [if_pos hs] at hrec
      have HR := Lib.hid (recvs_any HA.out.a.s _ _ HV.out.bs hshort hB hrec)
      cases acc with
      | false =>
        have hgot : Hid (x.e.got k false = { x.e with p := { x.e.p with pl := k.l, ds := x.e.p.ds.drop (k.a - (x.e.p.last - x.e.p.ds.length)) } }) := Lib.hid (by unfold Ep.got; rw [if_neg (by omega), if_neg (by simp)])
        clear hrec
        go_enter Try.func28, Try.ntmps28
        go_wp2_with fail
        refine HR.out.mono ?_
        rintro e w1 ⟨⟨A1, c1, rfl, hx1⟩, r1, hs1, hk1, hw1⟩
        have hA1 := HA.out.sess hs1 hk1 hw1 rfl
        have hF1 : Fr g x w w1 _ := Fr.sess (p1 := { x.e.p with pl := k.l, ds := x.e.p.ds.drop (k.a - (x.e.p.last - x.e.p.ds.length)) }) hk1 hw1
        have ho1 := (Below.refl w1.heap.size w1).alloc (Nat.le_refl _) (.cells #[.int .i64 (k.s : Int), .slice A1 k.d.length c1] 27)
        have HA1 := Lib.hid (hA1.below ho1)
        have HF1 := Lib.hid (hF1.trans (Fr.of_below ho1))
        clear hA1 hF1 hs1 hk1 hw1 ho1 c0 hs
        go_wp2_with fail
        go_ret
        refine ⟨rfl, _, ?_, ?_, HA1.out, HF1.out⟩
        · rw [hgot.out]
        · rfl
      | true =>
        have hgot : Hid (x.e.got k true = ⟨{ x.e.p with pl := k.l, ds := x.e.p.ds.drop (k.a - (x.e.p.last - x.e.p.ds.length)), acc := x.e.p.acc + 1 }, x.e.S, x.e.D, x.e.A ++ [k.d]⟩) := Lib.hid (by unfold Ep.got; rw [if_neg (by omega), if_pos ⟨hs, rfl⟩])
        have hacc := HEE.out.acc
        have HSS := Lib.hid hs
        clear hrec hs
        go_enter Try.func28, Try.ntmps28
        go_wp2_with fail
        refine HR.out.mono ?_
        rintro e w1 ⟨⟨A1, c1, rfl, hx1⟩, r1, hs1, hk1, hw1⟩
        have hA1 := HA.out.sess hs1 hk1 hw1 rfl
        have hF1 : Fr g x w w1 _ := Fr.sess (p1 := { x.e.p with pl := k.l, ds := x.e.p.ds.drop (k.a - (x.e.p.last - x.e.p.ds.length)) }) hk1 hw1
        have ho1 := (Below.refl w1.heap.size w1).alloc (Nat.le_refl _) (.cells #[.int .i64 (k.s : Int), .slice A1 k.d.length c1] 27)
        have qI := heap_new w1 (.cells #[.int .i64 (k.s : Int), .slice A1 k.d.length c1] 27)
        have hI1 : ∀ j, r1 = some j → j < w1.heap.size := fun j hj => (hs1.row_lt hj).2
        have hI2 : x.q < w1.heap.size := hs1.lt
        have HA1 := Lib.hid (hA1.below ho1)
        have HF1 := Lib.hid (hF1.trans (Fr.of_below ho1))
        have HX1 := Lib.hid (hx1.below ho1)
        obtain ⟨V, hV⟩ : ∃ V, V = w1.alloc (.cells #[.int .i64 (k.s : Int), .slice A1 k.d.length c1] 27) := ⟨_, rfl⟩
        obtain ⟨I, hI⟩ : ∃ I, I = w1.heap.size := ⟨_, rfl⟩
        rw [← hV] at HA1 HF1 HX1 qI
        rw [← hI] at qI hI1 hI2
        clear hA1 hF1 hs1 hk1 hw1 ho1 c0 hx1
        go_upto_region 5 with fail
        rw [← hV, ← hI]
        clear hV hI
        obtain ⟨AD, cD, hvD, -, -⟩ := HA1.out.a.rD.slice
        obtain ⟨AA, cA, hvA, -, -⟩ := HA1.out.a.rA.slice
        obtain ⟨nD, hnD⟩ : ∃ nD, Hid (x.e.D.length = nD) := ⟨_, Lib.hid rfl⟩
        obtain ⟨nA, hnA⟩ : ∃ nA, Hid (x.e.A.length = nA) := ⟨_, Lib.hid rfl⟩
        obtain ⟨c0, -, -, c3, c4⟩ := HA1.out.cells
        dsimp only at hvD hvA c0 c3 c4
        rw [hvD, hnD.out] at c3
        rw [hvA, hnA.out] at c4
        rw [hnD.out, hnA.out] at hpre hacc
        have hks : k.s = nD + nA + 1 := by rw [HSS.out, hnD.out, hnA.out]
        have HVD := Lib.hid hvD
        have HVA := Lib.hid hvA
        have QI := Lib.hid qI
        have e0 := cell_block qI 0
        have e1 := cell_block qI 1
        have HCA := Lib.hid (accept_any HA1.out.a.s.drew (k.s : Int) (by show x.e.p.acc < _; omega))
        have hsc : (k.s : Int) = ((x.e.p.acc : Nat) : Int) + 1 := by omega
        dsimp only at HCA
        rw [if_pos hsc] at HCA
        have hst : ({ x.e.p with pl := k.l, ds := x.e.p.ds.drop (k.a - (x.e.p.last - x.e.p.ds.length)) } : Se).accept (k.s : Int) = { x.e.p with pl := k.l, ds := x.e.p.ds.drop (k.a - (x.e.p.last - x.e.p.ds.length)), acc := x.e.p.acc + 1 } := by
          unfold Se.accept
          rw [if_pos hsc]
        rw [hst] at HCA
        obtain ⟨s, hs⟩ : ∃ s, Hid (k.s = s) := ⟨_, Lib.hid rfl⟩
        rw [hs.out] at e0 hks HCA ⊢
        have hIq : I ≠ x.q := by omega
        have hIr : r1 ≠ some I := fun e => by have := hI1 I e; omega
        have HST : Hid (∀ w3 : World, SeAt w3 B x.q r1 { x.e.p with pl := k.l, ds := x.e.p.ds.drop (k.a - (x.e.p.last - x.e.p.ds.length)), acc := x.e.p.acc + 1 } → Kr x.q r1 V.drew w3 →
            ∃ x3 : En, x3.lf = x.lf ∧ x3.q = x.q ∧ x3.vD = .slice AD nD cD ∧ x3.vA = .slice AA nA cA ∧ x3.e = ⟨{ x.e.p with pl := k.l, ds := x.e.p.ds.drop (k.a - (x.e.p.last - x.e.p.ds.length)), acc := x.e.p.acc + 1 }, x.e.S, x.e.D, x.e.A⟩ ∧ Arena w3 B g o x3 y ∧ Fr g x w w3 x3 ∧ Bx w3 0 (.slice A1 k.d.length c1) k.d ∧ w3.heap[I]? = some (.cells #[.int .i64 (s : Int), .slice A1 k.d.length c1] 27 (0, 0))) := Lib.hid (fun w3 hs3 hk3 => by
          have a1 := HA1.out.drew.sess hs3 hk3 (.inl rfl) rfl
          have a2 := HF1.out.drew.trans (Fr.sess (p1 := { x.e.p with pl := k.l, ds := x.e.p.ds.drop (k.a - (x.e.p.last - x.e.p.ds.length)), acc := x.e.p.acc + 1 }) hk3 (.inl rfl))
          refine ⟨_, ?_, ?_, ?_, ?_, ?_, a1, a2, (show Bx V.drew 0 (.slice A1 k.d.length c1) k.d from HX1.out).other0 HA1.out.a.s.drew hk3, ?_⟩
          · rfl
          · rfl
          · rw [← hnD.out]; exact HVD.out
          · rw [← hnA.out]; exact HVA.out
          · rfl
          · rw [← hs.out]; exact hk3.heap (show V.drew.heap[I]? = some (.cells #[.int .i64 (k.s : Int), .slice A1 k.d.length c1] 27 (0, 0)) from QI.out) hIq hIr)
        have v1 : IntKind.i64.wrap ((nD : Int) + (nA : Int)) = (nD : Int) + (nA : Int) := IntWalk.i64_in _ (by omega)
        have v2 : IntKind.i64.wrap ((nD : Int) + (nA : Int) + 1) = (nD : Int) + (nA : Int) + 1 := IntWalk.i64_in _ (by omega)
        have v3 : ((s : Int) != (nD : Int) + (nA : Int) + 1) = false := by rw [hks]; simp
        clear hvD hvA qI hst hsc hacc hks
        go_region_held3 (fun w' => w'.cell? ⟨g, o, none⟩ = some (.pointer (some ⟨x.q, 0, none⟩)) ∧ w'.cell? ⟨g, o + 3, none⟩ = some (.slice AD nD cD) ∧ w'.cell? ⟨g, o + 4, none⟩ = some (.slice AA nA cA) ∧ w'.cell? ⟨I, 0, none⟩ = some (.int .i64 (s : Int)) ∧ w'.cell? ⟨I, 1, none⟩ = some (.slice A1 k.d.length c1)) (go_keep)
          (first
            | (go_at_call 13
               refine HCA.out.mono ?_
               rintro e w3 ⟨rfl, hs3, hk3⟩
               obtain ⟨x3, m0, m1, m2, m3, m4, a3, f3, b3, i3⟩ := HST.out w3 hs3 hk3
               have HM4 := Lib.hid m4
               have HM0 := Lib.hid m0
               have HA3 := Lib.hid a3
               have HF3 := Lib.hid f3
               have HX3 := Lib.hid b3
               have QI3 := Lib.hid i3
               have g0 := cell_block QI3.out 0
               have g1 := cell_block QI3.out 1
               obtain ⟨d0, -, -, d3, d4⟩ := HA3.out.cells
               rw [m1] at d0
               rw [m2] at d3
               rw [m3] at d4
               have HM3 := Lib.hid m3
               clear m0 m1 m2 m3 m4 a3 f3 b3 i3
               clear hs3 hk3)
            | (fail))
        all_goals
          clear c0 c3 c4 e0 e1 v1 v2 v3 HCA
          have hA4 := (HA3.out.below ((Below.refl w3.heap.size w3).alloc (Nat.le_refl _) (.cells #[.slice A1 k.d.length c1] 25))).drew
          have hF4 := (HF3.out.trans (Fr.of_below ((Below.refl w3.heap.size w3).alloc (Nat.le_refl _) (.cells #[.slice A1 k.d.length c1] 25)))).drew
          have hx4 := (Bx.below HX3.out ((Below.refl w3.heap.size w3).alloc (Nat.le_refl _) (.cells #[.slice A1 k.d.length c1] 25)))
          have hrb4 := hA4.a.rA
          have hxA : x3.e.A = x.e.A := by rw [HM4.out]
          rw [HM3.out, hxA] at hrb4
          have HRB4 := Lib.hid hrb4
          have HX4 := Lib.hid (show Bx (w3.alloc (.cells #[.slice A1 k.d.length c1] 25)).drew 0 (.slice A1 k.d.length c1) k.d from hx4)
          have HA4 := Lib.hid hA4
          have HF4 := Lib.hid hF4
          have hat := At.made w3 #[.slice A1 k.d.length c1] 25
          have hB4 : B ≤ w3.heap.size := by have := HF3.out.size; omega
          have hnA1 : x.e.A.length ≤ 100000 := by rw [hnA.out]; omega
          have k1 : g < w3.heap.size := HA3.out.lt
          have k2 : g ≠ w3.heap.size := by omega
          have k3 : I < w3.heap.size := lt_heap QI3.out
          have k4 : I ≠ w3.heap.size := by omega
          clear hrb4 hA4 hF4 hx4 hxA
          go_wp2_with fail
          go_region_law
            (refine step_bapp (w := (w3.alloc (.cells #[.slice A1 k.d.length c1] 25)).drew) (y := k.d) (v := .slice AA nA cA) (ll := x.e.A) rfl (.tmp 55) (.tmp 58) rfl rfl HRB4.out rfl hat.drew HX4.out hnA1 (by show B ≤ (w3.alloc _).heap.size; simp; omega) ?_
             intro v4 w4 hv4 hg4 hr4
             have hg4' : (w3.alloc (.cells #[.slice A1 k.d.length c1] 25)).drew.grownBy w4 x3.vA.ownBlock := by rw [HM3.out]; exact hg4
             have hgb := hg4.block g HA4.out.lt (fun e => by obtain ⟨C, hC, _⟩ := HA4.out.X; exact HRB4.out.ne hC (by decide) e.symm)
             obtain ⟨-, -, -, -, y4⟩ := HA4.out.cells
             have z4 := (cell_heap (o := o + 4) hgb).trans y4
             have f4 : w4.frozen? ⟨g, o + 4, none⟩ = false := by obtain ⟨C, hC, _⟩ := HA4.out.X; exact free_block (hgb.trans hC) _
             obtain ⟨A4, c4', rfl, -, -⟩ := hv4.slice
             rw [show (x.e.A ++ [k.d]).length = nA + 1 by rw [List.length_append, hnA.out]; rfl] at hv4 hr4 ⊢
             have HV4 := Lib.hid hv4
             have HG4 := Lib.hid hg4'
             have HR4 := Lib.hid hr4
             clear hv4 hg4 hg4' hr4 hgb y4)
          all_goals
            go_wp2_with fail
            go_ret
            have hadd := HA4.out.addA (v' := .slice A4 (nA + 1) c4') (d := k.d) (w' := w4) (by rw [HM4.out]; exact HV4.out) HG4.out (by rw [HM3.out]; exact HR4.out)
            refine ⟨rfl, _, ?_, ?_, hadd.1, HF4.out.trans hadd.2⟩
            · rw [hgot.out]
              show (⟨x3.e.p, x3.e.S, x3.e.D, x3.e.A ++ [k.d]⟩ : Ep) = _
              rw [HM4.out]
            · exact HM0.out
    · rw [if_neg hs] at hrec
      have hgot : Hid (x.e.got k acc = { x.e with p := { x.e.p with pl := k.l, ds := x.e.p.ds.drop (k.a - (x.e.p.last - x.e.p.ds.length)) } }) := Lib.hid (by unfold Ep.got; rw [if_neg (by omega), if_neg (fun h => hs h.1)])
      have HR := Lib.hid (recvn_any HA.out.a.s _ _ HV.out.bs hshort hB hrec)
      clear hrec
      go_enter Try.func28, Try.ntmps28
      go_wp2_with fail
      refine HR.out.mono ?_
      rintro e w1 ⟨rfl, r1, hs1, hk1, hw1⟩
      rw [show (((0 : Nat)) : Int) = 0 from rfl]
      have hA1 := HA.out.sess hs1 hk1 hw1 rfl
      have hF1 : Fr g x w w1 _ := Fr.sess (p1 := { x.e.p with pl := k.l, ds := x.e.p.ds.drop (k.a - (x.e.p.last - x.e.p.ds.length)) }) hk1 hw1
      have ho1 := (Below.refl w1.heap.size w1).alloc (Nat.le_refl _) (.cells #[.int .i64 0, .slice none 0 0] 27)
      have HA1 := Lib.hid (hA1.below ho1)
      have HF1 := Lib.hid (hF1.trans (Fr.of_below ho1))
      clear hA1 hF1 hs1 hk1 hw1 ho1 c0 hs
      go_wp2_with fail
      go_ret
      refine ⟨rfl, _, ?_, ?_, HA1.out, HF1.out⟩
      · rw [hgot.out]
      · rfl
end
end Go.Proofs.Ytjhopajhcmkllaa
