/- drover/session.Send: the walk. -/
import Derived.Test.YtjhopajhcmkllaaSe
import Derived.Deep.RegionLaw
import Derived.Laws.EntriesVeiled
namespace Go.Proofs.Ytjhopajhcmkllaa
open Go.RowKit
set_option linter.unusedVariables false

section
variable {w w' : World} {base q : Nat} {r r' : Option Nat} {p : Se}
theorem step_appi {ops : Array Oper} {o : Oper} {a : Act} {K : Act → World → Prop} {Q : Exit → Act → World → Prop} {E : Prop} {v : Value} {L : List It} (hgd : o.guard = none) (s x : Operand)
    (ho : o.op = .call { callee := .builtin .append, args := #[s, x], argTypes := #[22, 22] })
    (hs : a.eval s = v) (hown : w.ownsRow base 27 2 v L.length (iCs L)) {B : Nat} {A : Option Addr} {c : Nat} {y : It} (hx : a.eval x = .slice A 1 c)
    (hr : At w B A (iC y)) (hn : L.length ≤ 100000) (hbase : base ≤ w.heap.size)
    (h : ∀ v' w', w'.ownsRow base 27 2 v' (L ++ [y]).length (iCs (L ++ [y])) → w.grownBy w' v.ownBlock → (v'.ownBlock = v.ownBlock ∨ v'.ownBlock = some w.heap.size) → K (a.put o.dst v') w') :
    if Region.wanted o (yielded ops a.tmps) = true then Oper.wp Try.prog o a w K Q else E := by
  have hw : Region.wanted o (yielded ops a.tmps) = true := by simp [Region.wanted, hgd]
  rw [if_pos hw]
  obtain ⟨i0, hi0, hz0, hz1, hz2⟩ := info_parts it_info
  refine wp_append_at w s x 22 ho base 27 i0 _ 2 32 Try.underlying22 hi0 hz0 hz1 hz2 rfl (by omega) v L.length (iCs L) hs hown B A 1 c (iC y) hx hr
    (by simp [iC]) (iC_one y) (by unfold maxLen; omega) (by omega) hbase ?_
  intro v' w' h1 h2 h3
  refine h v' w' ?_ h2 h3
  rw [List.length_append, iCs_append, iCs_one]
  exact h1
def Se.sendE (p : Se) (d : List Nat) : Nat := if 1048576 < d.length then 3 else if 1024 ≤ p.ds.length then 5 else 0
def Se.send (p : Se) (d : List Nat) : Se := if p.sendE d = 0 then { p with last := p.last + 1, ds := p.ds ++ [d] } else p
def Se.sendN (p : Se) (d : List Nat) : Nat := if p.sendE d = 0 then p.last + 1 else 0
theorem Se.send_ok {p : Se} {d : List Nat} (h : p.Ok) (hl : p.last < 4611686018427387904) : (p.send d).Ok := by
  unfold Se.send
  split
  · rename_i hE
    unfold Se.sendE at hE
    have h1 : ¬ 1048576 < d.length := fun h => by rw [if_pos h] at hE; simp at hE
    rw [if_neg h1] at hE
    have h2 : ¬ 1024 ≤ p.ds.length := fun h => by rw [if_pos h] at hE; simp at hE
    obtain ⟨a1, a2, a3, a4, a5, a6, a7, a8, a9⟩ := h
    refine ⟨a1, a2, a3, ⟨?_, ?_⟩, a5, a6, a7, ?_, ?_⟩
    · simp; omega
    · show p.last + 1 ≤ _; omega
    · simp; omega
    · intro x hx
      rcases List.mem_append.1 hx with hx | hx
      · exact a9 x hx
      · simp at hx
        subst hx
        omega
  · exact h
theorem Its.snoc {first : Nat} {ds : List (List Nat)} {L : List It} {x : It} (h : Its w first ds L) (hs : x.s = ((first + 1 + ds.length : Nat) : Int)) (hb : Bx w 0 (.slice x.A x.d.length x.c) x.d) : Its w first (ds ++ [x.d]) (L ++ [x]) := by
  refine ⟨by simp [h.ds], fun i y hy => ?_, fun y hy => ?_⟩
  · by_cases hi : i < L.length
    · rw [List.getElem?_append_left hi] at hy
      exact h.num i y hy
    · rw [List.getElem?_append_right (by omega)] at hy
      have h0 : i - L.length = 0 := by
        have := (List.getElem?_eq_some_iff.1 hy).1
        simp at this
        omega
      rw [h0] at hy
      simp at hy
      subst hy
      rw [hs, ← h.len]
      congr 2
      omega
  · rcases List.mem_append.1 hy with hy | hy
    · exact h.bx y hy
    · simp at hy
      subst hy
      exact hb
set_option maxRecDepth 100000 in
set_option maxHeartbeats 1600000 in
theorem ssend_ok (h : SeAt w base q r p) (v : Value) (d : List Nat) (hv : Bx w base v d) (hE : p.sendE d = 0) (hl : p.last < 4611686018427387904) (hbase : base ≤ w.heap.size) : Calls Try.prog 17 #[.pointer (some ⟨q, 0, none⟩), v] w fun e w' => e = .returned (.tuple #[.int .i64 ((p.last + 1 : Nat) : Int), .int .i64 0]) ∧ AfterS w base q r (p.send d) w' := by
  have HM := Lib.hid (smade_any h)
  have HP := Lib.hid (show p.send d = { p with last := p.last + 1, ds := p.ds ++ [d] } by unfold Se.send; rw [if_pos hE])
  have hok' := Lib.hid (Se.send_ok (d := d) h.ok hl)
  unfold Se.sendE at hE
  have g1 : ¬ 1048576 < d.length := fun h => by rw [if_pos h] at hE; simp at hE
  rw [if_neg g1] at hE
  have g2 : ¬ 1024 ≤ p.ds.length := fun h => by rw [if_pos h] at hE; simp at hE
  have hok := h.ok
  have hlow := h.low
  have hlt := h.lt
  obtain ⟨u, L, hr, hb, ho, hh, hi, -⟩ := id h
  have hlen := hi.len
  obtain ⟨Au, cu, rfl, hcu⟩ := irow_slice ho
  have hd1 : d.length ≤ 1048576 := by omega
  have k1 : decide ((d.length : Int) > 1048576) = false := decide_eq_false (by omega)
  have k2 : decide (1048576 < d.length) = false := decide_eq_false g1
  have k3 : decide ((L.length : Int) ≥ 1024) = false := decide_eq_false (by omega)
  have k4 : decide (1024 ≤ L.length) = false := decide_eq_false (by omega)
  obtain ⟨W, hW⟩ : ∃ W, W = w.setCell ⟨q, 4, none⟩ (.int .i64 (p.last + 1 : Int)) := ⟨_, rfl⟩
  have hhW : W.heap[q]? = some (.cells #[.pointer (some ⟨q, 0, none⟩), .int .i64 (p.node : Int), .int .i64 (p.peer : Int), .int .i64 (p.life : Int), .int .i64 (p.last + 1 : Int), .slice Au L.length cu, .int .i64 (p.done : Int), .int .i64 (p.acc : Int), .int .i64 (p.pl : Int)] 77 (0, 0)) := by
    rw [hW]; exact heap_set hh 4 _
  have hoW : W.ownsRow base 27 2 (.slice Au L.length cu) L.length (iCs L) := by
    rw [hW]; exact irow_kept ho (fun g hg => Below.heap_setCell _ _ _ _ (fun e => irow_ne ho hh (by decide) (by rw [hg, e])))
  have hkW : Kr q r w W := by rw [hW]; exact (Kr.refl _ _ _).set _ _
  have hsW : W.heap.size = w.heap.size := by rw [hW]; simp [World.setCell]
  have hqu : ∀ (b : Nat) (cur : Array Value) (fr : Nat × Nat), w.heap[b]? = some (.cells cur 5 fr) → W.heap[b]? = w.heap[b]? := fun b cur fr hb' => by
    rw [hW]
    refine Below.heap_setCell _ _ _ _ (fun e => ?_)
    dsimp only at e
    subst e
    rw [hh] at hb'
    exact absurd (by injection hb' with hb'; injection hb') (show ¬ 77 = 5 by decide)
  have hvW : Bs W v d := (hv.keep (by omega) (fun b h1 _ => by rw [hW]; exact Below.heap_setCell _ _ _ _ (fun e => by dsimp only at e; omega)) hqu).bs
  have hiW : Its W p.first p.ds L := hi.keep (by omega) hqu
  obtain ⟨⟨A, c, rfl, hc, ha⟩, h8⟩ := hv.bs
  obtain ⟨c0, c1, c2, c3, c4, c5, c6, c7, c8⟩ := box9 hh
  have f4 := free_block hh 4
  obtain ⟨d0, d1, d2, d3, d4, d5, d6, d7, d8⟩ := box9 hhW
  have HI := Lib.hid (item_any (p.last + 1 : Int) _ d W.drew hvW.drew (by omega))
  have HLEN := Lib.hid hlen
  have HHW := Lib.hid hhW
  have HOW := Lib.hid hoW
  have HIW := Lib.hid hiW
  have HKW := Lib.hid hkW
  have HQR := Lib.hid hr
  have HW := Lib.hid hW
  have hp0 := hok.last.2
  have hn1 : L.length ≤ 1024 := by omega
  have hWq : q < W.heap.size := by omega
  clear hE hlen hhW hoW hiW hkW hW hvW hqu hr ha hv hi ho hok hh h8 h g1 g2 hsW
  go_enter Try.func17, Try.ntmps17
  go_wp2_with fail
  refine HM.out.mono ?_
  rintro e w1 ⟨rfl, rfl⟩
  go_wp2_with fail
  rw [← HW.out]
  clear c0 c1 c2 c3 c4 c5 c6 c7 c8 f4
  go_region_law
    (first
      | (refine step_appi rfl (.tmp 36) (.tmp 44) rfl rfl (World.ownsRow.alloc HO2.out _) rfl hat (by omega) (by simp; omega) ?_
         intro v3 w3 hown3 hg3 hrow
         have HH3 := Lib.hid ((hg3.block q (by show q < (w2.alloc _).heap.size; simp; omega) (fun e => irow_ne HO2.out HH2.out (by decide) e.symm)).trans (heap_old HH2.out _))
         have z4 := cell_block HH3.out 4
         have z5 := cell_block HH3.out 5
         have y5 := free_block HH3.out 5
         obtain ⟨A3, c3, hv3, -⟩ := irow_slice hown3
         rw [show (L ++ [(⟨(p.last + 1 : Int), A2, c2, d⟩ : It)]).length = L.length + 1 by simp] at hv3
         subst hv3
         have HO3 := Lib.hid hown3
         clear hown3)
      | (go_simp
         go_at_call 49
         refine HI.out.mono ?_
         rintro e w2 ⟨A2, c2, rfl, ho2, hs2, hx2, hb2'⟩
         have hb2 := of_drew6' hb2'
         have HH2 := Lib.hid (heap_below HHW.out hb2)
         obtain ⟨d0, d1, d2, d3, d4, d5, d6, d7, d8⟩ := box9 HH2.out
         have HO2 := Lib.hid (irow_kept HOW.out (fun g hg => hb2.block g (by obtain ⟨_, _, h⟩ := irow_blk HOW.out hg; exact lt_heap h)))
         have hat := At.item w2 (p.last + 1 : Int) A2 d.length c2 27 ⟨_, A2, c2, d⟩ rfl rfl rfl rfl
         have hs3 := hb2.size
         have hq2 : q < w2.heap.size := by omega
         have hq3 : q ≠ w2.heap.size := by omega)
      | (fail))
  all_goals
    go_wp2_with fail
    go_ret2
    refine ⟨rfl, (Value.slice A3 (L.length + 1) c3).ownBlock, ?_, ((((HKW.out.trans (.inl rfl) (Kr.of_below hb2)).alloc _).grown (.inl HQR.out) hg3).set _ _), ?_⟩
    · rw [HP.out]
      have hok2 := hok'.out
      rw [HP.out] at hok2
      have hh3 := HH3.out
      refine ⟨_, L ++ [⟨(p.last + 1 : Int), A2, c2, d⟩], rfl, hb, irow_kept HO3.out (fun g hg => ?_), heap_set HH3.out 5 _, ?_, hok2⟩
      · exact Below.heap_setCell _ _ _ _ (fun e => irow_ne HO3.out HH3.out (by decide) (by rw [hg, e]))
      · have hfirst : ({ p with last := p.last + 1, ds := p.ds ++ [d] } : Se).first = p.first := by
          unfold Se.first
          simp
        rw [hfirst]
        have i1 : Its (w2.alloc (.cells #[.int .i64 (p.last + 1 : Int), .slice A2 d.length c2] 27)) p.first p.ds L := HIW.out.below (hb2.alloc hb2.size _)
        have i2 := i1.snoc (x := ⟨(p.last + 1 : Int), A2, c2, d⟩) (by
          have := hok2.last.1
          unfold Se.first
          simp at this
          show (p.last + 1 : Int) = _
          omega) (hx2.below ((Below.refl _ _).alloc (Nat.le_refl _) _))
        refine i2.keep (by have := hg3.size; simp [World.setCell] at this ⊢; exact this) (fun b cur fr hb' => ?_)
        refine (Below.heap_setCell _ _ _ _ (fun e => ?_)).trans (hg3.block b (lt_heap hb') (fun e => irow_ne (World.ownsRow.alloc HO2.out _) hb' (by decide) e.symm))
        dsimp only at e
        subst e
        rw [heap_old HH2.out] at hb'
        exact absurd (by injection hb' with hb'; injection hb') (show ¬ 77 = 5 by decide)
    · rcases hrow with h1 | h1
      · exact .inl (h1.trans HQR.out)
      · exact .inr ⟨_, h1, by have := HKW.out.size; simp; omega⟩
set_option maxHeartbeats 800000 in
theorem ssend_any (h : SeAt w base q r p) (v : Value) (d : List Nat) (hv : Bx w base v d) (hl : p.last < 4611686018427387904) (hbase : base ≤ w.heap.size) : Calls Try.prog 17 #[.pointer (some ⟨q, 0, none⟩), v] w fun e w' => e = .returned (.tuple #[.int .i64 (p.sendN d : Int), .int .i64 (p.sendE d : Int)]) ∧ AfterS w base q r (p.send d) w' := by
  by_cases hE : p.sendE d = 0
  · have := ssend_ok h v d hv hE hl hbase
    unfold Se.sendN
    rw [if_pos hE, hE]
    exact this
  have HM := Lib.hid (smade_any h)
  have HR := Lib.hid (AfterS.same h)
  have e1 : p.send d = p := by unfold Se.send; rw [if_neg hE]
  have e2 : p.sendN d = 0 := by unfold Se.sendN; rw [if_neg hE]
  rw [e1, e2]
  clear e1 e2
  have hbs := hv.bs
  obtain ⟨⟨A, c, rfl, hc, ha⟩, h8⟩ := hbs
  unfold Se.sendE at hE ⊢
  by_cases g1 : 1048576 < d.length
  · have k1 : decide ((d.length : Int) > 1048576) = true := decide_eq_true (by omega)
    have k2 : decide (1048576 < d.length) = true := decide_eq_true g1
    rw [if_pos g1]
    clear h hE g1 ha h8 hv
    go_enter Try.func17, Try.ntmps17
    go_wp2_with fail
    refine HM.out.mono ?_
    rintro e w1 ⟨rfl, rfl⟩
    go_wp2_with fail
    go_ret2
    exact ⟨rfl, HR.out⟩
  · rw [if_neg g1] at hE ⊢
    have g2 : 1024 ≤ p.ds.length := by
      by_cases h : 1024 ≤ p.ds.length
      · exact h
      · rw [if_neg h] at hE
        simp at hE
    rw [if_pos g2]
    have k1 : decide ((d.length : Int) > 1048576) = false := decide_eq_false (by omega)
    have k2 : decide (1048576 < d.length) = false := decide_eq_false g1
    obtain ⟨u, L, -, -, ho, hh, hi, -⟩ := h
    have hlen := hi.len
    obtain ⟨Au, cu, rfl, hcu⟩ := irow_slice ho
    have k3 : decide ((L.length : Int) ≥ 1024) = true := decide_eq_true (by omega)
    have k4 : decide (1024 ≤ L.length) = true := decide_eq_true (by omega)
    obtain ⟨c0, c1, c2, c3, c4, c5, c6, c7, c8⟩ := box9 hh
    clear hE g1 g2 ha h8 hv hh hi ho hlen c0 c1 c2 c3 c4 c6 c7 c8
    go_enter Try.func17, Try.ntmps17
    go_wp2_with fail
    refine HM.out.mono ?_
    rintro e w1 ⟨rfl, rfl⟩
    go_wp2_with fail
    go_ret2
    exact ⟨rfl, HR.out⟩
end
end Go.Proofs.Ytjhopajhcmkllaa
