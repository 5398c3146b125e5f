/- drover/session's made, next, isNode, isNumber, item, Waiting, PeerLife, Accept, Done: the walks. -/
import Derived.Test.YtjhopajhcmkllaaSa
namespace Go.Proofs.Ytjhopajhcmkllaa
open Go.RowKit
set_option linter.unusedVariables false

theorem se_ptr (a : Addr) (w : World) : (binOp .eql 29 (.pointer (some a)) (.pointer (some a))).run Try.prog w = .ok (.bool true) w := by
  obtain ⟨i, hi⟩ := Option.isSome_iff_exists.1 (show (Try.prog.info? 77).isSome = true by kernel_rfl)
  exact run_eql_ptr_same w a Try.underlying29 hi
def ndB (k : Int) : Bool := decide (0 ≤ k) && decide (k < 16)
theorem isnode_any (k : Int) (w : World) : Calls Try.prog 36 #[.int .i64 k] w fun e w' => e = .returned (.bool (ndB k)) ∧ w = w' := by
  unfold ndB
  by_cases h0 : 0 ≤ k
  · rw [decide_eq_true h0]
    generalize hd : decide (k < 16) = b
    have d1 : decide (k ≥ 0) = true := decide_eq_true h0
    go_enter Try.func36, Try.ntmps36
    go_wp2_with fail
    go_ret
    exact ⟨rfl, rfl⟩
  · rw [decide_eq_false h0]
    have d1 : decide (k ≥ 0) = false := decide_eq_false (by omega)
    go_enter Try.func36, Try.ntmps36
    go_wp2_with fail
    go_ret
    exact ⟨rfl, rfl⟩
def nuB (k : Int) : Bool := decide (0 ≤ k) && decide (k ≤ 2305843009213693952)
theorem isnum_any (k : Int) (w : World) : Calls Try.prog 62 #[.int .i64 k] w fun e w' => e = .returned (.bool (nuB k)) ∧ w = w' := by
  unfold nuB
  by_cases h0 : 0 ≤ k
  · rw [decide_eq_true h0]
    generalize hd : decide (k ≤ 2305843009213693952) = b
    have d1 : decide (k ≥ 0) = true := decide_eq_true h0
    go_enter Try.func62, Try.ntmps62
    go_wp2_with fail
    go_ret
    exact ⟨rfl, rfl⟩
  · rw [decide_eq_false h0]
    have d1 : decide (k ≥ 0) = false := decide_eq_false (by omega)
    go_enter Try.func62, Try.ntmps62
    go_wp2_with fail
    go_ret
    exact ⟨rfl, rfl⟩
/-- An item of that number and these bytes, in new memory. -/
def ItemP (n : Int) (d : List Nat) (w : World) (e : Ending) (w' : World) : Prop := ∃ A c, e = .returned (.agg #[.int .i64 n, .slice A d.length c]) ∧ Own w' w.heap.size (.slice A d.length c) d ∧ Bs w' (.slice A d.length c) d ∧ Bx w' 0 (.slice A d.length c) d ∧ Below w.heap.size w w'
theorem item_any (n : Int) (v : Value) (d : List Nat) (w : World) (h : Bs w v d) (hn : d.length ≤ 1099511627776) : Calls Try.prog 49 #[.int .i64 n, v] w fun e w' => ItemP n d w e w' := by
  obtain ⟨⟨A, c, rfl, hc, ha⟩, h8⟩ := h
  have h8' := Lib.hid h8
  have q0 := heap_new w (.cells #[.int .i64 0, .slice none 0 0] 27)
  have hb0 := (Below.refl w.heap.size w).alloc (Nat.le_refl _) (.cells #[.int .i64 0, .slice none 0 0] 27)
  have ha0 := (ha.alloc (Nat.le_refl _) (.cells #[.int .i64 0, .slice none 0 0] 27)).more (Nat.le_succ w.heap.size)
  obtain ⟨W, hW⟩ : ∃ W : World, W = w.alloc (.cells #[.int .i64 0, .slice none 0 0] 27) := ⟨_, rfl⟩
  have hs : w.heap.size ≤ W.heap.size := by rw [hW]; simp
  rw [← hW] at q0 hb0 ha0
  have HW := Lib.hid hW
  clear h8 ha hW
  go_enter Try.func49, Try.ntmps49
  go_wp2_with (first
    | (at_builtin
       rw [← HW.out]
       refine wpList_app rfl (.const (.slice none 0 0)) (.tmp 6) rfl (base := W.heap.size) (l := []) rfl (Own.nil _ _) rfl ha0 rfl (by simp; omega) (Nat.le_refl _) ?_
       intro v' w1 ho hb1 hg hv
       rw [List.nil_append] at ho
       obtain ⟨A', c', rfl, -⟩ := ho.form
       have q1 := heap_below q0 hb1
       have c0 := cell_block q1 0
       have c1 := cell_block q1 1
       have f0 := free_block q1 0
       have f1 := free_block q1 1
       have hbw := nxt hb0 hb1)
    | (fail))
  have q2 := heap_set (heap_set q1 0 (.int .i64 n)) 1 (.slice A' d.length c')
  have d0 := cell_block q2 0
  have d1 := cell_block q2 1
  have ho2 : Own ((w1.setCell ⟨w.heap.size, 0, none⟩ (.int .i64 n)).setCell ⟨w.heap.size, 1, none⟩ (.slice A' d.length c')) w.heap.size (.slice A' d.length c') d :=
    World.ownsRow.kept (row := some w.heap.size) (ho.mono hs) ⟨rfl, rfl, rfl, by simp [World.setCell], fun k _ hk => (Below.heap_setCell _ _ _ _ (fun e => hk (by rw [e]))).trans (Below.heap_setCell _ _ _ _ (fun e => hk (by rw [e])))⟩ (.inr (fun h => by
      have := (World.ownsRow.lt ho _ h).1
      have h2 := lt_heap q0
      omega))
  refine bodyPost_ret (v := .agg #[.int .i64 n, .slice A' d.length c']) (by simp [results, Try.results49, go_sem, d0, d1]) rfl ?_
  exact ⟨A', c', rfl, ho2, Bs.of_own ho2 h8'.out, Bx.of_own ho2 h8'.out, (hbw.setCell (Nat.le_refl _) _).setCell (Nat.le_refl _) _⟩
section
variable {w w' : World} {base q : Nat} {r r' : Option Nat} {p : Se}
theorem smade_any (h : SeAt w base q r p) : Calls Try.prog 43 #[.pointer (some ⟨q, 0, none⟩)] w fun e w' => e = .returned (.bool true) ∧ w = w' := by
  obtain ⟨v, L, -, -, -, hh, -⟩ := h
  obtain ⟨c0, c1, c2, c3, c4, c5, c6, c7, c8⟩ := box9 hh
  have hpe := se_ptr ⟨q, 0, none⟩
  go_enter Try.func43, Try.ntmps43
  go_wp2_with fail
  go_ret
  exact ⟨rfl, rfl⟩
theorem next_any (h : SeAt w base q r p) (k : Int) : Calls Try.prog 47 #[.pointer (some ⟨q, 0, none⟩), .int .i64 k] w fun e w' => e = .returned (.bool (decide (k = (p.acc : Int) + 1))) ∧ w = w' := by
  have hacc := h.ok.acc
  obtain ⟨v, L, -, -, -, hh, -⟩ := h
  obtain ⟨c0, c1, c2, c3, c4, c5, c6, c7, c8⟩ := box9 hh
  generalize p.acc = a at *
  clear hh c0 c1 c2 c3 c4 c5 c6 c8
  obtain ⟨b, hb⟩ : ∃ b, decide (k = (a : Int) + 1) = b := ⟨_, rfl⟩
  have hb2 : (k == (a : Int) + 1) = b := by rw [← hb]; rfl
  rw [hb]
  clear hb
  go_enter Try.func47, Try.ntmps47
  go_wp2_with fail
  go_ret
  exact ⟨rfl, rfl⟩
theorem waiting_any (h : SeAt w base q r p) : Calls Try.prog 10 #[.pointer (some ⟨q, 0, none⟩)] w fun e w' => e = .returned (.int .i64 (p.ds.length : Int)) ∧ w = w' := by
  have HM := Lib.hid (smade_any h)
  obtain ⟨v, L, -, -, ho, hh, hi, -⟩ := h
  obtain ⟨A, c, rfl, hc⟩ := irow_slice ho
  rw [hi.len] at hh
  obtain ⟨c0, c1, c2, c3, c4, c5, c6, c7, c8⟩ := box9 hh
  clear hh c0 c1 c2 c3 c4 c6 c7 c8 hi ho
  go_enter Try.func10, Try.ntmps10
  go_wp2_with fail
  refine HM.out.mono ?_
  rintro e w1 ⟨rfl, rfl⟩
  go_wp2_with fail
  go_ret
  exact ⟨rfl, rfl⟩
theorem peerlife_any (h : SeAt w base q r p) : Calls Try.prog 9 #[.pointer (some ⟨q, 0, none⟩)] w fun e w' => e = .returned (.int .i64 (p.pl : Int)) ∧ w = w' := by
  have HM := Lib.hid (smade_any h)
  obtain ⟨v, L, -, -, ho, hh, hi, -⟩ := h
  obtain ⟨c0, c1, c2, c3, c4, c5, c6, c7, c8⟩ := box9 hh
  clear hh c0 c1 c2 c3 c4 c6 c7 c5 hi ho
  go_enter Try.func9, Try.ntmps9
  go_wp2_with fail
  refine HM.out.mono ?_
  rintro e w1 ⟨rfl, rfl⟩
  go_wp2_with fail
  go_ret
  exact ⟨rfl, rfl⟩
def Se.accept (p : Se) (k : Int) : Se := if k = (p.acc : Int) + 1 then { p with acc := p.acc + 1 } else p
/-- Accept: the number behind what was accepted, or ErrSeq. -/
theorem accept_any (h : SeAt w base q r p) (k : Int) (hk : p.acc < 4611686018427387904) : Calls Try.prog 13 #[.pointer (some ⟨q, 0, none⟩), .int .i64 k] w fun e w' => e = .returned (.int .i64 (if k = (p.acc : Int) + 1 then 0 else 16)) ∧ SeAt w' base q r (p.accept k) ∧ Kr q r w w' := by
  have HM := Lib.hid (smade_any h)
  have HN := Lib.hid (next_any h k)
  unfold Se.accept
  by_cases hb : k = (p.acc : Int) + 1
  · rw [if_pos hb, if_pos hb]
    rw [decide_eq_true hb] at HN
    have h' := Lib.hid h
    have hok := h.ok
    obtain ⟨v, L, -, -, ho, hh, hi, -⟩ := h
    obtain ⟨c0, c1, c2, c3, c4, c5, c6, c7, c8⟩ := box9 hh
    have f7 := free_block hh 7
    have hs := Lib.hid (heap_set hh 7 (.int .i64 k))
    clear hh c0 c1 c2 c3 c4 c5 c6 c8 hi ho hok
    have HB := Lib.hid hb
    clear hb
    go_enter Try.func13, Try.ntmps13
    go_wp2_with fail
    refine HM.out.mono ?_
    rintro e w1 ⟨rfl, rfl⟩
    go_wp2_with fail
    refine HN.out.mono ?_
    rintro e w1 ⟨rfl, rfl⟩
    go_wp2_with fail
    go_ret
    refine ⟨rfl, ?_, (Kr.refl _ _ _).set _ _⟩
    obtain ⟨v, L, h0, h1, ho, hh, hi, hok⟩ := h'.out
    refine ⟨v, L, h0, h1, irow_kept ho (fun g hg => ?_), ?_, ?_, ?_⟩
    · exact Below.heap_setCell _ _ _ _ (fun e => irow_ne ho hh (by decide) (by rw [hg, e]))
    · have := heap_set hh 7 (.int .i64 k)
      rw [HB.out] at this ⊢
      exact this
    · refine hi.keep (by simp [World.setCell]) (fun b cur fr hb => Below.heap_setCell _ _ _ _ (fun e => ?_))
      dsimp only at e
      subst e
      rw [hh] at hb
      exact absurd (by injection hb with hb; injection hb) (show ¬ 77 = 5 by decide)
    · exact { hok with acc := by show p.acc + 1 ≤ _; omega, done := by have := hok.done; show p.done ≤ p.acc + 1; omega }
  · rw [if_neg hb, if_neg hb]
    rw [decide_eq_false hb] at HN
    have HS := Lib.hid h
    clear h hb
    go_enter Try.func13, Try.ntmps13
    go_wp2_with fail
    refine HM.out.mono ?_
    rintro e w1 ⟨rfl, rfl⟩
    go_wp2_with fail
    refine HN.out.mono ?_
    rintro e w1 ⟨rfl, rfl⟩
    go_wp2_with fail
    go_ret
    exact ⟨rfl, HS.out, Kr.refl _ _ _⟩
end
end Go.Proofs.Ytjhopajhcmkllaa
