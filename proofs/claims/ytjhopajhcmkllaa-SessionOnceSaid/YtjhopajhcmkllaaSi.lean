/- slices.IndexFunc, DeleteFunc at rows of items; Receive's closure: the walks. -/
import Derived.Test.YtjhopajhcmkllaaSb
import Derived.Lib.SliceRun
import Derived.Deep.LoopGhost
namespace Go.Proofs.Ytjhopajhcmkllaa
open Go.RowKit
set_option linter.unusedVariables false

section
variable {w w' : World} {base g c : Nat} {l : List It} {u0 u1 u2 u4 : Value}
/-- clear of a row's part: its cells are zero cells. -/
theorem run_clear_it (w : World) (b o n c : Nat) (hn : 0 < n)
    (hc : ∀ j, j < n * 2 → (w.cell? ⟨b, o + j, none⟩).isSome = true) (hf : ∀ j, j < n * 2 → w.frozen? ⟨b, o + j, none⟩ = false) :
    ∃ zs : List Value, zs.length = n * 2 ∧ ∀ ty, (Builtin.clear_ #[22] ty #[.slice (some ⟨b, o, none⟩) n c]).run Try.prog w = .ok (.tuple #[]) (w.setCells b o zs) := by
  have hv : ∀ w, (zeroValue 27).run Try.prog w = .ok (.agg #[.int .i64 0, .slice none 0 0]) w := Try.zeroValue27
  refine ⟨(Builtin.zeroCells #[.int .i64 0, .slice none 0 0] n).toList, by rw [Array.length_toList, size_zeroCells]; rfl, fun ty => ?_⟩
  have hlen : (Builtin.zeroCells #[.int .i64 0, .slice none 0 0] n).toList.length = n * 2 := by rw [Array.length_toList, size_zeroCells]; rfl
  have hst := run_storeCells_cells (P := Try.prog) b o (Builtin.zeroCells #[.int .i64 0, .slice none 0 0] n).toList 0 w (by rw [hlen]; simpa using hc) (by rw [hlen]; simpa using hf) (by
    intro v hv'
    simp [Builtin.zeroCells] at hv'
    obtain ⟨i, _, rfl⟩ := hv'
    have : i % 2 = 0 ∨ i % 2 = 1 := by omega
    rcases this with e | e <;> simp [e] <;> rfl)
  simp only [Nat.add_zero] at hst
  obtain ⟨m, rfl⟩ : ∃ m, n = m + 1 := ⟨n - 1, by omega⟩
  simp [Builtin.clear_, run_underlying Try.underlying22, hv, Value.cells, hst]
theorem Kp.sets7 {b o : Nat} {a w : World} (h : Kp b a w) (vs : List Value) : Kp b a (w.setCells b o vs) := by
  induction vs generalizing o w with
  | nil => exact h
  | cons v vs ih => exact ih (h.set rfl v)
theorem recvF_any (node : Int) (x : It) (B : Nat) (hB : w.heap[B]? = some (.cells #[u0, u1, u2, .int .i64 node, u4] 34 (0, 0))) :
    Calls Try.prog 46 #[.agg #[.int .i64 x.s, .slice x.A x.d.length x.c], .pointer (some ⟨B, 0, none⟩)] w fun e w' => e = .returned (.bool (decide (x.s ≤ node))) ∧ Below w.heap.size w w' := by
  have hW := (Below.refl w.heap.size w).alloc (Nat.le_refl _) (.cells #[.int .i64 x.s, .slice x.A x.d.length x.c] 27)
  have e0 := cell_block (heap_old hB (.cells #[.int .i64 x.s, .slice x.A x.d.length x.c] 27)) 3
  have hne : B ≠ w.heap.size := by have := lt_heap hB; omega
  obtain ⟨b, hb⟩ : ∃ b, decide (x.s ≤ node) = b := ⟨_, rfl⟩
  rw [hb]
  go_enter Try.func46, Try.ntmps46
  go_wp2_with fail
  go_ret
  exact ⟨rfl, hW⟩
/-- Where the first one to the node lies, or that there is none. -/
def IdxI (l : List It) (node : Int) (e : Ending) : Prop := (∃ k, k < l.length ∧ e = .returned (.int .i64 (k : Int)) ∧ (∀ x : It, l[k]? = some x → x.s ≤ node) ∧ ∀ (j : Nat) (x : It), j < k → l[j]? = some x → node < x.s) ∨ (e = .returned (.int .i64 (-1)) ∧ ∀ (j : Nat) (x : It), l[j]? = some x → node < x.s)
set_option maxRecDepth 100000 in
set_option maxHeartbeats 800000 in
theorem indexi_any (node : Int) (B n : Nat) (hB : w.heap[B]? = some (.cells #[u0, u1, u2, .int .i64 node, u4] 34 (0, 0))) (hn : l.length = n) (hl : n ≤ 4096) (h : Iw w base g c l) :
    Calls Try.prog 70 #[.slice (some ⟨g, 0, none⟩) n c, .func (.func 46) #[] #[.pointer (some ⟨B, 0, none⟩)]] w fun e w' => IdxI l node e ∧ Below w.heap.size w w' := by
  have HG := Lib.hid h
  have HB := Lib.hid hB
  have HN := Lib.hid hn
  clear h hB hn
  go_enter Try.func70, Try.ntmps70
  go_wp2_with fail
  go_loopw [5, 8] (fun _ i wr => ∃ j : Nat, j ≤ n ∧ i = .int .i64 (j : Int) ∧ Below w.heap.size w wr ∧ Hid (∀ t x, t < j → l[t]? = some x → node < x.s)) (fun _ i _ => n - (intOf i).toNat)
  case atStart => exact ⟨0, by omega, rfl, Below.refl _ _, Lib.hid (fun t x ht => by omega)⟩
  case round =>
    obtain ⟨j, hj, rfl, hbr, HA⟩ := hrel
    by_cases hlt : j < n
    · obtain ⟨x, hx⟩ : ∃ x, Hid (l[j]? = some x) := ⟨l[j]'(by rw [HN.out]; exact hlt), Lib.hid (List.getElem?_eq_getElem _)⟩
      have hg1 : Iw wr base g c l := HG.out.same (hbr.block g HG.out.lt)
      have x0 := hg1.cell hx.out (j := 0) (by omega)
      have x1 := hg1.cell hx.out (j := 1) (by omega)
      simp only [iC, Nat.add_zero, List.getElem?_cons_zero, List.getElem?_cons_succ] at x0 x1
      clear hg1
      have HC := Lib.hid (recvF_any (w := wr) node x B (heap_below HB.out hbr))
      obtain ⟨b, hb⟩ : ∃ b, Hid (decide (x.s ≤ node) = b) := ⟨_, Lib.hid rfl⟩
      rw [hb.out] at HC
      cases b with
      | true =>
        go_wp2_with fail
        refine HC.out.mono ?_
        rintro e w1 ⟨rfl, hb1⟩
        go_wp2_with fail
        go_ret
        refine ⟨Or.inl ⟨j, by rw [HN.out]; exact hlt, rfl, fun y hy => ?_, HA.out⟩, nxt hbr hb1⟩
        rw [hx.out] at hy
        obtain rfl := Option.some.inj hy
        exact of_decide_eq_true hb.out
      | false =>
        go_wp2_with fail
        refine HC.out.mono ?_
        rintro e w1 ⟨rfl, hb1⟩
        go_wp2_with fail
        go_roundw
        case rel =>
          refine ⟨j + 1, by omega, by go_num, nxt hbr hb1, Lib.hid fun t y ht hy => ?_⟩
          by_cases e : t = j
          · subst e
            rw [hx.out] at hy
            obtain rfl := Option.some.inj hy
            exact Int.not_le.1 (of_decide_eq_false hb.out)
          · exact HA.out t y (by omega) hy
        case measure => simp [intOf]; omega
    · obtain rfl : j = n := by omega
      go_wp2_with fail
      go_ret
      refine ⟨Or.inr ⟨rfl, fun t y hy => HA.out t y ?_ hy⟩, hbr⟩
      have := (List.getElem?_eq_some_iff.1 hy).1
      rw [HN.out] at this
      exact this
/-- Those that are not on their way to the node. -/
def resti (l : List It) (node : Int) : List It := l.filter fun x => !decide (x.s ≤ node)
theorem resti_snoc (l : List It) (node : Int) (j : Nat) (x : It) (hx : l[j]? = some x) : resti (l.take (j + 1)) node = resti (l.take j) node ++ (if x.s ≤ node then [] else [x]) := by
  have hj := (List.getElem?_eq_some_iff.1 hx).1
  have : l.take (j + 1) = l.take j ++ [x] := by
    rw [List.take_succ_eq_append_getElem hj, (List.getElem?_eq_some_iff.1 hx).2]
  unfold resti
  rw [this, List.filter_append]
  congr 1
  by_cases h : x.s ≤ node <;> simp [h]
theorem resti_none (l : List It) (node : Int) (h : ∀ (j : Nat) (x : It), l[j]? = some x → node < x.s) : resti l node = l := by
  unfold resti
  refine List.filter_eq_self.2 fun x hx => ?_
  obtain ⟨j, hj⟩ := List.getElem?_of_mem hx
  simp [h j x hj]
/-- What the row holds while it goes: those kept so far, and from the next place on what it held. -/
structure KeptI (l : List It) (node : Int) (i j : Nat) (L : List It) : Prop where
  lt : i < j
  len : L.length = l.length
  head : L.take i = resti (l.take j) node
  tail : ∀ t, j ≤ t → L[t]? = l[t]?
set_option maxRecDepth 100000 in
set_option maxHeartbeats 3000000 in
theorem delfi_any (node : Int) (B n : Nat) (hBg : B ≠ g) (hB : w.heap[B]? = some (.cells #[u0, u1, u2, .int .i64 node, u4] 34 (0, 0))) (hn : l.length = n) (hl : n ≤ 4096) (h : Iw w base g c l) :
    Calls Try.prog 45 #[.slice (some ⟨g, 0, none⟩) n c, .func (.func 46) #[] #[.pointer (some ⟨B, 0, none⟩)]] w fun e w' => e = .returned (.slice (some ⟨g, 0, none⟩) (resti l node).length c) ∧ Iw w' base g c (resti l node) ∧ Kp g w w' := by
  have hI := indexi_any node B n hB hn hl h
  have hnc : n ≤ c := by have := h.2.1; omega
  have hcm : c ≤ 9223372036854775807 := by have := h.2.2.1; unfold maxLen at this; omega
  have HG := Lib.hid h
  have HB := Lib.hid hB
  have HN := Lib.hid hn
  have HBg := Lib.hid hBg
  clear h hB hn hBg
  go_enter Try.func45, Try.ntmps45
  go_wp2_with fail
  refine hI.mono ?_
  rintro e w1 ⟨⟨k, hk, rfl, hk1, hk2⟩ | ⟨rfl, hk2⟩, hb1⟩
  · rw [HN.out] at hk
    have hne1 : ((k : Int) == -1) = false := beq_eq_false_iff_ne.2 (by omega)
    have hne2 : decide ((k : Int) = -1) = false := decide_eq_false (by omega)
    have HK1 := Lib.hid hk1
    have HK2 := Lib.hid hk2
    clear hk1 hk2 hI
    go_wp2_with fail
    go_loopw [5, 6, 7] (fun i j _ wr => ∃ (a b : Nat) (L : List It), i = .int .i64 (a : Int) ∧ j = .int .i64 (b : Int) ∧ b ≤ n ∧ a < b ∧ Hid (Iw wr base g c L) ∧ Hid (Kp g w wr) ∧ Hid (KeptI l node a b L)) (fun _ j _ _ => n - (intOf j).toNat)
    case atStart =>
      refine ⟨k, k + 1, l, rfl, by go_num, by omega, by omega, Lib.hid (HG.out.same (hb1.block g HG.out.lt)), Lib.hid (Kp.of_below hb1), Lib.hid ⟨by omega, rfl, ?_, fun _ _ => rfl⟩⟩
      have hkl : k < l.length := by rw [HN.out]; exact hk
      rw [resti_snoc l node k l[k] (List.getElem?_eq_getElem hkl), if_pos (HK1.out _ (List.getElem?_eq_getElem hkl)), List.append_nil, resti_none]
      intro j x hx
      have hj := (List.getElem?_eq_some_iff.1 hx).1
      rw [List.length_take] at hj
      rw [List.getElem?_take_of_lt (by omega)] at hx
      exact HK2.out j x (by omega) hx
    case round =>
      obtain ⟨a, b, L, rfl, rfl, hbn, hab, HG1, HKp, HS⟩ := hrel
      by_cases hlt : b < n
      · obtain ⟨x, hx⟩ : ∃ x, Hid (l[b]? = some x) := ⟨l[b]'(by rw [HN.out]; exact hlt), Lib.hid (List.getElem?_eq_getElem _)⟩
        have hLn : L.length = n := HS.out.len.trans HN.out
        have hxL : L[b]? = some x := (HS.out.tail b (Nat.le_refl _)).trans hx.out
        have x0 := HG1.out.cell hxL (j := 0) (by omega)
        have x1 := HG1.out.cell hxL (j := 1) (by omega)
        simp only [iC, Nat.add_zero, List.getElem?_cons_zero, List.getElem?_cons_succ] at x0 x1
        have HLn := Lib.hid hLn
        clear hLn hxL
        have hBw : wr.heap[B]? = some (.cells #[u0, u1, u2, .int .i64 node, u4] 34 (0, 0)) := HKp.out.heap HB.out HBg.out
        have HC := Lib.hid (recvF_any (w := wr.alloc (.cells #[.int .i64 x.s, .slice x.A x.d.length x.c] 27)) node x B (heap_old hBw _))
        clear hBw
        obtain ⟨bb, hb⟩ : ∃ bb, Hid (decide (x.s ≤ node) = bb) := ⟨_, Lib.hid rfl⟩
        rw [hb.out] at HC
        have hq := heap_new wr (.cells #[.int .i64 x.s, .slice x.A x.d.length x.c] 27)
        cases bb with
        | true =>
          go_wp2_with fail
          refine HC.out.mono ?_
          rintro e w2 ⟨rfl, hb2⟩
          go_wp2_with fail
          go_roundw
          case rel =>
            refine ⟨a, b + 1, L, rfl, by go_num, by omega, by omega, Lib.hid (HG1.out.same ?_), Lib.hid (HKp.out.trans (((Kp.refl g wr).alloc _).trans (Kp.of_below hb2))), Lib.hid ⟨by omega, HS.out.len, ?_, fun t ht => HS.out.tail t (by omega)⟩⟩
            · have hgl := HG1.out.lt
              rw [hb2.block g (by simp; omega)]
              obtain ⟨_, _, _, cur, h4, _⟩ := HG1.out
              rw [heap_old h4, h4]
            · rw [resti_snoc l node b x hx.out, if_pos (of_decide_eq_true hb.out), List.append_nil]
              exact HS.out.head
          case measure => simp [intOf]; omega
        | false =>
          have hai : a < L.length := by rw [HLn.out]; omega
          obtain ⟨z, hz⟩ : ∃ z, Hid (L[a]? = some z) := ⟨L[a], Lib.hid (List.getElem?_eq_getElem hai)⟩
          go_wp2_with fail
          refine HC.out.mono ?_
          rintro e w2 ⟨rfl, hb2⟩
          have y0 := cell_block (heap_below hq hb2) 0
          have y1 := cell_block (heap_below hq hb2) 1
          have hG2 : Iw w2 base g c L := HG1.out.same (by
              have hgl := HG1.out.lt
              rw [hb2.block g (by simp; omega)]
              obtain ⟨_, _, _, cur, h4, _⟩ := HG1.out
              rw [heap_old h4, h4])
          have t0 := hG2.cell hz.out (j := 0) (by omega)
          have t1 := hG2.cell hz.out (j := 1) (by omega)
          simp only [iC, Nat.add_zero, List.getElem?_cons_zero, List.getElem?_cons_succ] at t0 t1
          have f0 := hG2.free (a * 2)
          have f1 := hG2.free (a * 2 + 1)
          have HG2 := Lib.hid (hG2.set a hai x)
          have HK2 : Hid (Kp g w (w2.setCells g (a * 2) (iC x))) := Lib.hid ((HKp.out.trans (((Kp.refl g wr).alloc _).trans (Kp.of_below hb2))).sets7 _)
          clear hG2
          go_wp2_with fail
          go_roundw
          case rel =>
            refine ⟨a + 1, b + 1, L.set a x, by go_num, by go_num, by omega, by omega, HG2, HK2, Lib.hid ⟨by omega, by rw [List.length_set]; exact HS.out.len, ?_, fun t ht => ?_⟩⟩
            · rw [resti_snoc l node b x hx.out, if_neg (of_decide_eq_false hb.out), ← HS.out.head, List.take_succ_eq_append_getElem (by simpa using hai), List.take_set_of_le (Nat.le_refl _)]
              simp
            · rw [List.getElem?_set_ne (by omega)]
              exact HS.out.tail t (by omega)
          case measure => simp [intOf]; omega
      · obtain rfl : b = n := by omega
        have hLn : L.length = b := HS.out.len.trans HN.out
        have hH := HS.out.head
        rw [show l.take b = l from List.take_of_length_le (by have := HN.out; omega)] at hH
        have hln : (resti l node).length = a := by rw [← hH, List.length_take]; omega
        have hG3 : Iw wr base g c (resti l node) := by
          rw [← hH]
          exact HG1.out.begin (by rw [List.length_take]; omega) (fun i hi => List.getElem?_take_of_lt (by rw [List.length_take] at hi; omega))
        obtain ⟨zs, hzl, hcl⟩ := run_clear_it wr g (a * 2) (b - a) (c - a) (by omega) (fun t ht => HG1.out.there (by omega)) (fun t ht => HG1.out.free _)
        have HG4 := Lib.hid (hG3.behind zs (a * 2) (by omega))
        have HK4 : Hid (Kp g w (wr.setCells g (a * 2) zs)) := Lib.hid (HKp.out.sets7 zs)
        have HLA := Lib.hid hln
        have hac : a ≤ c := by omega
        clear hG3 hln hH hLn hzl
        go_wp2_with fail
        go_ret
        exact ⟨by rw [HLA.out]; rfl, HG4.out, HK4.out⟩
  · have hr := resti_none l node hk2
    have HR := Lib.hid hr
    clear hr hk2 hI
    go_wp2_with fail
    go_ret
    rw [HR.out, HN.out]
    exact ⟨rfl, HG.out.same (hb1.block g HG.out.lt), Kp.of_below hb1⟩
theorem indexi_nil (w : World) (fv : Value) : Calls Try.prog 70 #[.slice none 0 0, fv] w fun e w' => e = .returned (.int .i64 (-1)) ∧ w = w' := by
  go_enter Try.func70, Try.ntmps70
  go_wp2_with fail
  go_loopw [5, 8] (fun _ i wr => i = .int .i64 0 ∧ w = wr) (fun _ _ _ => 0)
  case atStart => exact ⟨rfl, rfl⟩
  case round =>
    obtain ⟨rfl, rfl⟩ := hrel
    go_wp2_with fail
    go_ret
    exact ⟨rfl, rfl⟩
theorem delfi_nil (w : World) (fv : Value) : Calls Try.prog 45 #[.slice none 0 0, fv] w fun e w' => e = .returned (.slice none 0 0) ∧ w = w' := by
  go_enter Try.func45, Try.ntmps45
  go_wp2_with fail
  refine (indexi_nil _ _).mono ?_
  rintro e w1 ⟨rfl, rfl⟩
  go_wp2_with fail
  go_ret
  exact ⟨rfl, rfl⟩
end
end Go.Proofs.Ytjhopajhcmkllaa
