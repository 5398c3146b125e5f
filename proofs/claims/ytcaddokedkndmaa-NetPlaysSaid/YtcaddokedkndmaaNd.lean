/- slices.Delete, IndexFunc, DeleteFunc at drover/net's rows of datagrams; Forget's closure: the walks. -/
import Derived.Test.YtcaddokedkndmaaNc
import Derived.Lib.SliceRun
import Derived.Deep.LoopGhost
namespace Go.Proofs.Ytcaddokedkndmaa
open Go.RowKit
set_option linter.unusedVariables false

section
variable {w w' : World} {base g c : Nat} {l : List Gr}
theorem Gw.own' (h : Gw w base g c l) : w.ownsRow base 67 3 (.slice (some ⟨g, 0, none⟩) l.length c) l.length (gCs l) := h.own
/-- clear of a row's part: its cells are zero cells. -/
theorem run_clear_gr (w : World) (b o n c : Nat) (hn : 0 < n)
    (hc : ∀ j, j < n * 3 → (w.cell? ⟨b, o + j, none⟩).isSome = true) (hf : ∀ j, j < n * 3 → w.frozen? ⟨b, o + j, none⟩ = false) :
    ∃ zs : List Value, zs.length = n * 3 ∧ ∀ ty, (Builtin.clear_ #[52] ty #[.slice (some ⟨b, o, none⟩) n c]).run Try.prog w = .ok (.tuple #[]) (w.setCells b o zs) := by
  have hv : ∀ w, (zeroValue 67).run Try.prog w = .ok (.agg #[.int .i64 0, .int .i64 0, .string ⟨#[]⟩]) w := Try.zeroValue67
  refine ⟨(Builtin.zeroCells #[.int .i64 0, .int .i64 0, .string ⟨#[]⟩] n).toList, by rw [Array.length_toList, size_zeroCells]; rfl, fun ty => ?_⟩
  have hlen : (Builtin.zeroCells #[.int .i64 0, .int .i64 0, .string ⟨#[]⟩] n).toList.length = n * 3 := by rw [Array.length_toList, size_zeroCells]; rfl
  have hst := run_storeCells_cells (P := Try.prog) b o (Builtin.zeroCells #[.int .i64 0, .int .i64 0, .string ⟨#[]⟩] n).toList 0 w (by rw [hlen]; simpa using hc) (by rw [hlen]; simpa using hf) (by
    intro v hv'
    simp [Builtin.zeroCells] at hv'
    obtain ⟨i, _, rfl⟩ := hv'
    have : i % 3 = 0 ∨ i % 3 = 1 ∨ i % 3 = 2 := by omega
    rcases this with e | e | e <;> simp [e] <;> rfl)
  simp only [Nat.add_zero] at hst
  obtain ⟨m, rfl⟩ : ∃ m, n = m + 1 := ⟨n - 1, by omega⟩
  simp [Builtin.clear_, run_underlying Try.underlying52, hv, Value.cells, hst]
theorem Kp.sets {b o : Nat} {a w : World} (h : Kp b a w) (vs : List Value) : Kp b a (w.setCells b o vs) := by
  induction vs generalizing o w with
  | nil => exact h
  | cons v vs ih => exact ih (h.set rfl v)
set_option maxRecDepth 100000 in
set_option maxHeartbeats 1600000 in
theorem delete_any (n k j : Nat) (hn : l.length = n) (hj : j = k + 1) (hk : k < n) (hl : n ≤ 4096) (h : Gw w base g c l) :
    Calls Try.prog 34 #[.slice (some ⟨g, 0, none⟩) n c, .int .i64 (k : Int), .int .i64 (j : Int)] w fun e w' => e = .returned (.slice (some ⟨g, 0, none⟩) (n - 1) c) ∧ Gw w' base g c (l.eraseIdx k) ∧ Kp g w w' := by
  obtain ⟨i0, hi0, hz0, hz1, hz2⟩ := info_parts gr_info
  have hnc : n ≤ c := by have := h.2.1; omega
  have hcm : c ≤ 9223372036854775807 := by have := h.2.2.1; unfold maxLen at this; omega
  obtain ⟨news, hnews⟩ : ∃ news, Hid (news = gCs (l.drop j)) := ⟨_, Lib.hid rfl⟩
  have hlen : Hid (news.length = (n - j) * 3) := Lib.hid (by rw [hnews.out, gCs_length, List.length_drop, hn])
  obtain ⟨A, hA, hsrc⟩ : ∃ A : Addr, (if c = j then some (⟨g, 0, none⟩ : Addr) else some ⟨g, j * 3, none⟩) = some A ∧ Hid (∀ t u, news[t]? = some u → w.drew.cell? (A.add t) = some u) := by
    by_cases hc : c = j
    · refine ⟨⟨g, 0, none⟩, by simp [hc], Lib.hid fun t u hu => ?_⟩
      have h0 : news.length = 0 := by rw [hlen.out]; omega
      rw [List.length_eq_zero_iff.1 h0] at hu
      simp at hu
    · refine ⟨⟨g, j * 3, none⟩, by simp [hc], Lib.hid fun t u hu => ?_⟩
      have ht : t < (n - j) * 3 := by
        have := (List.getElem?_eq_some_iff.1 hu).1
        rwa [hlen.out] at this
      have e : t = t / 3 * 3 + t % 3 := by omega
      have hlt : j + t / 3 < l.length := by omega
      have h1 : (l.drop j)[t / 3]? = some l[j + t / 3] := by rw [List.getElem?_drop, List.getElem?_eq_getElem hlt]
      rw [hnews.out, e, gCs_at _ (t / 3) (t % 3) _ h1 (by omega)] at hu
      rw [Addr.add_lit, show j * 3 + t = (j + t / 3) * 3 + t % 3 by omega]
      exact (h.cell (List.getElem?_eq_getElem hlt) (by omega)).trans hu
  have s1 : Hid (news.length = (n - j) * 3) := hlen
  have s2 : Hid (∀ u ∈ news, u.oneCell' = true) := Lib.hid (by rw [hnews.out]; exact gCs_ones _)
  have s3 : Hid (∀ t, t < news.length → (w.drew.cell? ⟨g, 0 + k * 3 + t, none⟩).isSome = true ∧ w.drew.frozen? ⟨g, 0 + k * 3 + t, none⟩ = false) := Lib.hid fun t ht => by
    rw [hlen.out] at ht
    exact ⟨h.there (by omega), h.free _⟩
  obtain ⟨W1, hW1⟩ : ∃ W1, Hid (W1 = w.drew.setCells g (0 + k * 3) news) := ⟨_, Lib.hid rfl⟩
  have hG1 : Gw W1 base g c (l.eraseIdx k) := by
    rw [hW1.out, hnews.out, hj, Nat.zero_add]
    exact (show Gw w.drew base g c l from h).move k (by omega)
  have hK1 : Kp g w W1 := by rw [hW1.out]; exact (Kp.refl g w).drew.sets _
  have hle : (l.eraseIdx k).length = n - 1 := by rw [List.length_eraseIdx, if_pos (by omega), hn]
  obtain ⟨zs, hzl, hcl⟩ := run_clear_gr W1 g ((k + (n - j)) * 3) (n - (k + (n - j))) (c - (k + (n - j))) (by omega) (fun t ht => hG1.there (by omega)) (fun t ht => hG1.free _)
  have HG := Lib.hid (hG1.behind zs ((k + (n - j)) * 3) (by omega))
  have HK := Lib.hid (hK1.sets (o := (k + (n - j)) * 3) zs)
  have hic : k ≤ c := by omega
  have hjc : j ≤ c := by omega
  have hjn : j ≤ n := by omega
  have hkn : k + (n - j) ≤ n := by omega
  have hne : ((k : Int) == (j : Int)) = false := beq_eq_false_iff_ne.2 (by omega)
  have hne2 : (k == j) = false := beq_eq_false_iff_ne.2 (by omega)
  have HJ := Lib.hid hj
  have hkj : k < j := by omega
  clear hG1 hK1 hle hzl hlen hnews h hl hn hj
  go_enter Try.func34, Try.ntmps34
  go_wp2_with fail
  go_region_law (refine step_append_room rfl (.tmp 22) (.tmp 25) 52 rfl 67 i0 3 Try.underlying52 hi0 hz1 g 0 k c (by simp [Act.eval, Act.put]) A (n - j) (c - j) news (by simp [Act.eval, Act.put]) s1.out hsrc.out s2.out (by omega) s3.out ?_; rw [← hW1.out])
  go_wp2_with fail
  go_ret
  exact ⟨by rw [show n - 1 = k + (n - j) by have := HJ.out; omega]; rfl, HG.out, HK.out⟩
theorem forgetF_any (node : Int) (x : Gr) (B : Nat) (hB : w.heap[B]? = some (.cells #[.int .i64 node] 3 (0, 0))) :
    Calls Try.prog 36 #[.agg #[.int .i64 x.fr, .int .i64 x.to, .string (strOf x.d)], .pointer (some ⟨B, 0, none⟩)] w fun e w' => e = .returned (.bool (decide (x.to = node))) ∧ Below w.heap.size w w' := by
  have hW := (Below.refl w.heap.size w).alloc (Nat.le_refl _) (.cells #[.int .i64 x.fr, .int .i64 x.to, .string (strOf x.d)] 67)
  have e0 := cell_of_one (heap_old hB (.cells #[.int .i64 x.fr, .int .i64 x.to, .string (strOf x.d)] 67))
  have hne : B ≠ w.heap.size := by have := lt_heap hB; omega
  obtain ⟨b, hb⟩ : ∃ b, decide (x.to = node) = b := ⟨_, rfl⟩
  have hb2 : (x.to == node) = b := by rw [← hb]; rfl
  rw [hb]
  go_enter Try.func36, Try.ntmps36
  go_wp2_with fail
  go_ret
  exact ⟨rfl, hW⟩
/-- Where the first one to the node lies, or that there is none. -/
def IdxP (l : List Gr) (node : Int) (e : Ending) : Prop := (∃ k, k < l.length ∧ e = .returned (.int .i64 (k : Int)) ∧ (∀ x : Gr, l[k]? = some x → x.to = node) ∧ ∀ (j : Nat) (x : Gr), j < k → l[j]? = some x → x.to ≠ node) ∨ (e = .returned (.int .i64 (-1)) ∧ ∀ (j : Nat) (x : Gr), l[j]? = some x → x.to ≠ node)
set_option maxRecDepth 100000 in
set_option maxHeartbeats 800000 in
theorem index_any (node : Int) (B n : Nat) (hB : w.heap[B]? = some (.cells #[.int .i64 node] 3 (0, 0))) (hn : l.length = n) (hl : n ≤ 4096) (h : Gw w base g c l) :
    Calls Try.prog 38 #[.slice (some ⟨g, 0, none⟩) n c, .func (.func 36) #[] #[.pointer (some ⟨B, 0, none⟩)]] w fun e w' => IdxP l node e ∧ Below w.heap.size w w' := by
  have HG := Lib.hid h
  have HB := Lib.hid hB
  have HN := Lib.hid hn
  clear h hB hn
  go_enter Try.func38, Try.ntmps38
  go_wp2_with fail
  go_loopw [5, 8] (fun _ i wr => ∃ j : Nat, j ≤ n ∧ i = .int .i64 (j : Int) ∧ Below w.heap.size w wr ∧ Hid (∀ t x, t < j → l[t]? = some x → x.to ≠ node)) (fun _ i _ => n - (intOf i).toNat)
  case atStart => exact ⟨0, by omega, rfl, Below.refl _ _, Lib.hid (fun t x ht => by omega)⟩
  case round =>
    obtain ⟨j, hj, rfl, hbr, HA⟩ := hrel
    by_cases hlt : j < n
    · obtain ⟨x, hx⟩ : ∃ x, Hid (l[j]? = some x) := ⟨l[j]'(by rw [HN.out]; exact hlt), Lib.hid (List.getElem?_eq_getElem _)⟩
      have hg1 : Gw wr base g c l := HG.out.same (hbr.block g HG.out.lt)
      have x0 := hg1.cell hx.out (j := 0) (by omega)
      have x1 := hg1.cell hx.out (j := 1) (by omega)
      have x2 := hg1.cell hx.out (j := 2) (by omega)
      simp only [gC, Nat.add_zero, List.getElem?_cons_zero, List.getElem?_cons_succ] at x0 x1 x2
      clear hg1
      have HC := Lib.hid (forgetF_any (w := wr) node x B (heap_below HB.out hbr))
      obtain ⟨b, hb⟩ : ∃ b, Hid (decide (x.to = node) = b) := ⟨_, Lib.hid rfl⟩
      rw [hb.out] at HC
      cases b with
      | true =>
        go_wp2_with fail
        refine HC.out.mono ?_
        rintro e w1 ⟨rfl, hb1⟩
        go_wp2_with fail
        go_ret
        refine ⟨Or.inl ⟨j, by rw [HN.out]; exact hlt, rfl, fun y hy => ?_, HA.out⟩, nxt hbr hb1⟩
        rw [hx.out] at hy
        obtain rfl := Option.some.inj hy
        exact of_decide_eq_true hb.out
      | false =>
        go_wp2_with fail
        refine HC.out.mono ?_
        rintro e w1 ⟨rfl, hb1⟩
        go_wp2_with fail
        go_roundw
        case rel =>
          refine ⟨j + 1, by omega, by go_num, nxt hbr hb1, Lib.hid fun t y ht hy => ?_⟩
          by_cases e : t = j
          · subst e
            rw [hx.out] at hy
            obtain rfl := Option.some.inj hy
            exact of_decide_eq_false hb.out
          · exact HA.out t y (by omega) hy
        case measure => simp [intOf]; omega
    · obtain rfl : j = n := by omega
      go_wp2_with fail
      go_ret
      refine ⟨Or.inr ⟨rfl, fun t y hy => HA.out t y ?_ hy⟩, hbr⟩
      have := (List.getElem?_eq_some_iff.1 hy).1
      rw [HN.out] at this
      exact this
/-- Those that are not on their way to the node. -/
def rest (l : List Gr) (node : Int) : List Gr := l.filter fun x => !decide (x.to = node)
theorem rest_snoc (l : List Gr) (node : Int) (j : Nat) (x : Gr) (hx : l[j]? = some x) : rest (l.take (j + 1)) node = rest (l.take j) node ++ (if x.to = node then [] else [x]) := by
  have hj := (List.getElem?_eq_some_iff.1 hx).1
  have : l.take (j + 1) = l.take j ++ [x] := by
    rw [List.take_succ_eq_append_getElem hj, (List.getElem?_eq_some_iff.1 hx).2]
  unfold rest
  rw [this, List.filter_append]
  congr 1
  by_cases h : x.to = node <;> simp [h]
theorem rest_none (l : List Gr) (node : Int) (h : ∀ (j : Nat) (x : Gr), l[j]? = some x → x.to ≠ node) : rest l node = l := by
  unfold rest
  refine List.filter_eq_self.2 fun x hx => ?_
  obtain ⟨j, hj⟩ := List.getElem?_of_mem hx
  simp [h j x hj]
/-- What the row holds while it goes: those kept so far, and from the next place on what it held. -/
structure KeptS (l : List Gr) (node : Int) (i j : Nat) (L : List Gr) : Prop where
  lt : i < j
  len : L.length = l.length
  head : L.take i = rest (l.take j) node
  tail : ∀ t, j ≤ t → L[t]? = l[t]?
set_option maxRecDepth 100000 in
set_option maxHeartbeats 3000000 in
theorem delf_any (node : Int) (B n : Nat) (hBg : B ≠ g) (hB : w.heap[B]? = some (.cells #[.int .i64 node] 3 (0, 0))) (hn : l.length = n) (hl : n ≤ 4096) (h : Gw w base g c l) :
    Calls Try.prog 35 #[.slice (some ⟨g, 0, none⟩) n c, .func (.func 36) #[] #[.pointer (some ⟨B, 0, none⟩)]] w fun e w' => e = .returned (.slice (some ⟨g, 0, none⟩) (rest l node).length c) ∧ Gw w' base g c (rest l node) ∧ Kp g w w' := by
  have hI := index_any node B n hB hn hl h
  have hnc : n ≤ c := by have := h.2.1; omega
  have hcm : c ≤ 9223372036854775807 := by have := h.2.2.1; unfold maxLen at this; omega
  have HG := Lib.hid h
  have HB := Lib.hid hB
  have HN := Lib.hid hn
  have HBg := Lib.hid hBg
  clear h hB hn hBg
  go_enter Try.func35, Try.ntmps35
  go_wp2_with fail
  refine hI.mono ?_
  rintro e w1 ⟨⟨k, hk, rfl, hk1, hk2⟩ | ⟨rfl, hk2⟩, hb1⟩
  · rw [HN.out] at hk
    have hne1 : ((k : Int) == -1) = false := beq_eq_false_iff_ne.2 (by omega)
    have hne2 : decide ((k : Int) = -1) = false := decide_eq_false (by omega)
    have HK1 := Lib.hid hk1
    have HK2 := Lib.hid hk2
    clear hk1 hk2 hI
    go_wp2_with fail
    go_loopw [5, 6, 7] (fun i j _ wr => ∃ (a b : Nat) (L : List Gr), i = .int .i64 (a : Int) ∧ j = .int .i64 (b : Int) ∧ b ≤ n ∧ a < b ∧ Hid (Gw wr base g c L) ∧ Hid (Kp g w wr) ∧ Hid (KeptS l node a b L)) (fun _ j _ _ => n - (intOf j).toNat)
    case atStart =>
      refine ⟨k, k + 1, l, rfl, by go_num, by omega, by omega, Lib.hid (HG.out.same (hb1.block g HG.out.lt)), Lib.hid (Kp.of_below hb1), Lib.hid ⟨by omega, rfl, ?_, fun _ _ => rfl⟩⟩
      have hkl : k < l.length := by rw [HN.out]; exact hk
      rw [rest_snoc l node k l[k] (List.getElem?_eq_getElem hkl), if_pos (HK1.out _ (List.getElem?_eq_getElem hkl)), List.append_nil, rest_none]
      intro j x hx
      have hj := (List.getElem?_eq_some_iff.1 hx).1
      rw [List.length_take] at hj
      rw [List.getElem?_take_of_lt (by omega)] at hx
      exact HK2.out j x (by omega) hx
    case round =>
      obtain ⟨a, b, L, rfl, rfl, hbn, hab, HG1, HKp, HS⟩ := hrel
      by_cases hlt : b < n
      · obtain ⟨x, hx⟩ : ∃ x, Hid (l[b]? = some x) := ⟨l[b]'(by rw [HN.out]; exact hlt), Lib.hid (List.getElem?_eq_getElem _)⟩
        have hLn : L.length = n := HS.out.len.trans HN.out
        have hxL : L[b]? = some x := (HS.out.tail b (Nat.le_refl _)).trans hx.out
        have x0 := HG1.out.cell hxL (j := 0) (by omega)
        have x1 := HG1.out.cell hxL (j := 1) (by omega)
        have x2 := HG1.out.cell hxL (j := 2) (by omega)
        simp only [gC, Nat.add_zero, List.getElem?_cons_zero, List.getElem?_cons_succ] at x0 x1 x2
        have HLn := Lib.hid hLn
        clear hLn hxL
        have hBw : wr.heap[B]? = some (.cells #[.int .i64 node] 3 (0, 0)) := HKp.out.heap HB.out HBg.out
        have HC := Lib.hid (forgetF_any (w := wr.alloc (.cells #[.int .i64 x.fr, .int .i64 x.to, .string (strOf x.d)] 67)) node x B (heap_old hBw _))
        clear hBw
        obtain ⟨bb, hb⟩ : ∃ bb, Hid (decide (x.to = node) = bb) := ⟨_, Lib.hid rfl⟩
        rw [hb.out] at HC
        have hq := heap_new wr (.cells #[.int .i64 x.fr, .int .i64 x.to, .string (strOf x.d)] 67)
        cases bb with
        | true =>
          go_wp2_with fail
          refine HC.out.mono ?_
          rintro e w2 ⟨rfl, hb2⟩
          go_wp2_with fail
          go_roundw
          case rel =>
            refine ⟨a, b + 1, L, rfl, by go_num, by omega, by omega, Lib.hid (HG1.out.same ?_), Lib.hid (HKp.out.trans (((Kp.refl g wr).alloc _).trans (Kp.of_below hb2))), Lib.hid ⟨by omega, HS.out.len, ?_, fun t ht => HS.out.tail t (by omega)⟩⟩
            · have hgl := HG1.out.lt
              rw [hb2.block g (by simp; omega)]
              obtain ⟨_, _, _, cur, h4, _⟩ := HG1.out
              rw [heap_old h4, h4]
            · rw [rest_snoc l node b x hx.out, if_pos (of_decide_eq_true hb.out), List.append_nil]
              exact HS.out.head
          case measure => simp [intOf]; omega
        | false =>
          have hai : a < L.length := by rw [HLn.out]; omega
          obtain ⟨z, hz⟩ : ∃ z, Hid (L[a]? = some z) := ⟨L[a], Lib.hid (List.getElem?_eq_getElem hai)⟩
          go_wp2_with fail
          refine HC.out.mono ?_
          rintro e w2 ⟨rfl, hb2⟩
          obtain ⟨⟨y0, y1, y2⟩, -⟩ := box3 (heap_below hq hb2)
          have hG2 : Gw w2 base g c L := HG1.out.same (by
              have hgl := HG1.out.lt
              rw [hb2.block g (by simp; omega)]
              obtain ⟨_, _, _, cur, h4, _⟩ := HG1.out
              rw [heap_old h4, h4])
          have t0 := hG2.cell hz.out (j := 0) (by omega)
          have t1 := hG2.cell hz.out (j := 1) (by omega)
          have t2 := hG2.cell hz.out (j := 2) (by omega)
          simp only [gC, Nat.add_zero, List.getElem?_cons_zero, List.getElem?_cons_succ] at t0 t1 t2
          have f0 := hG2.free (a * 3)
          have f1 := hG2.free (a * 3 + 1)
          have f2 := hG2.free (a * 3 + 2)
          have HG2 := Lib.hid (hG2.set a hai x)
          have HK2 : Hid (Kp g w (w2.setCells g (a * 3) (gC x))) := Lib.hid ((HKp.out.trans (((Kp.refl g wr).alloc _).trans (Kp.of_below hb2))).sets _)
          clear hG2
          go_wp2_with fail
          go_roundw
          case rel =>
            refine ⟨a + 1, b + 1, L.set a x, by go_num, by go_num, by omega, by omega, HG2, HK2, Lib.hid ⟨by omega, by rw [List.length_set]; exact HS.out.len, ?_, fun t ht => ?_⟩⟩
            · rw [rest_snoc l node b x hx.out, if_neg (of_decide_eq_false hb.out), ← HS.out.head, List.take_succ_eq_append_getElem (by simpa using hai), List.take_set_of_le (Nat.le_refl _)]
              simp
            · rw [List.getElem?_set_ne (by omega)]
              exact HS.out.tail t (by omega)
          case measure => simp [intOf]; omega
      · obtain rfl : b = n := by omega
        have hLn : L.length = b := HS.out.len.trans HN.out
        have hH := HS.out.head
        rw [show l.take b = l from List.take_of_length_le (by have := HN.out; omega)] at hH
        have hln : (rest l node).length = a := by rw [← hH, List.length_take]; omega
        have hG3 : Gw wr base g c (rest l node) := by
          rw [← hH]
          exact HG1.out.begin (by rw [List.length_take]; omega) (fun i hi => List.getElem?_take_of_lt (by rw [List.length_take] at hi; omega))
        obtain ⟨zs, hzl, hcl⟩ := run_clear_gr wr g (a * 3) (b - a) (c - a) (by omega) (fun t ht => HG1.out.there (by omega)) (fun t ht => HG1.out.free _)
        have HG4 := Lib.hid (hG3.behind zs (a * 3) (by omega))
        have HK4 : Hid (Kp g w (wr.setCells g (a * 3) zs)) := Lib.hid (HKp.out.sets zs)
        have HLA := Lib.hid hln
        have hac : a ≤ c := by omega
        clear hG3 hln hH hLn hzl
        go_wp2_with fail
        go_ret
        exact ⟨by rw [HLA.out]; rfl, HG4.out, HK4.out⟩
  · have hr := rest_none l node hk2
    have HR := Lib.hid hr
    clear hr hk2 hI
    go_wp2_with fail
    go_ret
    rw [HR.out, HN.out]
    exact ⟨rfl, HG.out.same (hb1.block g HG.out.lt), Kp.of_below hb1⟩
end
end Go.Proofs.Ytcaddokedkndmaa
