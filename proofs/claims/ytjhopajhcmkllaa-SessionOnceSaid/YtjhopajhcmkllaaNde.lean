/- Texts Nd, Ne of this seat in one: see each part. -/
import Derived.Lib.SliceRun
import Derived.Deep.LoopGhost
import Derived.Test.YtjhopajhcmkllaaNc
namespace Go.Proofs.Ytjhopajhcmkllaa
open Go.RowKit
set_option linter.unusedVariables false

section
variable {w w' : World} {base g c : Nat} {l : List Gr}
theorem Gw.own' (h : Gw w base g c l) : w.ownsRow base 98 3 (.slice (some ⟨g, 0, none⟩) l.length c) l.length (gCs l) := h.own
/-- clear of a row's part: its cells are zero cells. -/
theorem run_clear_gr (w : World) (b o n c : Nat) (hn : 0 < n)
    (hc : ∀ j, j < n * 3 → (w.cell? ⟨b, o + j, none⟩).isSome = true) (hf : ∀ j, j < n * 3 → w.frozen? ⟨b, o + j, none⟩ = false) :
    ∃ zs : List Value, zs.length = n * 3 ∧ ∀ ty, (Builtin.clear_ #[94] ty #[.slice (some ⟨b, o, none⟩) n c]).run Try.prog w = .ok (.tuple #[]) (w.setCells b o zs) := by
  have hv : ∀ w, (zeroValue 98).run Try.prog w = .ok (.agg #[.int .i64 0, .int .i64 0, .string ⟨#[]⟩]) w := Try.zeroValue98
  refine ⟨(Builtin.zeroCells #[.int .i64 0, .int .i64 0, .string ⟨#[]⟩] n).toList, by rw [Array.length_toList, size_zeroCells]; rfl, fun ty => ?_⟩
  have hlen : (Builtin.zeroCells #[.int .i64 0, .int .i64 0, .string ⟨#[]⟩] n).toList.length = n * 3 := by rw [Array.length_toList, size_zeroCells]; rfl
  have hst := run_storeCells_cells (P := Try.prog) b o (Builtin.zeroCells #[.int .i64 0, .int .i64 0, .string ⟨#[]⟩] n).toList 0 w (by rw [hlen]; simpa using hc) (by rw [hlen]; simpa using hf) (by
    intro v hv'
    simp [Builtin.zeroCells] at hv'
    obtain ⟨i, _, rfl⟩ := hv'
    have : i % 3 = 0 ∨ i % 3 = 1 ∨ i % 3 = 2 := by omega
    rcases this with e | e | e <;> simp [e] <;> rfl)
  simp only [Nat.add_zero] at hst
  obtain ⟨m, rfl⟩ : ∃ m, n = m + 1 := ⟨n - 1, by omega⟩
  simp [Builtin.clear_, run_underlying Try.underlying94, hv, Value.cells, hst]
theorem Kp.sets {b o : Nat} {a w : World} (h : Kp b a w) (vs : List Value) : Kp b a (w.setCells b o vs) := by
  induction vs generalizing o w with
  | nil => exact h
  | cons v vs ih => exact ih (h.set rfl v)
set_option maxRecDepth 100000 in
set_option maxHeartbeats 1600000 in
theorem delete_any (n k j : Nat) (hn : l.length = n) (hj : j = k + 1) (hk : k < n) (hl : n ≤ 4096) (h : Gw w base g c l) :
    Calls Try.prog 61 #[.slice (some ⟨g, 0, none⟩) n c, .int .i64 (k : Int), .int .i64 (j : Int)] w fun e w' => e = .returned (.slice (some ⟨g, 0, none⟩) (n - 1) c) ∧ Gw w' base g c (l.eraseIdx k) ∧ Kp g w w' := by
  obtain ⟨i0, hi0, hz0, hz1, hz2⟩ := info_parts gr_info
  have hnc : n ≤ c := by have := h.2.1; omega
  have hcm : c ≤ 9223372036854775807 := by have := h.2.2.1; unfold maxLen at this; omega
  obtain ⟨news, hnews⟩ : ∃ news, Hid (news = gCs (l.drop j)) := ⟨_, Lib.hid rfl⟩
  have hlen : Hid (news.length = (n - j) * 3) := Lib.hid (by rw [hnews.out, gCs_length, List.length_drop, hn])
  obtain ⟨A, hA, hsrc⟩ : ∃ A : Addr, (if c = j then some (⟨g, 0, none⟩ : Addr) else some ⟨g, j * 3, none⟩) = some A ∧ Hid (∀ t u, news[t]? = some u → w.drew.cell? (A.add t) = some u) := by
    by_cases hc : c = j
    · refine ⟨⟨g, 0, none⟩, by simp [hc], Lib.hid fun t u hu => ?_⟩
      have h0 : news.length = 0 := by rw [hlen.out]; omega
      rw [List.length_eq_zero_iff.1 h0] at hu
      simp at hu
    · refine ⟨⟨g, j * 3, none⟩, by simp [hc], Lib.hid fun t u hu => ?_⟩
      have ht : t < (n - j) * 3 := by
        have := (List.getElem?_eq_some_iff.1 hu).1
        rwa [hlen.out] at this
      have e : t = t / 3 * 3 + t % 3 := by omega
      have hlt : j + t / 3 < l.length := by omega
      have h1 : (l.drop j)[t / 3]? = some l[j + t / 3] := by rw [List.getElem?_drop, List.getElem?_eq_getElem hlt]
      rw [hnews.out, e, gCs_at _ (t / 3) (t % 3) _ h1 (by omega)] at hu
      rw [Addr.add_lit, show j * 3 + t = (j + t / 3) * 3 + t % 3 by omega]
      exact (h.cell (List.getElem?_eq_getElem hlt) (by omega)).trans hu
  have s1 : Hid (news.length = (n - j) * 3) := hlen
  have s2 : Hid (∀ u ∈ news, u.oneCell' = true) := Lib.hid (by rw [hnews.out]; exact gCs_ones _)
  have s3 : Hid (∀ t, t < news.length → (w.drew.cell? ⟨g, 0 + k * 3 + t, none⟩).isSome = true ∧ w.drew.frozen? ⟨g, 0 + k * 3 + t, none⟩ = false) := Lib.hid fun t ht => by
    rw [hlen.out] at ht
    exact ⟨h.there (by omega), h.free _⟩
  obtain ⟨W1, hW1⟩ : ∃ W1, Hid (W1 = w.drew.setCells g (0 + k * 3) news) := ⟨_, Lib.hid rfl⟩
  have hG1 : Gw W1 base g c (l.eraseIdx k) := by
    rw [hW1.out, hnews.out, hj, Nat.zero_add]
    exact (show Gw w.drew base g c l from h).move k (by omega)
  have hK1 : Kp g w W1 := by rw [hW1.out]; exact (Kp.refl g w).drew.sets _
  have hle : (l.eraseIdx k).length = n - 1 := by rw [List.length_eraseIdx, if_pos (by omega), hn]
  obtain ⟨zs, hzl, hcl⟩ := run_clear_gr W1 g ((k + (n - j)) * 3) (n - (k + (n - j))) (c - (k + (n - j))) (by omega) (fun t ht => hG1.there (by omega)) (fun t ht => hG1.free _)
  have HG := Lib.hid (hG1.behind zs ((k + (n - j)) * 3) (by omega))
  have HK := Lib.hid (hK1.sets (o := (k + (n - j)) * 3) zs)
  have hic : k ≤ c := by omega
  have hjc : j ≤ c := by omega
  have hjn : j ≤ n := by omega
  have hkn : k + (n - j) ≤ n := by omega
  have hne : ((k : Int) == (j : Int)) = false := beq_eq_false_iff_ne.2 (by omega)
  have hne2 : (k == j) = false := beq_eq_false_iff_ne.2 (by omega)
  have HJ := Lib.hid hj
  have hkj : k < j := by omega
  clear hG1 hK1 hle hzl hlen hnews h hl hn hj
  go_enter Try.func61, Try.ntmps61
  go_wp2_with fail
  go_region_law (refine step_append_room rfl (.tmp 22) (.tmp 25) 94 rfl 98 i0 3 Try.underlying94 hi0 hz1 g 0 k c (by simp [Act.eval, Act.put]) A (n - j) (c - j) news (by simp [Act.eval, Act.put]) s1.out hsrc.out s2.out (by omega) s3.out ?_; rw [← hW1.out])
  go_wp2_with fail
  go_ret
  exact ⟨by rw [show n - 1 = k + (n - j) by have := HJ.out; omega]; rfl, HG.out, HK.out⟩
end
end Go.Proofs.Ytjhopajhcmkllaa
namespace Go.Proofs.Ytjhopajhcmkllaa
open Go.RowKit
set_option linter.unusedVariables false

section
variable {w w' : World} {base q N : Nat} {r r' : Option Nat} {l : List Gr}
def dropL (l : List Gr) (i : Int) : List Gr := if 0 ≤ i then l.eraseIdx i.toNat else l
theorem NtAt.other (h : NtAt w base q r N l) (hq : w'.heap[q]? = w.heap[q]?) (hr : ∀ g, r = some g → w'.heap[g]? = w.heap[g]?) : NtAt w' base q r N l := by
  obtain ⟨v, rfl, h1, h2, h3, h4⟩ := h
  exact ⟨v, rfl, h1, row_kept h2 hr, hq.trans h3, h4⟩
set_option maxRecDepth 100000 in
set_option maxHeartbeats 1600000 in
theorem drop_any (h : NtAt w base q r N l) (i : Int) : Calls Try.prog 30 #[.pointer (some ⟨q, 0, none⟩), .int .i64 i] w fun e w' => e = .returned (.bool (hasB l.length i)) ∧ AfterN w base q r N (dropL l i) w' := by
  have HL := Lib.hid (flies_any h i)
  have HR := Lib.hid (AfterN.same h)
  rcases nth_has l i with ⟨h1, h2⟩ | ⟨k, hk, rfl, h1, h2⟩
  · have e1 : dropL l i = l := by
      unfold dropL
      split
      · rename_i h0
        rw [List.eraseIdx_of_length_le]
        unfold nthG at h2
        rw [if_pos h0] at h2
        exact List.getElem?_eq_none_iff.1 h2
      · rfl
    rw [h1] at HL
    rw [e1, h1]
    clear h e1 h1 h2
    go_enter Try.func30, Try.ntmps30
    go_wp2_with fail
    refine HL.out.mono ?_
    rintro e w1 ⟨rfl, rfl⟩
    go_wp2_with fail
    go_ret
    exact ⟨rfl, HR.out⟩
  · have e1 : dropL l (k : Int) = l.eraseIdx k := by
      unfold dropL
      rw [if_pos (by omega)]
      simp
    rw [h1] at HL
    rw [e1, h1]
    have hlen := h.len
    have hok := h.ok
    obtain ⟨u, rfl, hb, ho, hh, -⟩ := id h
    rcases row_form ho with ⟨rfl, rfl⟩ | ⟨g, cu, rfl, hg⟩
    · simp at hk
    have hle : (l.eraseIdx k).length = l.length - 1 := by rw [List.length_eraseIdx, if_pos hk]
    have HD := Lib.hid (delete_any l.length k (k + 1) rfl rfl hk hlen hg)
    obtain ⟨⟨c0, c1, c2⟩, ⟨f0, f1, f2⟩⟩ := box3 hh
    have hgq : q ≠ g := fun e => row_ne ho hh (by decide) (by rw [e]; rfl)
    clear h e1 h1 h2
    go_enter Try.func30, Try.ntmps30
    go_wp2_with fail
    refine HL.out.mono ?_
    rintro e w1 ⟨rfl, rfl⟩
    go_wp2_with fail
    refine HD.out.mono ?_
    rintro e w1 ⟨rfl, hG, hK⟩
    have hh1 := hK.heap hh hgq
    obtain ⟨⟨z0, z1, z2⟩, ⟨g0, g1, g2⟩⟩ := box3 hh1
    go_wp2_with fail
    go_ret
    have hG2 : Gw (w1.setCell ⟨q, 2, none⟩ (.slice (some ⟨g, 0, none⟩) (l.length - 1) cu)) base g cu (l.eraseIdx k) := hG.same (Below.heap_setCell _ _ _ _ (fun e => hgq e.symm))
    have ho2 := hG2.own
    rw [hle] at ho2
    refine ⟨rfl, some g, ⟨.slice (some ⟨g, 0, none⟩) (l.length - 1) cu, rfl, hb, by rw [hle]; exact ho2, heap_set hh1 2 _, fun x hx => hok x (List.mem_of_mem_eraseIdx hx), by omega⟩, ?_, .inl rfl⟩
    exact (show Kr q (some g) w w1 from ⟨hK.os, hK.tape, hK.output, hK.size, fun j hj _ hr => hK.block j hj (fun e => hr e.symm)⟩).set 2 _
def TakeP (w : World) (base q : Nat) (r : Option Nat) (N : Nat) (l : List Gr) (i : Int) (e : Ending) (w' : World) : Prop := AfterN w base q r N (dropL l i) w' ∧
  match nthG l i with
  | none => e = .returned (.tuple #[.agg #[.int .i64 0, .int .i64 0, .slice none 0 0], .bool false])
  | some g => ∃ b c cur fr, e = .returned (.tuple #[.agg #[.int .i64 g.fr, .int .i64 g.to, .slice (some ⟨b, 0, none⟩) g.d.length c], .bool true]) ∧ w.heap.size ≤ b ∧ w'.heap[b]? = some (.cells cur 5 fr) ∧ Bs w' (.slice (some ⟨b, 0, none⟩) g.d.length c) g.d ∧ ∀ j, j < g.d.length → w'.frozen? ⟨b, j, none⟩ = false
theorem set3 {g : Nat} {y0 y1 y2 : Value} {T : TypeId} {fr : Nat × Nat} (h : w.heap[g]? = some (.cells #[y0, y1, y2] T fr)) (z0 z1 z2 : Value) :
    (((w.setCell ⟨g, 0, none⟩ z0).setCell ⟨g, 1, none⟩ z1).setCell ⟨g, 2, none⟩ z2).heap[g]? = some (.cells #[z0, z1, z2] T fr) :=
  heap_set (heap_set (heap_set h 0 z0) 1 z1) 2 z2
theorem other3 {g k : Nat} (hk : k ≠ g) (z0 z1 z2 : Value) : (((w.setCell ⟨g, 0, none⟩ z0).setCell ⟨g, 1, none⟩ z1).setCell ⟨g, 2, none⟩ z2).heap[k]? = w.heap[k]? :=
  ((Below.heap_setCell _ _ _ _ hk).trans (Below.heap_setCell _ _ _ _ hk)).trans (Below.heap_setCell _ _ _ _ hk)
set_option maxRecDepth 100000 in
set_option maxHeartbeats 1600000 in
theorem take_any (h : NtAt w base q r N l) (i : Int) : Calls Try.prog 27 #[.pointer (some ⟨q, 0, none⟩), .int .i64 i] w fun e w' => TakeP w base q r N l i e w' := by
  have hlt := h.lt
  have hW := (Below.refl w.heap.size w).alloc (Nat.le_refl _) (.cells #[.int .i64 0, .int .i64 0, .slice none 0 0] 65)
  have q0 := heap_new w (.cells #[.int .i64 0, .int .i64 0, .slice none 0 0] 65)
  have hL := look_any (h.below hW) i
  have HH := Lib.hid h
  clear h
  go_enter Try.func27, Try.ntmps27
  go_wp2_with fail
  refine hL.mono ?_
  rintro e w1 ⟨hb1, he⟩
  have hbW := nxt hW hb1
  have q1 := heap_below q0 hb1
  have s1 := lt_heap q1
  obtain ⟨x, hx⟩ : ∃ x, Hid (nthG l i = x) := ⟨_, Lib.hid rfl⟩
  rw [hx.out] at he
  have hlt1 : q < w1.heap.size := Nat.lt_of_lt_of_le hlt hbW.size
  have key : ∀ (y0 y1 y2 : Value) (w4 : World) (r4 : Option Nat), NtAt w4 base q r4 N (dropL l i) → Kr q r (w1.alloc (.cells #[y0, y1, y2] 65)) w4 → Rw (w1.alloc (.cells #[y0, y1, y2] 65)) r r4 →
      (w4.heap[w.heap.size]? = some (.cells #[.int .i64 0, .int .i64 0, .slice none 0 0] 65 (0, 0)) ∧ w4.heap[w1.heap.size]? = some (.cells #[y0, y1, y2] 65 (0, 0))) ∧
      Hid (AfterN w base q r N (dropL l i) (((w4.setCell ⟨w.heap.size, 0, none⟩ y0).setCell ⟨w.heap.size, 1, none⟩ y1).setCell ⟨w.heap.size, 2, none⟩ y2)) := by
    intro y0 y1 y2 w4 r4 hn4 hk4 hr4
    have hrl : ∀ g, r = some g → g < w.heap.size := fun g e => (HH.out.row_lt e).2
    have m1 : w4.heap[w.heap.size]? = some (.cells #[.int .i64 0, .int .i64 0, .slice none 0 0] 65 (0, 0)) := hk4.heap (heap_old q1 _) (by omega) (fun e => by have := hrl _ e; omega)
    have m2 : w4.heap[w1.heap.size]? = some (.cells #[y0, y1, y2] 65 (0, 0)) := hk4.heap (heap_new _ _) (by omega) (fun e => by have := hrl _ e; have := hbW.size; omega)
    refine ⟨⟨m1, m2⟩, Lib.hid ⟨r4, hn4.other (other3 (by omega) _ _ _) (fun g e => other3 (fun e2 => hn4.row_ne m1 (by decide) (by rw [e, e2])) _ _ _), ?_, ?_⟩⟩
    · have k1 : Kr q r w (w1.alloc (.cells #[y0, y1, y2] 65)) := (Kr.of_below hbW).alloc _
      have k2 := k1.trans (.inl rfl) hk4
      refine ⟨k2.os, k2.tape, k2.output, ?_, fun k hk hkq hkr => ?_⟩
      · have := k2.size
        simpa [World.setCell] using this
      · rw [other3 (by omega)]
        exact k2.block k hk hkq hkr
    · rcases hr4 with h | ⟨g, h1, h2⟩
      · exact .inl h
      · exact .inr ⟨g, h1, by have := hbW.size; simp at h2; omega⟩
  cases x with
  | none =>
    obtain rfl := he
    go_wp2_with fail
    have h3 := (HH.out.below hbW).below ((Below.refl w1.heap.size w1).alloc (Nat.le_refl _) (.cells #[.int .i64 0, .int .i64 0, .slice none 0 0] 65))
    refine (drop_any h3 i).mono ?_
    rintro e w4 ⟨rfl, r4, hn4, hk4, hr4⟩
    obtain ⟨⟨m1, m2⟩, HK⟩ := key _ _ _ w4 r4 hn4 hk4 hr4
    obtain ⟨-, ⟨f0, f1, f2⟩⟩ := box3 m1
    obtain ⟨⟨x0, x1, x2⟩, -⟩ := box3 m2
    obtain ⟨⟨t0, t1, t2⟩, -⟩ := box3 m1
    obtain ⟨⟨z0, z1, z2⟩, -⟩ := box3 (set3 m1 (.int .i64 0) (.int .i64 0) (.slice none 0 0))
    go_wp2_with fail
    refine bodyPost_ret (v := .tuple #[.agg #[.int .i64 0, .int .i64 0, .slice none 0 0], .bool false]) (by simp [results, Try.results27, go_sem, z0, z1, z2]) rfl ?_
    unfold TakeP
    rw [hx.out]
    exact ⟨HK.out, rfl⟩
  | some x =>
    obtain ⟨b, c, cur, fr, rfl, hbl, hbh, hbs, hfr⟩ := he
    go_wp2_with fail
    have h3 := (HH.out.below hbW).below ((Below.refl w1.heap.size w1).alloc (Nat.le_refl _) (.cells #[.int .i64 x.fr, .int .i64 x.to, .slice (some ⟨b, 0, none⟩) x.d.length c] 65))
    have hbl2 : w.heap.size ≤ b := by have := hW.size; omega
    refine (drop_any h3 i).mono ?_
    rintro e w4 ⟨rfl, r4, hn4, hk4, hr4⟩
    obtain ⟨⟨m1, m2⟩, HK⟩ := key _ _ _ w4 r4 hn4 hk4 hr4
    have hne : b ≠ w.heap.size := by
      rintro rfl
      rw [q1] at hbh
      simp at hbh
    have hb4 : w4.heap[b]? = some (.cells cur 5 fr) := hk4.heap (heap_old hbh _) (by omega) (fun e => by have := (HH.out.row_lt e).2; omega)
    have hb5 : (((w4.setCell ⟨w.heap.size, 0, none⟩ (.int .i64 x.fr)).setCell ⟨w.heap.size, 1, none⟩ (.int .i64 x.to)).setCell ⟨w.heap.size, 2, none⟩ (.slice (some ⟨b, 0, none⟩) x.d.length c)).heap[b]? = w1.heap[b]? := by
      rw [other3 hne, hb4, hbh]
    have HB5 := Lib.hid hb5
    have HBH := Lib.hid hbh
    have HBS := Lib.hid hbs
    have HFR := Lib.hid hfr
    obtain ⟨⟨t0, t1, t2⟩, ⟨f0, f1, f2⟩⟩ := box3 m1
    obtain ⟨⟨x0, x1, x2⟩, -⟩ := box3 m2
    obtain ⟨⟨z0, z1, z2⟩, -⟩ := box3 (set3 m1 (.int .i64 x.fr) (.int .i64 x.to) (.slice (some ⟨b, 0, none⟩) x.d.length c))
    clear hb4 hb5 hbh hbs hfr m1 m2 hn4 hk4 hr4
    go_wp2_with fail
    refine bodyPost_ret (v := .tuple #[.agg #[.int .i64 x.fr, .int .i64 x.to, .slice (some ⟨b, 0, none⟩) x.d.length c], .bool true]) (by simp [results, Try.results27, go_sem, z0, z1, z2]) rfl ?_
    unfold TakeP
    rw [hx.out]
    refine ⟨HK.out, b, c, cur, fr, rfl, hbl2, HB5.out.trans HBH.out, ?_, fun j hj => ?_⟩
    · obtain ⟨⟨A, c', h1, h2, h3⟩, h4⟩ := HBS.out
      refine ⟨⟨A, c', h1, h2, fun hn => ?_⟩, h4⟩
      obtain ⟨b', o, k1, k2, k3⟩ := h3 hn
      injection h1 with h1 _ _
      subst h1
      injection k1 with k1
      injection k1 with k1 k1'
      subst k1 k1'
      exact ⟨b, 0, rfl, lt_heap (HB5.out.trans HBH.out), fun i u hi => (cell_heap HB5.out).trans (k3 i u hi)⟩
    · have := HFR.out j hj
      unfold World.frozen? at this ⊢
      dsimp only at this ⊢
      rw [HB5.out]
      exact this
end
end Go.Proofs.Ytjhopajhcmkllaa
