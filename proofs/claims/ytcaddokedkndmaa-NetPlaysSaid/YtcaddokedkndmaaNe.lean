/- drover/net's Drop, Take, Forget: the walks. -/
import Derived.Test.YtcaddokedkndmaaNd
namespace Go.Proofs.Ytcaddokedkndmaa
open Go.RowKit
set_option linter.unusedVariables false

section
variable {w w' : World} {base q N : Nat} {r r' : Option Nat} {l : List Gr}
def dropL (l : List Gr) (i : Int) : List Gr := if 0 ≤ i then l.eraseIdx i.toNat else l
theorem NtAt.other (h : NtAt w base q r N l) (hq : w'.heap[q]? = w.heap[q]?) (hr : ∀ g, r = some g → w'.heap[g]? = w.heap[g]?) : NtAt w' base q r N l := by
  obtain ⟨v, rfl, h1, h2, h3, h4⟩ := h
  exact ⟨v, rfl, h1, row_kept h2 hr, hq.trans h3, h4⟩
set_option maxRecDepth 100000 in
set_option maxHeartbeats 1600000 in
theorem drop_any (h : NtAt w base q r N l) (i : Int) : Calls Try.prog 14 #[.pointer (some ⟨q, 0, none⟩), .int .i64 i] w fun e w' => e = .returned (.bool (hasB l.length i)) ∧ AfterN w base q r N (dropL l i) w' := by
  have HL := Lib.hid (flies_any h i)
  have HR := Lib.hid (AfterN.same h)
  rcases nth_has l i with ⟨h1, h2⟩ | ⟨k, hk, rfl, h1, h2⟩
  · have e1 : dropL l i = l := by
      unfold dropL
      split
      · rename_i h0
        rw [List.eraseIdx_of_length_le]
        unfold nthG at h2
        rw [if_pos h0] at h2
        exact List.getElem?_eq_none_iff.1 h2
      · rfl
    rw [h1] at HL
    rw [e1, h1]
    clear h e1 h1 h2
    go_enter Try.func14, Try.ntmps14
    go_wp2_with fail
    refine HL.out.mono ?_
    rintro e w1 ⟨rfl, rfl⟩
    go_wp2_with fail
    go_ret
    exact ⟨rfl, HR.out⟩
  · have e1 : dropL l (k : Int) = l.eraseIdx k := by
      unfold dropL
      rw [if_pos (by omega)]
      simp
    rw [h1] at HL
    rw [e1, h1]
    have hlen := h.len
    have hok := h.ok
    obtain ⟨u, rfl, hb, ho, hh, -⟩ := id h
    rcases row_form ho with ⟨rfl, rfl⟩ | ⟨g, cu, rfl, hg⟩
    · simp at hk
    have hle : (l.eraseIdx k).length = l.length - 1 := by rw [List.length_eraseIdx, if_pos hk]
    have HD := Lib.hid (delete_any l.length k (k + 1) rfl rfl hk hlen hg)
    obtain ⟨⟨c0, c1, c2⟩, ⟨f0, f1, f2⟩⟩ := box3 hh
    have hgq : q ≠ g := fun e => row_ne ho hh (by decide) (by rw [e]; rfl)
    clear h e1 h1 h2
    go_enter Try.func14, Try.ntmps14
    go_wp2_with fail
    refine HL.out.mono ?_
    rintro e w1 ⟨rfl, rfl⟩
    go_wp2_with fail
    refine HD.out.mono ?_
    rintro e w1 ⟨rfl, hG, hK⟩
    have hh1 := hK.heap hh hgq
    obtain ⟨⟨z0, z1, z2⟩, ⟨g0, g1, g2⟩⟩ := box3 hh1
    go_wp2_with fail
    go_ret
    have hG2 : Gw (w1.setCell ⟨q, 2, none⟩ (.slice (some ⟨g, 0, none⟩) (l.length - 1) cu)) base g cu (l.eraseIdx k) := hG.same (Below.heap_setCell _ _ _ _ (fun e => hgq e.symm))
    have ho2 := hG2.own
    rw [hle] at ho2
    refine ⟨rfl, some g, ⟨.slice (some ⟨g, 0, none⟩) (l.length - 1) cu, rfl, hb, by rw [hle]; exact ho2, heap_set hh1 2 _, fun x hx => hok x (List.mem_of_mem_eraseIdx hx), by omega⟩, ?_, .inl rfl⟩
    exact (show Kr q (some g) w w1 from ⟨hK.os, hK.tape, hK.output, hK.size, fun j hj _ hr => hK.block j hj (fun e => hr e.symm)⟩).set 2 _
theorem index_nil (w : World) (fv : Value) : Calls Try.prog 38 #[.slice none 0 0, fv] w fun e w' => e = .returned (.int .i64 (-1)) ∧ w = w' := by
  go_enter Try.func38, Try.ntmps38
  go_wp2_with fail
  go_loopw [5, 8] (fun _ i wr => i = .int .i64 0 ∧ w = wr) (fun _ _ _ => 0)
  case atStart => exact ⟨rfl, rfl⟩
  case round =>
    obtain ⟨rfl, rfl⟩ := hrel
    go_wp2_with fail
    go_ret
    exact ⟨rfl, rfl⟩
theorem delf_nil (w : World) (fv : Value) : Calls Try.prog 35 #[.slice none 0 0, fv] w fun e w' => e = .returned (.slice none 0 0) ∧ w = w' := by
  go_enter Try.func35, Try.ntmps35
  go_wp2_with fail
  refine (index_nil _ _).mono ?_
  rintro e w1 ⟨rfl, rfl⟩
  go_wp2_with fail
  go_ret
  exact ⟨rfl, rfl⟩
set_option maxRecDepth 100000 in
set_option maxHeartbeats 1600000 in
theorem forget_any (h : NtAt w base q r N l) (node : Int) : Calls Try.prog 15 #[.pointer (some ⟨q, 0, none⟩), .int .i64 node] w fun e w' => e = .returned (.int .i64 ((l.length - (rest l node).length : Nat) : Int)) ∧ AfterN w base q r N (rest l node) w' := by
  have hW := (Below.refl w.heap.size w).alloc (Nat.le_refl _) (.cells #[.int .i64 node] 3)
  have hB := heap_new w (.cells #[.int .i64 node] 3)
  have hlow := h.low
  have hlt := h.lt
  have HM := Lib.hid (made_any (h.below hW))
  have hlen := h.len
  have hok := h.ok
  have hrl : (rest l node).length ≤ l.length := List.length_filter_le _ _
  obtain ⟨u, rfl, hb, ho, hh, -⟩ := id h
  have hha := heap_old hh (.cells #[.int .i64 node] 3)
  obtain ⟨⟨c0, c1, c2⟩, ⟨f0, f1, f2⟩⟩ := box3 hha
  rcases row_form ho with ⟨rfl, rfl⟩ | ⟨g, cu, rfl, hg⟩
  · clear h
    go_enter Try.func15, Try.ntmps15
    go_wp2_with fail
    refine HM.out.mono ?_
    rintro e w1 ⟨rfl, rfl⟩
    go_wp2_with fail
    refine (delf_nil _ _).mono ?_
    rintro e w1 ⟨rfl, rfl⟩
    have hhz := heap_old (heap_set hh 2 (.slice none 0 0)) (.cells #[.int .i64 node] 3)
    obtain ⟨⟨z0, z1, z2⟩, -⟩ := box3 (show ((w.setCell ⟨q, 2, none⟩ (.slice none 0 0)).alloc (.cells #[.int .i64 node] 3)).heap[q]? = some (.cells #[.pointer (some ⟨q, 0, none⟩), .int .i64 (N : Int), .slice none 0 0] 54 (0, 0)) from hhz)
    go_wp2_with fail
    go_ret
    refine ⟨rfl, none, ⟨.slice none 0 0, rfl, hb, World.ownsRow_nil _ _ _ _, hhz, by simp [rest], by simp [rest]⟩, ((Kr.refl _ _ _).set _ _).alloc _, .inl rfl⟩
  · have hga : Gw (w.alloc (.cells #[.int .i64 node] 3)) base g cu l := hg.same (hW.block g hg.lt)
    have HD := Lib.hid (delf_any node w.heap.size l.length (by have := hg.lt; omega) hB rfl hlen hga)
    have hgq : q ≠ g := fun e => row_ne ho hh (by decide) (by rw [e]; rfl)
    obtain ⟨m, hm⟩ : ∃ m, Hid ((rest l node).length = m) := ⟨_, Lib.hid rfl⟩
    obtain ⟨n, hn⟩ : ∃ n, Hid (l.length = n) := ⟨_, Lib.hid rfl⟩
    rw [hm.out, hn.out] at hrl
    rw [hm.out, hn.out] at HD
    rw [hm.out, hn.out]
    rw [hn.out] at c2 hlen
    clear h hga
    go_enter Try.func15, Try.ntmps15
    go_wp2_with fail
    refine HM.out.mono ?_
    rintro e w1 ⟨rfl, rfl⟩
    go_wp2_with fail
    refine HD.out.mono ?_
    rintro e w1 ⟨rfl, hG, hK⟩
    have hh1 := hK.heap hha hgq
    obtain ⟨⟨z0, z1, z2⟩, ⟨g0, g1, g2⟩⟩ := box3 hh1
    go_wp2_with fail
    go_ret
    have hG2 : Gw (w1.setCell ⟨q, 2, none⟩ (.slice (some ⟨g, 0, none⟩) m cu)) base g cu (rest l node) := hG.same (Below.heap_setCell _ _ _ _ (fun e => hgq e.symm))
    have ho2 := hG2.own
    rw [hm.out] at ho2
    refine ⟨congrArg Ending.returned (congrArg (Value.int .i64) (by omega)), some g, ⟨.slice (some ⟨g, 0, none⟩) m cu, rfl, hb, by rw [hm.out]; exact ho2, heap_set hh1 2 _, fun x hx => hok x (List.mem_filter.1 hx).1, by rw [hm.out]; omega⟩, ?_, .inl rfl⟩
    exact (((Kr.refl q (some g) w).alloc _).trans (.inl rfl) (show Kr q (some g) _ w1 from ⟨hK.os, hK.tape, hK.output, hK.size, fun j hj _ hr => hK.block j hj (fun e => hr e.symm)⟩)).set 2 _
def TakeP (w : World) (base q : Nat) (r : Option Nat) (N : Nat) (l : List Gr) (i : Int) (e : Ending) (w' : World) : Prop := AfterN w base q r N (dropL l i) w' ∧
  match nthG l i with
  | none => e = .returned (.tuple #[.agg #[.int .i64 0, .int .i64 0, .slice none 0 0], .bool false])
  | some g => ∃ b c cur fr, e = .returned (.tuple #[.agg #[.int .i64 g.fr, .int .i64 g.to, .slice (some ⟨b, 0, none⟩) g.d.length c], .bool true]) ∧ w.heap.size ≤ b ∧ w'.heap[b]? = some (.cells cur 5 fr) ∧ Bs w' (.slice (some ⟨b, 0, none⟩) g.d.length c) g.d ∧ ∀ j, j < g.d.length → w'.frozen? ⟨b, j, none⟩ = false
theorem set3 {g : Nat} {y0 y1 y2 : Value} {T : TypeId} {fr : Nat × Nat} (h : w.heap[g]? = some (.cells #[y0, y1, y2] T fr)) (z0 z1 z2 : Value) :
    (((w.setCell ⟨g, 0, none⟩ z0).setCell ⟨g, 1, none⟩ z1).setCell ⟨g, 2, none⟩ z2).heap[g]? = some (.cells #[z0, z1, z2] T fr) :=
  heap_set (heap_set (heap_set h 0 z0) 1 z1) 2 z2
theorem other3 {g k : Nat} (hk : k ≠ g) (z0 z1 z2 : Value) : (((w.setCell ⟨g, 0, none⟩ z0).setCell ⟨g, 1, none⟩ z1).setCell ⟨g, 2, none⟩ z2).heap[k]? = w.heap[k]? :=
  ((Below.heap_setCell _ _ _ _ hk).trans (Below.heap_setCell _ _ _ _ hk)).trans (Below.heap_setCell _ _ _ _ hk)
set_option maxRecDepth 100000 in
set_option maxHeartbeats 1600000 in
theorem take_any (h : NtAt w base q r N l) (i : Int) : Calls Try.prog 20 #[.pointer (some ⟨q, 0, none⟩), .int .i64 i] w fun e w' => TakeP w base q r N l i e w' := by
  have hlt := h.lt
  have hW := (Below.refl w.heap.size w).alloc (Nat.le_refl _) (.cells #[.int .i64 0, .int .i64 0, .slice none 0 0] 29)
  have q0 := heap_new w (.cells #[.int .i64 0, .int .i64 0, .slice none 0 0] 29)
  have hL := look_any (h.below hW) i
  have HH := Lib.hid h
  clear h
  go_enter Try.func20, Try.ntmps20
  go_wp2_with fail
  refine hL.mono ?_
  rintro e w1 ⟨hb1, he⟩
  have hbW := nxt hW hb1
  have q1 := heap_below q0 hb1
  have s1 := lt_heap q1
  obtain ⟨x, hx⟩ : ∃ x, Hid (nthG l i = x) := ⟨_, Lib.hid rfl⟩
  rw [hx.out] at he
  have hlt1 : q < w1.heap.size := Nat.lt_of_lt_of_le hlt hbW.size
  have key : ∀ (y0 y1 y2 : Value) (w4 : World) (r4 : Option Nat), NtAt w4 base q r4 N (dropL l i) → Kr q r (w1.alloc (.cells #[y0, y1, y2] 29)) w4 → Rw (w1.alloc (.cells #[y0, y1, y2] 29)) r r4 →
      (w4.heap[w.heap.size]? = some (.cells #[.int .i64 0, .int .i64 0, .slice none 0 0] 29 (0, 0)) ∧ w4.heap[w1.heap.size]? = some (.cells #[y0, y1, y2] 29 (0, 0))) ∧
      Hid (AfterN w base q r N (dropL l i) (((w4.setCell ⟨w.heap.size, 0, none⟩ y0).setCell ⟨w.heap.size, 1, none⟩ y1).setCell ⟨w.heap.size, 2, none⟩ y2)) := by
    intro y0 y1 y2 w4 r4 hn4 hk4 hr4
    have hrl : ∀ g, r = some g → g < w.heap.size := fun g e => (HH.out.row_lt e).2
    have m1 : w4.heap[w.heap.size]? = some (.cells #[.int .i64 0, .int .i64 0, .slice none 0 0] 29 (0, 0)) := hk4.heap (heap_old q1 _) (by omega) (fun e => by have := hrl _ e; omega)
    have m2 : w4.heap[w1.heap.size]? = some (.cells #[y0, y1, y2] 29 (0, 0)) := hk4.heap (heap_new _ _) (by omega) (fun e => by have := hrl _ e; have := hbW.size; omega)
    refine ⟨⟨m1, m2⟩, Lib.hid ⟨r4, hn4.other (other3 (by omega) _ _ _) (fun g e => other3 (fun e2 => hn4.row_ne m1 (by decide) (by rw [e, e2])) _ _ _), ?_, ?_⟩⟩
    · have k1 : Kr q r w (w1.alloc (.cells #[y0, y1, y2] 29)) := (Kr.of_below hbW).alloc _
      have k2 := k1.trans (.inl rfl) hk4
      refine ⟨k2.os, k2.tape, k2.output, ?_, fun k hk hkq hkr => ?_⟩
      · have := k2.size
        simpa [World.setCell] using this
      · rw [other3 (by omega)]
        exact k2.block k hk hkq hkr
    · rcases hr4 with h | ⟨g, h1, h2⟩
      · exact .inl h
      · exact .inr ⟨g, h1, by have := hbW.size; simp at h2; omega⟩
  cases x with
  | none =>
    obtain rfl := he
    go_wp2_with fail
    have h3 := (HH.out.below hbW).below ((Below.refl w1.heap.size w1).alloc (Nat.le_refl _) (.cells #[.int .i64 0, .int .i64 0, .slice none 0 0] 29))
    refine (drop_any h3 i).mono ?_
    rintro e w4 ⟨rfl, r4, hn4, hk4, hr4⟩
    obtain ⟨⟨m1, m2⟩, HK⟩ := key _ _ _ w4 r4 hn4 hk4 hr4
    obtain ⟨-, ⟨f0, f1, f2⟩⟩ := box3 m1
    obtain ⟨⟨x0, x1, x2⟩, -⟩ := box3 m2
    obtain ⟨⟨t0, t1, t2⟩, -⟩ := box3 m1
    obtain ⟨⟨z0, z1, z2⟩, -⟩ := box3 (set3 m1 (.int .i64 0) (.int .i64 0) (.slice none 0 0))
    go_wp2_with fail
    refine bodyPost_ret (v := .tuple #[.agg #[.int .i64 0, .int .i64 0, .slice none 0 0], .bool false]) (by simp [results, Try.results20, go_sem, z0, z1, z2]) rfl ?_
    unfold TakeP
    rw [hx.out]
    exact ⟨HK.out, rfl⟩
  | some x =>
    obtain ⟨b, c, cur, fr, rfl, hbl, hbh, hbs, hfr⟩ := he
    go_wp2_with fail
    have h3 := (HH.out.below hbW).below ((Below.refl w1.heap.size w1).alloc (Nat.le_refl _) (.cells #[.int .i64 x.fr, .int .i64 x.to, .slice (some ⟨b, 0, none⟩) x.d.length c] 29))
    have hbl2 : w.heap.size ≤ b := by have := hW.size; omega
    refine (drop_any h3 i).mono ?_
    rintro e w4 ⟨rfl, r4, hn4, hk4, hr4⟩
    obtain ⟨⟨m1, m2⟩, HK⟩ := key _ _ _ w4 r4 hn4 hk4 hr4
    have hne : b ≠ w.heap.size := by
      rintro rfl
      rw [q1] at hbh
      simp at hbh
    have hb4 : w4.heap[b]? = some (.cells cur 5 fr) := hk4.heap (heap_old hbh _) (by omega) (fun e => by have := (HH.out.row_lt e).2; omega)
    have hb5 : (((w4.setCell ⟨w.heap.size, 0, none⟩ (.int .i64 x.fr)).setCell ⟨w.heap.size, 1, none⟩ (.int .i64 x.to)).setCell ⟨w.heap.size, 2, none⟩ (.slice (some ⟨b, 0, none⟩) x.d.length c)).heap[b]? = w1.heap[b]? := by
      rw [other3 hne, hb4, hbh]
    have HB5 := Lib.hid hb5
    have HBH := Lib.hid hbh
    have HBS := Lib.hid hbs
    have HFR := Lib.hid hfr
    obtain ⟨⟨t0, t1, t2⟩, ⟨f0, f1, f2⟩⟩ := box3 m1
    obtain ⟨⟨x0, x1, x2⟩, -⟩ := box3 m2
    obtain ⟨⟨z0, z1, z2⟩, -⟩ := box3 (set3 m1 (.int .i64 x.fr) (.int .i64 x.to) (.slice (some ⟨b, 0, none⟩) x.d.length c))
    clear hb4 hb5 hbh hbs hfr m1 m2 hn4 hk4 hr4
    go_wp2_with fail
    refine bodyPost_ret (v := .tuple #[.agg #[.int .i64 x.fr, .int .i64 x.to, .slice (some ⟨b, 0, none⟩) x.d.length c], .bool true]) (by simp [results, Try.results20, go_sem, z0, z1, z2]) rfl ?_
    unfold TakeP
    rw [hx.out]
    refine ⟨HK.out, b, c, cur, fr, rfl, hbl2, HB5.out.trans HBH.out, ?_, fun j hj => ?_⟩
    · obtain ⟨⟨A, c', h1, h2, h3⟩, h4⟩ := HBS.out
      refine ⟨⟨A, c', h1, h2, fun hn => ?_⟩, h4⟩
      obtain ⟨b', o, k1, k2, k3⟩ := h3 hn
      injection h1 with h1 _ _
      subst h1
      injection k1 with k1
      injection k1 with k1 k1'
      subst k1 k1'
      exact ⟨b, 0, rfl, lt_heap (HB5.out.trans HBH.out), fun i u hi => (cell_heap HB5.out).trans (k3 i u hi)⟩
    · have := HFR.out j hj
      unfold World.frozen? at this ⊢
      dsimp only at this ⊢
      rw [HB5.out]
      exact this
end
end Go.Proofs.Ytcaddokedkndmaa
