/- A row of api.Grams of the call's own, beside a net; droverlaw06.holds, filled: the walks. -/
import Derived.Test.YtcaddokedkndmaaNh
import Derived.Test.YtcaddokedkndmaaNf
import Derived.Deep.RegionHeld3
import Derived.Deep.CutBlock
namespace Go.Proofs.Ytcaddokedkndmaa
open Go.RowKit
set_option linter.unusedVariables false

theorem gm_info : (Try.prog.info? 29).map (fun i => (i.zero, i.size, i.bytes)) = some (some (.agg #[.int .i64 0, .int .i64 0, .slice none 0 0]), 3, 40) := by kernel_rfl
/-- Cells of datagrams, their bytes beside any net. -/
def Gcs (w : World) (base : Nat) (xs : List Value) (l : List Gr) : Prop := ∀ (i : Nat) (x : Gr), l[i]? = some x → xs[i * 3]? = some (.int .i64 x.fr) ∧ xs[i * 3 + 1]? = some (.int .i64 x.to) ∧ ∃ u, xs[i * 3 + 2]? = some u ∧ Bx w base u x.d
/-- A row of datagrams of the call's own. -/
def GR (w : World) (base : Nat) (v : Value) (l : List Gr) : Prop := ∃ xs, w.ownsRow base 29 3 v l.length xs ∧ Gcs w base xs l ∧ ∀ u ∈ xs, u.oneCell' = true
theorem of_drew6 {w w' : World} (h : Below w.drew.heap.size w.drew w') : Below w.heap.size w w' := ⟨h.os, h.tape, h.output, h.size, h.block⟩
section
variable {w w' : World} {base q N : Nat} {r r' : Option Nat} {l l' : List Gr} {v : Value}
theorem Gcs.append {xs ys : List Value} (h : Gcs w base xs l) (k : Gcs w base ys l') (hl : xs.length = l.length * 3) : Gcs w base (xs ++ ys) (l ++ l') := by
  intro i x hx
  by_cases hi : i < l.length
  · rw [List.getElem?_append_left hi] at hx
    obtain ⟨h1, h2, u, h3, h4⟩ := h i x hx
    exact ⟨by rw [List.getElem?_append_left (by omega)]; exact h1, by rw [List.getElem?_append_left (by omega)]; exact h2, u, by rw [List.getElem?_append_left (by omega)]; exact h3, h4⟩
  · rw [List.getElem?_append_right (by omega)] at hx
    obtain ⟨h1, h2, u, h3, h4⟩ := k _ x hx
    refine ⟨?_, ?_, u, ?_, h4⟩
    · rw [List.getElem?_append_right (by omega), ← h1]; congr 1; omega
    · rw [List.getElem?_append_right (by omega), ← h2]; congr 1; omega
    · rw [List.getElem?_append_right (by omega), ← h3]; congr 1; omega
theorem Gcs.one {u : Value} {x : Gr} (h : Bx w base u x.d) : Gcs w base [.int .i64 x.fr, .int .i64 x.to, u] [x] := by
  intro i y hy
  cases i with
  | zero =>
    simp at hy
    subst hy
    exact ⟨rfl, rfl, u, rfl, h⟩
  | succ i => simp at hy
theorem Gcs.take {xs : List Value} (h : Gcs w base xs l) (k : Nat) : Gcs w base (xs.take (k * 3)) (l.take k) := by
  intro i x hx
  have hi := (List.getElem?_eq_some_iff.1 hx).1
  rw [List.length_take] at hi
  rw [List.getElem?_take_of_lt (by omega)] at hx
  obtain ⟨h1, h2, u, h3, h4⟩ := h i x hx
  exact ⟨by rw [List.getElem?_take_of_lt (by omega)]; exact h1, by rw [List.getElem?_take_of_lt (by omega)]; exact h2, u, by rw [List.getElem?_take_of_lt (by omega)]; exact h3, h4⟩
theorem Gcs.drop {xs : List Value} (h : Gcs w base xs l) (k : Nat) : Gcs w base (xs.drop (k * 3)) (l.drop k) := by
  intro i x hx
  rw [List.getElem?_drop] at hx
  obtain ⟨h1, h2, u, h3, h4⟩ := h (k + i) x hx
  refine ⟨?_, ?_, u, ?_, h4⟩
  · rw [List.getElem?_drop, ← h1]; congr 1; omega
  · rw [List.getElem?_drop, ← h2]; congr 1; omega
  · rw [List.getElem?_drop, ← h3]; congr 1; omega
theorem GR.nil (w : World) (base : Nat) : GR w base (.slice none 0 0) [] := ⟨[], World.ownsRow_nil _ _ _ _, fun i x h => by simp at h, by simp⟩
theorem GR.slice (h : GR w base v l) : ∃ A c, v = .slice A l.length c ∧ l.length ≤ c ∧ c ≤ maxLen := by
  obtain ⟨xs, ho, _⟩ := h
  rcases ho.2 with ⟨h1, h2⟩ | ⟨g, cap, cur, he, _, _, h3, h4, _⟩
  · exact ⟨none, 0, by rw [h1, h2], by omega, by unfold maxLen; omega⟩
  · exact ⟨_, cap, he, h3, h4⟩
/-- What leaves all blocks below the base, all blocks of bytes, and all rows of datagrams, leaves such a row. -/
theorem GR.keep (h : GR w base v l) (hs : w.heap.size ≤ w'.heap.size) (hb : ∀ b : Nat, b < base → b < w.heap.size → w'.heap[b]? = w.heap[b]?) (hu : ∀ (b : Nat) (cur : Array Value) (fr : Nat × Nat), w.heap[b]? = some (.cells cur 5 fr) → w'.heap[b]? = w.heap[b]?)
    (hg : ∀ (b : Nat) (cur : Array Value) (fr : Nat × Nat), v.ownBlock = some b → w.heap[b]? = some (.cells cur 29 fr) → w'.heap[b]? = w.heap[b]?) : GR w' base v l := by
  obtain ⟨xs, ho, hc, h1⟩ := h
  refine ⟨xs, ⟨ho.1, ?_⟩, fun i x hx => ?_, h1⟩
  · rcases ho.2 with h0 | ⟨g, cap, cur, rfl, k1, k2, k3⟩
    · exact .inl h0
    · exact .inr ⟨g, cap, cur, rfl, k1, (hg g cur _ rfl k2).trans k2, k3⟩
  · obtain ⟨k1, k2, u, k3, k4⟩ := hc i x hx
    exact ⟨k1, k2, u, k3, k4.keep hs hb hu⟩
theorem GR.below (h : GR w base v l) (hb : Below w.heap.size w w') : GR w' base v l := h.keep hb.size (fun b _ h => hb.block b h) (fun b _ _ h => hb.block b (lt_heap h)) (fun b _ _ _ h => hb.block b (lt_heap h))
theorem GR.aft (h : GR w base v l) (hn : NtAt w base q r N l') {l'' : List Gr} (ha : AfterN w base q r N l'' w') : GR w' base v l := by
  obtain ⟨r', -, hk, -⟩ := ha
  have h1 := hn.low
  exact h.keep hk.size (fun b k1 k2 => hk.block b k2 (by omega) (fun e => by have := (hn.row_lt e).1; omega)) (fun b cur fr k => hk.block b (lt_heap k) (hn.q_ne k (by decide)) (hn.row_ne k (by decide)))
    (fun b cur fr _ k => hk.block b (lt_heap k) (hn.q_ne k (by decide)) (hn.row_ne k (by decide)))
/-- The cells of an element. -/
theorem GR.cell {A : Option Addr} {n c : Nat} (h : GR w base (.slice A n c) l) {i : Nat} {x : Gr} (hx : l[i]? = some x) : ∃ g u, A = some ⟨g, 0, none⟩ ∧ w.cell? ⟨g, i * 3, none⟩ = some (.int .i64 x.fr) ∧ w.cell? ⟨g, i * 3 + 1, none⟩ = some (.int .i64 x.to) ∧ w.cell? ⟨g, i * 3 + 2, none⟩ = some u ∧ Bx w base u x.d := by
  obtain ⟨xs, ho, hc, -⟩ := h
  have hi := (List.getElem?_eq_some_iff.1 hx).1
  rcases id ho.2 with ⟨h1, h2⟩ | ⟨g, cap, cur, he, k1, k2, k3, k4, k5, k6⟩
  · omega
  · injection he with he _ _
    subst he
    obtain ⟨h1, h2, u, h3, h4⟩ := hc i x hx
    refine ⟨g, u, rfl, ?_, ?_, ?_, h4⟩
    · rw [cell_block k2, ← h1, ← k6, List.getElem?_take_of_lt (by omega), Array.getElem?_toList]
    · rw [cell_block k2, ← h2, ← k6, List.getElem?_take_of_lt (by omega), Array.getElem?_toList]
    · rw [cell_block k2, ← h3, ← k6, List.getElem?_take_of_lt (by omega), Array.getElem?_toList]
set_option maxRecDepth 100000 in
set_option maxHeartbeats 3200000 in
theorem holds_any (h : NtAt w base q r N l) (hv : GR w base v l) : Calls Try.prog 28 #[.pointer (some ⟨q, 0, none⟩), v] w fun e w' => e = .returned (.bool true) ∧ Below w.heap.size w w' := by
  have hlen := h.len
  obtain ⟨A, c, rfl, hc, hcm⟩ := hv.slice
  unfold maxLen at hcm
  have HN := Lib.hid h
  have HV := Lib.hid hv
  obtain ⟨n, hn⟩ : ∃ n, Hid (l.length = n) := ⟨_, Lib.hid rfl⟩
  have HF := Lib.hid (flying_any h)
  rw [hn.out] at hlen hc HF
  rw [show (Value.slice A l.length c) = .slice A n c by rw [hn.out]] at HV ⊢
  clear h hv
  go_enter Try.func28, Try.ntmps28
  go_wp2_with fail
  refine HF.out.mono ?_
  rintro e w1 ⟨rfl, rfl⟩
  have d1 : ((n : Int) == (n : Int)) = true := by simp
  go_wp2_with fail
  go_loopw [5] (fun i wr => ∃ j : Nat, j ≤ n ∧ i = .int .i64 (j : Int) ∧ Below w.heap.size w wr) (fun i _ => n - (intOf i).toNat)
  case atStart => exact ⟨0, by omega, rfl, Below.refl _ _⟩
  case round =>
    obtain ⟨j, hj, rfl, hbr⟩ := hrel
    by_cases hlt : j < n
    · have hjl : j < l.length := by have := hn.out; omega
      obtain ⟨x, hx⟩ : ∃ x, Hid (l[j]? = some x) := ⟨l[j], Lib.hid (List.getElem?_eq_getElem hjl)⟩
      have e1 : nthG l (j : Int) = some x := by
        unfold nthG
        rw [if_pos (by omega)]
        simpa using hx.out
      have hL := look_any (HN.out.below hbr) (j : Int)
      rw [e1] at hL
      clear e1 hjl
      go_wp2_with fail
      refine hL.mono ?_
      rintro e w6 ⟨hb6, b, cc, cur, fr, rfl, hbl, hbh, hbs, hfr⟩
      clear hL hbl hbh hfr
      have hb7 := (Below.refl w6.heap.size w6).alloc (Nat.le_refl _) (.cells #[.int .i64 x.fr, .int .i64 x.to, .slice (some ⟨b, 0, none⟩) x.d.length cc] 29)
      have hq7 := heap_new w6 (.cells #[.int .i64 x.fr, .int .i64 x.to, .slice (some ⟨b, 0, none⟩) x.d.length cc] 29)
      have hbs7 := hbs.below hb7
      have hb0 := nxt (nxt hbr hb6) hb7
      obtain ⟨W7, hW7⟩ : ∃ W, W = w6.alloc (.cells #[.int .i64 x.fr, .int .i64 x.to, .slice (some ⟨b, 0, none⟩) x.d.length cc] 29) := ⟨_, rfl⟩
      obtain ⟨B7, hB7⟩ : ∃ B, B = w6.heap.size := ⟨_, rfl⟩
      go_upto_region 7 with fail
      rw [← hW7] at hq7 hbs7 hb0 ⊢
      rw [← hB7] at hq7 ⊢
      clear hW7 hB7 hb7 hb6 hbr hbs
      have hGR := HV.out.below hb0
      obtain ⟨g, u, rfl, t0, t1, t2, hbx⟩ := hGR.cell hx.out
      have hbu := hbx.bs
      obtain ⟨⟨c0, c1, c2⟩, -⟩ := box3 hq7
      have hgW : g < W7.heap.size := World.block_lt_of_cell? W7 _ t0
      clear hGR hbx
      go_region_held3 (fun w' => (w'.cell? ⟨B7, 0, none⟩ = some (.int .i64 x.fr) ∧ w'.cell? ⟨B7, 1, none⟩ = some (.int .i64 x.to) ∧ w'.cell? ⟨B7, 2, none⟩ = some (.slice (some ⟨b, 0, none⟩) x.d.length cc)) ∧
          (w'.cell? ⟨g, j * 3, none⟩ = some (.int .i64 x.fr) ∧ w'.cell? ⟨g, j * 3 + 1, none⟩ = some (.int .i64 x.to) ∧ w'.cell? ⟨g, j * 3 + 2, none⟩ = some u)) (go_keep)
        (first
          | (go_at_call 24
             refine (samegr_any _ _ x ⟨_, rfl, hbs7.drew⟩ ⟨_, rfl, hbu.drew⟩).mono ?_
             rintro e w8 ⟨rfl, hb8'⟩
             have hb8 := of_drew6 hb8'
             obtain ⟨⟨f0, f1, f2⟩, -⟩ := box3 (heap_below hq7 hb8)
             have r0 := (hb8.cell (p := ⟨g, j * 3, none⟩) hgW).trans t0
             have r1 := (hb8.cell (p := ⟨g, j * 3 + 1, none⟩) hgW).trans t1
             have r2 := (hb8.cell (p := ⟨g, j * 3 + 2, none⟩) hgW).trans t2)
          | (fail))
      all_goals
        clear c0 c1 c2 t0 t1 t2 f0 f1 f2 r0 r1 r2
        go_wp2_with fail
        go_roundw
        case rel => exact ⟨j + 1, by omega, by go_num, nxt hb0 hb8⟩
        case measure => simp [intOf]; omega
    · obtain rfl : j = n := by omega
      have e1 : nthG l (j : Int) = none := by
        unfold nthG
        rw [if_pos (by omega), List.getElem?_eq_none (by have := hn.out; simp; omega)]
      have hL := look_any (HN.out.below hbr) (j : Int)
      rw [e1] at hL
      clear e1
      go_wp2_with fail
      refine hL.mono ?_
      rintro e w6 ⟨hb6, rfl⟩
      go_wp2_with fail
      go_ret
      exact ⟨rfl, (nxt hbr hb6).alloc (nxt hbr hb6).size _⟩
end
end Go.Proofs.Ytcaddokedkndmaa
