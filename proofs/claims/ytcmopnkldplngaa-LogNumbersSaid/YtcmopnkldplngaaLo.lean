/- What a crash leaves of a log. -/
import Derived.Test.YtcmopnkldplngaaLn
namespace Go.Proofs.Ytcmopnkldplngaa
open Go.RowKit

theorem crash_log (d : Pd) (h : d.Ok) (n : Int) : (d.crash n).syn = (d.crash n).bs.length ∧ d.syn ≤ (d.crash n).bs.length ∧ (d.crash n).bs.length ≤ d.bs.length ∧ d.bs.take (d.crash n).bs.length = (d.crash n).bs ∧ (d.crash n).down = false ∧ (d.crash n).armed = false ∧ (d.crash n).most = d.most := by
  have h1 := Pd.kept_le h n
  have e : (d.bs.take (d.kept n)).length = d.kept n := by simp; omega
  show d.kept n = (d.bs.take (d.kept n)).length ∧ d.syn ≤ (d.bs.take (d.kept n)).length ∧ (d.bs.take (d.kept n)).length ≤ d.bs.length ∧ d.bs.take (d.bs.take (d.kept n)).length = d.bs.take (d.kept n) ∧ _ ∧ _ ∧ _
  rw [e]
  exact ⟨rfl, h1.1, h1.2, rfl, rfl, rfl, rfl⟩
/-- A disk of records, and behind them a begin of one more, opened. -/
theorem open_after (d : Pd) (sure : List (List Nat)) (x : List Nat) (j : Nat) (hs : ∀ y ∈ sure, lgood y) (hx : lgood x) (hd : d.down = false) (ha : d.armed = false) (hsy : d.syn = d.bs.length) (hb : d.bs = lrecs sure ++ (lrec x).take j) :
    ∃ got d3, openL d = (d3, .ok got) ∧ (got = sure ∨ (j ≠ 0 ∧ got = sure ++ [x])) ∧ d3.bs = lrecs got ∧ d3.syn = d3.bs.length ∧ d3.down = false ∧ d3.most = d.most := by
  have h8 : ∀ y ∈ d.bs, y < 256 := by
    intro y hy
    rw [hb] at hy
    rcases List.mem_append.1 hy with h | h
    · exact lrecs_bytes sure hs y h
    · exact lrec_bytes x hx y (List.mem_of_mem_take h)
  have hw : whole d.bs = sure ∨ (j ≠ 0 ∧ whole d.bs = sure ++ [x]) := by
    rw [hb, whole_recs _ _ hs]
    by_cases hj : j < (lrec x).length
    · rw [whole_end _ (lfirst_torn x j hx hj), List.append_nil]
      exact .inl rfl
    · rw [List.take_of_length_le (by omega)]
      have := whole_rec x [] hx
      rw [List.append_nil, whole_end _ lfirst_nil] at this
      rw [this]
      exact .inr ⟨by have := lrec_length x; omega, rfl⟩
  have h1 := whole_le _ h8
  have h2 := whole_take _ h8
  refine ⟨whole d.bs, ?_⟩
  unfold openL
  rw [if_neg (by rw [hd]; decide)]
  generalize whole d.bs = ws at *
  by_cases hlt : (lrecs ws).length < d.bs.length
  · have hc : d.cut ((lrecs ws).length : Int) = (d.leave (lrecs ws).length, 0) := by
      unfold Pd.cut Pd.op Pd.less
      rw [if_neg (by rw [hd]; decide), if_neg (by omega), if_neg (by rw [ha]; simp), if_neg (by rw [ha]; decide)]
      simp
    rw [if_pos hlt, hc, if_neg (by simp)]
    refine ⟨_, rfl, hw, h2, ?_, hd, rfl⟩
    show (lrecs ws).length = (d.bs.take (lrecs ws).length).length
    rw [h2]
  · rw [if_neg hlt]
    rw [List.take_of_length_le (by omega)] at h2
    exact ⟨_, rfl, hw, h2, hsy, hd, rfl⟩
/-- A crash, then Open. -/
theorem crash_open (d : Pd) (h : d.Ok) (sure : List (List Nat)) (x : List Nat) (b : Bool) (hs : ∀ y ∈ sure, lgood y) (hx : lgood x) (hsy : (lrecs sure).length ≤ d.syn) (hb : d.bs = lrecs sure ∨ (b = true ∧ d.bs = lrecs sure ++ lrec x)) (n : Int) :
    ∃ got d3, openL (d.crash n) = (d3, .ok got) ∧ (got = sure ∨ (b = true ∧ got = sure ++ [x])) ∧ d3.bs = lrecs got ∧ d3.syn = d3.bs.length ∧ d3.down = false ∧ d3.most = d.most := by
  obtain ⟨h1, h2, h3, h4, h5, h6, h7⟩ := crash_log d h n
  generalize d.crash n = D at *
  have hj : ∃ j, D.bs = lrecs sure ++ (lrec x).take j ∧ (j ≠ 0 → b = true) := by
    rcases hb with hb | ⟨hb0, hb⟩
    · refine ⟨0, ?_, fun h => absurd rfl h⟩
      rw [hb] at h3 h4
      rw [← h4, List.take_of_length_le (by omega)]
      simp
    · refine ⟨D.bs.length - (lrecs sure).length, ?_, fun _ => hb0⟩
      rw [hb, List.take_append, List.take_of_length_le (by omega)] at h4
      exact h4.symm
  obtain ⟨j, hj1, hj2⟩ := hj
  obtain ⟨got, d3, k1, k2, k3, k4, k5, k6⟩ := open_after D sure x j hs hx h5 h6 h1 hj1
  refine ⟨got, d3, k1, ?_, k3, k4, k5, k6.trans h7⟩
  rcases k2 with k | ⟨k, k'⟩
  · exact .inl k
  · exact .inr ⟨hj2 k, k'⟩
theorem arm_log (d : Pd) (n : Int) (h : d.down = false) : (d.arm n).bs = d.bs ∧ (d.arm n).syn = d.syn ∧ (d.arm n).down = false ∧ (d.arm n).most = d.most := by
  unfold Pd.arm
  rw [if_neg (by rw [h]; decide)]
  exact ⟨rfl, rfl, h, rfl⟩
/-- The piece at place j of an argument: one slice, in all later worlds. -/
theorem BRows.fix {w : World} {a : Option Addr} {n c : Nat} {ll : List (List Nat)} (h : BRows w a n c ll) (j : Nat) (hj : j < n) :
    ∃ b o A k, a = some ⟨b, o, none⟩ ∧ (ll.getD j []).length ≤ k ∧ ∀ w' : World, Below w.heap.size w w' → w'.cell? ⟨b, o + j, none⟩ = some (.slice A (ll.getD j []).length k) ∧ Bs w' (.slice A (ll.getD j []).length k) (ll.getD j []) ∧ ∀ base r, w.heap.size ≤ base → AtS w' (Sx w' base r) A (bv (ll.getD j [])) := by
  obtain ⟨b, o, e, hlt, hr⟩ := h.row (by omega)
  obtain ⟨A, k, hc, hbs⟩ := hr j hj
  obtain ⟨-, hk, hat, -⟩ := id hbs.parts
  refine ⟨b, o, A, k, e, hk, fun w' hb => ⟨(hb.cell (p := ⟨b, o + j, none⟩) hlt).trans hc, hbs.below hb, fun base r hbase hn => ?_⟩⟩
  obtain ⟨b', o', e', hlt', hcell⟩ := (hat.below hb) hn
  exact ⟨b', o', e', .inl ⟨by omega, by have := hb.size; omega⟩, hcell⟩
/-- A row beside a log grows by a blob. -/
theorem Lg.rowgrown {w w' : World} {base p q : Nat} {r : Option Nat} {d : Pd} {l : Pl} {v : Value} {vs : List Value} {ll : List (List Nat)} (h : Lg w base p q r d l) (hr : RowS w base r v vs ll) (hg : w.grownBy w' v.ownBlock) : Lg w' base p q r d l ∧ Below base w w' := by
  have hat := h.at_
  refine ⟨⟨h.dk.grown hg (fun e => ?_) (fun g hg e => ?_), (hg.block q (lt_heap hat) (fun e => ?_)).trans hat, h.low⟩, (Below.refl _ _).grown hg h.dk.base_le (fun g e => (row_block hr.own e).1)⟩
  · obtain ⟨_, cur, k⟩ := row_block hr.own e
    obtain ⟨cp, hcp⟩ := h.dk.at_
    rw [hcp] at k
    have := Option.some.inj k
    simp at this
  · obtain ⟨_, cur, k⟩ := row_block hr.own e
    exact h.dk.row_ne k (by decide) hg
  · obtain ⟨_, cur, k⟩ := row_block hr.own e.symm
    unfold LgAt at hat
    rw [hat] at k
    have := Option.some.inj k
    simp at this
theorem lrecs_of (sure : List (List Nat)) (h : ∀ y ∈ sure, lgood y ∧ y.length ≤ 100) (n : Nat) (hn : sure.length ≤ n) : (lrecs sure).length ≤ 108 * n := by
  have := lrecs_small sure (fun y hy => (h y hy).2)
  omega
end Go.Proofs.Ytcmopnkldplngaa
