/- A row of blobs of the call's own, beside a disk and its logs. -/
import Derived.Test.YtcmopnkldplngaaLe
namespace Go.Proofs.Ytcmopnkldplngaa
open Go.RowKit

theorem cell_same {w w' : World} {p : Addr} (h : w'.heap[p.block]? = w.heap[p.block]?) : w'.cell? p = w.cell? p := by
  unfold World.cell?
  rw [h]
/-- Blocks of bytes that are not the disk's row; or what lies below the base. -/
def Sx (w : World) (base : Nat) (r : Option Nat) (b : Nat) : Prop := (b < base ∧ b < w.heap.size) ∨ (base ≤ b ∧ r ≠ some b ∧ ∃ cur fr, w.heap[b]? = some (.cells cur 5 fr))
structure RowS (w : World) (base : Nat) (r : Option Nat) (v : Value) (vs : List Value) (ll : List (List Nat)) : Prop where
  own : w.ownsRow base 22 1 v ll.length vs
  el : ∀ (i : Nat) (x : List Nat), ll[i]? = some x → ∃ A c, vs[i]? = some (.slice A x.length c) ∧ x.length ≤ c ∧ AtS w (Sx w base r) A (bv x) ∧ ∀ y ∈ x, y < 256
section
variable {w w' : World} {base p q : Nat} {r r' : Option Nat} {d : Pd} {l : Pl} {v : Value} {vs : List Value} {ll : List (List Nat)}
theorem Sx.lt {b : Nat} (h : Sx w base r b) : b < w.heap.size := by
  rcases h with ⟨_, h⟩ | ⟨_, _, _, _, h⟩
  · exact h
  · exact lt_heap h
theorem RowS.nil (w : World) (base : Nat) (r : Option Nat) : RowS w base r (.slice none 0 0) [] [] := ⟨World.ownsRow_nil _ _ _ _, by simp⟩
theorem RowS.form (h : RowS w base r v vs ll) : ∃ A c, v = .slice A ll.length c ∧ ll.length ≤ c := by
  rcases h.own.2 with ⟨h1, h2⟩ | ⟨g, cap, cur, he, _, _, h3, _⟩
  · exact ⟨none, 0, by rw [h1, h2], by omega⟩
  · exact ⟨_, cap, he, h3⟩
theorem own_row' (h : w.ownsRow base 22 1 v ll.length vs) (hk : ∀ g cur fr, base ≤ g → w.heap[g]? = some (.cells cur 22 fr) → w'.heap[g]? = w.heap[g]?) : w'.ownsRow base 22 1 v ll.length vs := by
  refine ⟨h.1, ?_⟩
  rcases h.2 with h0 | ⟨g, cap, cur, he, h1, h2, h3⟩
  · exact .inl h0
  · exact .inr ⟨g, cap, cur, he, h1, (hk g cur _ h1 h2).trans h2, h3⟩
/-- What keeps all that lies below the base, and all rows from there on but the disk's, keeps such a row. -/
theorem RowS.keep (h : RowS w base r v vs ll) (hs : w.heap.size ≤ w'.heap.size) (hr : Rw w r r') (hb : ∀ g, g < base → g < w.heap.size → w'.heap[g]? = w.heap[g]?)
    (hk : ∀ g cur fr, base ≤ g → w.heap[g]? = some (.cells cur 22 fr) → w'.heap[g]? = w.heap[g]?)
    (hu : ∀ g cur fr, base ≤ g → r ≠ some g → w.heap[g]? = some (.cells cur 5 fr) → w'.heap[g]? = w.heap[g]?) : RowS w' base r' v vs ll := by
  refine ⟨own_row' h.own hk, fun i x hx => ?_⟩
  obtain ⟨A, c, h1, h2, h3, h4⟩ := h.el i x hx
  refine ⟨A, c, h1, h2, h3.keep (fun z hz => cell_same ?_) (fun b hb' => ?_), h4⟩
  · rcases hz with ⟨k1, k2⟩ | ⟨k1, k2, cur, fr, k3⟩
    · exact hb _ k1 k2
    · exact hu _ cur fr k1 k2 k3
  · rcases hb' with ⟨k1, k2⟩ | ⟨k1, k2, cur, fr, k3⟩
    · exact .inl ⟨k1, by omega⟩
    · refine .inr ⟨k1, ?_, cur, fr, (hu _ cur fr k1 k2 k3).trans k3⟩
      rcases hr with rfl | ⟨g, rfl, hg⟩
      · exact k2
      · intro e
        have := Option.some.inj e
        have := lt_heap k3
        omega
theorem RowS.below (h : RowS w base r v vs ll) (hb : Below w.heap.size w w') : RowS w' base r v vs ll :=
  h.keep hb.size (.inl rfl) (fun g _ hg => hb.block g hg) (fun g _ _ _ hg => hb.block g (lt_heap hg)) (fun g _ _ _ _ hg => hb.block g (lt_heap hg))
theorem RowS.kr (h : RowS w base r v vs ll) (hd : Dk w base p r d) (hk : Kr p r w w') (hr : Rw w r r') : RowS w' base r' v vs ll := by
  have hp := hd.low_p
  obtain ⟨cp, hcp⟩ := hd.at_
  refine h.keep hk.size hr (fun g h1 h2 => hk.block g h2 (by omega) (fun e => by have := (hd.row_lt e).1; omega)) (fun g cur fr h1 h2 => hk.block g (lt_heap h2) (fun e => ?_) (hd.row_ne h2 (by decide))) (fun g cur fr h1 h2 h3 => hk.block g (lt_heap h3) (fun e => ?_) h2)
  · subst e
    rw [hcp] at h2
    have := Option.some.inj h2
    simp at this
  · subst e
    rw [hcp] at h3
    have := Option.some.inj h3
    simp at this
theorem RowS.kl (h : RowS w base r v vs ll) (hd : Lg w base p q r d l) (hk : Kl p q r w w') (hr : Rw w r r') : RowS w' base r' v vs ll := by
  have hp := hd.dk.low_p
  have hq := hd.low
  have hat := hd.at_
  unfold LgAt at hat
  obtain ⟨cp, hcp⟩ := hd.dk.at_
  refine h.keep hk.size hr (fun g h1 h2 => hk.block g h2 (by omega) (by omega) (fun e => by have := (hd.dk.row_lt e).1; omega)) (fun g cur fr h1 h2 => hk.block g (lt_heap h2) (fun e => ?_) (fun e => ?_) (hd.dk.row_ne h2 (by decide))) (fun g cur fr h1 h2 h3 => hk.block g (lt_heap h3) (fun e => ?_) (fun e => ?_) h2)
  · subst e
    rw [hcp] at h2
    have := Option.some.inj h2
    simp at this
  · subst e
    rw [hat] at h2
    have := Option.some.inj h2
    simp at this
  · subst e
    rw [hcp] at h3
    have := Option.some.inj h3
    simp at this
  · subst e
    rw [hat] at h3
    have := Option.some.inj h3
    simp at this
/-- It reads as a list. -/
theorem RowS.blks {A : Option Addr} {c : Nat} (h : RowS w base r (.slice A ll.length c) vs ll) : BlkS w (fun b => b < w.heap.size) A ll := fun i x hx => by
  obtain ⟨A', c', h1, h2, h3, h4⟩ := h.el i x hx
  obtain ⟨b, o, e, hS, hc⟩ := AtS.of_own h.own (by intro h0; rw [h0] at h1; simp at h1)
  exact ⟨b, o, A', c', e, hS.2, hc i _ h1, h2, h3.keep (fun _ _ => rfl) (fun b hb => hb.lt), h4⟩
theorem BlkS.take {S : Nat → Prop} {A : Option Addr} (h : BlkS w S A ll) (k : Nat) : BlkS w S A (ll.take k) := fun i x hx => by
  refine h i x ?_
  have hi := (List.getElem?_eq_some_iff.1 hx).1
  rw [List.length_take] at hi
  rwa [List.getElem?_take_of_lt (by omega)] at hx
/-- What Open made. -/
theorem RowS.made {lo : Nat} (ho : w.ownsRow lo 22 1 v ll.length vs) (hb : Blk w lo vs ll) (hr : ∀ g, r = some g → g < lo) (hl : base ≤ lo) : RowS w base r v vs ll := by
  refine ⟨⟨ho.1, ?_⟩, fun i x hx => ?_⟩
  · rcases ho.2 with h0 | ⟨g, cap, cur, he, h1, h2, h3⟩
    · exact .inl h0
    · exact .inr ⟨g, cap, cur, he, by omega, h2, h3⟩
  · obtain ⟨u, h1, h2, h3⟩ := hb.2 i x hx
    obtain ⟨A', c', rfl, hc, -, -, -, -⟩ := id h2.form
    refine ⟨A', c', h1, hc, fun hn => ?_, h3⟩
    obtain ⟨b, o, e1, hb1, hcell⟩ := At.of_own (show w.ownsRow lo 5 1 (.slice A' x.length c') x.length (bv x) from h2) hn
    subst e1
    obtain ⟨k1, cur, k2⟩ := own_block h2 (show (Value.slice (some ⟨b, o, none⟩) x.length c').ownBlock = some b from rfl)
    exact ⟨b, o, rfl, .inr ⟨by omega, fun e => by have := hr b e; omega, cur, _, k2⟩, hcell⟩
/-- One blob more. -/
theorem RowS.snoc {v' : Value} {A : Option Addr} {x : List Nat} {c : Nat} (h : RowS w base r v vs ll) (ho : w'.ownsRow base 22 1 v' (ll.length + 1) (vs ++ [.slice A x.length c])) (hg : w.grownBy w' v.ownBlock)
    (hx : AtS w (Sx w base r) A (bv x)) (hc : x.length ≤ c) (h8 : ∀ y ∈ x, y < 256) : RowS w' base r v' (vs ++ [.slice A x.length c]) (ll ++ [x]) := by
  have hlen : vs.length = ll.length := by have := h.own.1; simpa using this
  have hne : ∀ g cur fr, w.heap[g]? = some (.cells cur 5 fr) → v.ownBlock ≠ some g := by
    intro g cur fr hc e
    obtain ⟨_, cur', h2⟩ := row_block h.own e
    rw [hc] at h2
    have := Option.some.inj h2
    simp at this
  have hlo : ∀ g, g < base → v.ownBlock ≠ some g := by
    intro g hg e
    have := (row_block h.own e).1
    omega
  have hkeep : ∀ {A' : Option Addr} {y : List Nat}, AtS w (Sx w base r) A' (bv y) → AtS w' (Sx w' base r) A' (bv y) := fun hA => hA.keep (fun z hz => cell_same (by
      rcases hz with ⟨k1, k2⟩ | ⟨k1, k2, cur, fr, k3⟩
      · exact hg.block _ k2 (fun e => hlo _ k1 e.symm)
      · exact hg.block _ (lt_heap k3) (fun e => hne _ cur fr k3 e.symm))) (fun b hb => by
      rcases hb with ⟨k1, k2⟩ | ⟨k1, k2, cur, fr, k3⟩
      · exact .inl ⟨k1, Nat.lt_of_lt_of_le k2 hg.size⟩
      · exact .inr ⟨k1, k2, cur, fr, (hg.block _ (lt_heap k3) (fun e => hne _ cur fr k3 e.symm)).trans k3⟩)
  refine ⟨by rw [List.length_append]; exact ho, fun i y hy => ?_⟩
  by_cases hi : i < ll.length
  · rw [List.getElem?_append_left hi] at hy
    obtain ⟨A', c', h1, h2, h3, h4⟩ := h.el i y hy
    exact ⟨A', c', by rw [List.getElem?_append_left (by omega)]; exact h1, h2, hkeep h3, h4⟩
  · have hi2 : i = ll.length := by
      have := (List.getElem?_eq_some_iff.1 hy).1
      simp at this
      omega
    subst hi2
    rw [List.getElem?_append_right (Nat.le_refl _)] at hy
    simp at hy
    subst hy
    exact ⟨A, c, by rw [List.getElem?_append_right (by omega), hlen]; simp, hc, hkeep hx, h8⟩
end
end Go.Proofs.Ytcmopnkldplngaa
