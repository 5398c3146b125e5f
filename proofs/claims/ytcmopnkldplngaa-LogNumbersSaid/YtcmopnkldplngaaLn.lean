/- Two disks side by side; a cut disk opened. -/
import Derived.Test.YtcmopnkldplngaaLm
namespace Go.Proofs.Ytcmopnkldplngaa
open Go.RowKit

structure Tw (w : World) (base p : Nat) (r : Option Nat) (d : Pd) (p' : Nat) (r' : Option Nat) (d' : Pd) : Prop where
  d1 : Dk w base p r d
  d2 : Dk w base p' r' d'
  ne : p ≠ p'
  sep : ∀ g, r = some g → r' ≠ some g
section
variable {w w' : World} {base p p' q : Nat} {r r' r2 : Option Nat} {d d' d2 : Pd} {l : Pl} {A : Option Addr} {c : Nat} {vs : List Value} {ll : List (List Nat)}
theorem Tw.symm (h : Tw w base p r d p' r' d') : Tw w base p' r' d' p r d := ⟨h.d2, h.d1, h.ne.symm, fun g e e' => h.sep g e' e⟩
theorem Tw.left (h : Tw w base p r d p' r' d') (h1 : Dk w' base p r2 d2) (hk : Kr p r w w') (hr : Rw w r r2) : Tw w' base p r2 d2 p' r' d' := by
  obtain ⟨c1, hc1⟩ := h.d1.at_
  obtain ⟨c2, hc2⟩ := h.d2.at_
  refine ⟨h1, h.d2.other hk h.ne.symm (h.d1.row_ne hc2 (by decide)) (h.d2.row_ne hc1 (by decide)) (fun g e e' => h.sep g e' e), h.ne, fun g e e' => ?_⟩
  rcases hr with rfl | ⟨k, rfl, hk2⟩
  · exact h.sep g e e'
  · have := Option.some.inj e
    have := (h.d2.row_lt e').2
    omega
theorem Tw.below (h : Tw w base p r d p' r' d') (hb : Below w.heap.size w w') : Tw w' base p r d p' r' d' := ⟨h.d1.below hb, h.d2.below hb, h.ne, h.sep⟩
/-- A log of the other disk. -/
theorem LgAt.krx (h : LgAt w q p' l) (hd : Tw w base p r d p' r' d') (hk : Kr p r w w') : LgAt w' q p' l := by
  refine hk.heap h (fun e => ?_) (hd.d1.row_ne h (by decide))
  obtain ⟨c1, hc1⟩ := hd.d1.at_
  unfold LgAt at h
  rw [e, hc1] at h
  have := Option.some.inj h
  simp at this
theorem RowS.offd (h : RowS w base r (.slice A ll.length c) vs ll) (hd : Dk w base p r d) : BlkS w (fun b => b < w.heap.size ∧ b ≠ p ∧ r ≠ some b) A ll := fun i x hx => by
  obtain ⟨A', c', h1, h2, h3, h4⟩ := h.el i x hx
  obtain ⟨b, o, e, hS, hc⟩ := AtS.of_own h.own (by intro h0; rw [h0] at h1; simp at h1)
  obtain ⟨cp, hcp⟩ := hd.at_
  have hp := hd.low_p
  obtain ⟨-, cur, hcur⟩ := row_block h.own (show (Value.slice A ll.length c).ownBlock = some b by rw [e]; rfl)
  refine ⟨b, o, A', c', e, ⟨hS.2, ?_, hd.row_ne hcur (by decide)⟩, hc i _ h1, h2, h3.keep (fun _ _ => rfl) (fun b hb => ⟨hb.lt, ?_, ?_⟩), h4⟩
  · rintro rfl
    rw [hcp] at hcur
    have := Option.some.inj hcur
    simp at this
  · rcases hb with ⟨k1, _⟩ | ⟨k1, k2, cur, fr, k3⟩
    · omega
    · rintro rfl
      rw [hcp] at k3
      have := Option.some.inj k3
      simp at this
  · rcases hb with ⟨k1, _⟩ | ⟨k1, k2, cur, fr, k3⟩
    · intro e
      have := (hd.row_lt e).1
      omega
    · exact k2
/-- Blobs off one disk's blocks, and below all of the other's, stay. -/
theorem BlkS.kept {S : Nat → Prop} (h : BlkS w S A ll) (hk : Kr p r w w') (hS : ∀ b, S b → b < w.heap.size ∧ b ≠ p ∧ r ≠ some b) : BlkS w' S A ll :=
  h.keep (fun _ hz => cell_same (hk.block _ (hS _ hz).1 (hS _ hz).2.1 (hS _ hz).2.2)) (fun _ h => h)
end
theorem cut_dOf (all : List (List Nat)) (n : Nat) (hn : n ≤ (lrecs all).length) : (dOf all).cut (n : Int) = (⟨1048576, (lrecs all).take n, n, false, 0, false⟩, 0) := by
  unfold Pd.cut Pd.op Pd.less dOf
  rw [if_neg (by simp), if_neg (by dsimp only; omega), if_neg (by simp), if_neg (by simp)]
  simp [Pd.leave]
/-- A disk of a log's bytes, cut anywhere, opened: a begin of its records. -/
theorem open_torn (all : List (List Nat)) (hg : ∀ x ∈ all, lgood x) (n k : Nat) : ∃ d', openL ⟨1048576, (lrecs all).take n, k, false, 0, false⟩ = (d', .ok (all.take (lcnt all n))) ∧ d'.bs = lrecs (all.take (lcnt all n)) ∧ d'.down = false := by
  have hw : whole ((lrecs all).take n) = all.take (lcnt all n) := whole_cut all n hg
  have h8 : ∀ y ∈ (lrecs all).take n, y < 256 := fun y hy => lrecs_bytes all hg y (List.mem_of_mem_take hy)
  have h1 := whole_le _ h8
  have h2 := whole_take _ h8
  rw [hw] at h1 h2
  unfold openL
  dsimp only
  rw [hw, if_neg (by simp)]
  generalize all.take (lcnt all n) = ws at *
  generalize (lrecs all).take n = b at *
  by_cases hlt : (lrecs ws).length < b.length
  · have hc : Pd.cut ⟨1048576, b, k, false, 0, false⟩ ((lrecs ws).length : Int) = (⟨1048576, b.take (lrecs ws).length, (lrecs ws).length, false, 0, false⟩, 0) := by
      unfold Pd.cut Pd.op Pd.less
      rw [if_neg (by simp), if_neg (by dsimp only; omega), if_neg (by simp), if_neg (by simp)]
      simp [Pd.leave]
    rw [if_pos hlt, hc, if_neg (by simp)]
    exact ⟨_, rfl, h2, rfl⟩
  · rw [if_neg hlt]
    refine ⟨_, rfl, ?_, rfl⟩
    rw [List.take_of_length_le (by omega)] at h2
    exact h2
end Go.Proofs.Ytcmopnkldplngaa
