/- Plain facts that the chapter's numbers ask. -/
import Derived.Test.YtcmopnkldplngaaLo
import Derived.Test.YtcmopnkldplngaaOwn2
import Derived.Deep.OwnRows
import Derived.Deep.RegionHeld3
namespace Go.Proofs.Ytcmopnkldplngaa
open Go.RowKit

/-- Open of a disk that has power and is not armed. -/
theorem open_plain (d : Pd) (hd : d.down = false) (ha : d.armed = false) (h8 : ∀ y ∈ d.bs, y < 256) : ∃ d', openL d = (d', .ok (whole d.bs)) ∧ d'.bs = lrecs (whole d.bs) ∧ d'.most = d.most ∧ d'.down = false ∧ d'.armed = false ∧ d'.Ok = d'.Ok := by
  have h1 := whole_le _ h8
  have h2 := whole_take _ h8
  unfold openL
  rw [if_neg (by rw [hd]; decide)]
  generalize whole d.bs = ws at *
  by_cases hlt : (lrecs ws).length < d.bs.length
  · have hc : d.cut ((lrecs ws).length : Int) = (d.leave (lrecs ws).length, 0) := by
      unfold Pd.cut Pd.op Pd.less
      rw [if_neg (by rw [hd]; decide), if_neg (by omega), if_neg (by rw [ha]; simp), if_neg (by rw [ha]; decide)]
      simp
    rw [if_pos hlt, hc, if_neg (by simp)]
    exact ⟨_, rfl, h2, rfl, hd, ha, rfl⟩
  · rw [if_neg hlt]
    rw [List.take_of_length_le (by omega)] at h2
    exact ⟨_, rfl, h2, rfl, hd, ha, rfl⟩
theorem Lg.drew {w : World} {base p q : Nat} {r : Option Nat} {d : Pd} {l : Pl} (h : Lg w base p q r d l) : Lg w.drew base p q r d l := ⟨h.dk.drew, h.at_, h.low⟩
/-- make of a slice of bytes, in a region that draws its order. -/
theorem step_made {w : World} {ops : Array Oper} {o : Oper} {a : Act} {K : Act → World → Prop} {Q : Exit → Act → World → Prop} {E : Prop} (hgd : o.guard = none) (x : Operand) (hop : o.op = Op.makeSlice 22 x x) (n : Int) (hx : a.eval x = .int .i64 n)
    {v : Value} {w' : World} (hrun : (Instr.makeSlice 22 (.int .i64 n) (.int .i64 n)).run Try.prog w = .ok v w') (h : K (a.put o.dst v) w') :
    if Region.wanted o (yielded ops a.tmps) = true then Oper.wp Try.prog o a w K Q else E := by
  have hw : Region.wanted o (yielded ops a.tmps) = true := by simp [Region.wanted, hgd]
  rw [if_pos hw]
  unfold Oper.wp
  simp [execOp, hop, hx, hrun, Result.andThen]
  exact h
section
variable {w w' : World} {base p q : Nat} {r r2 : Option Nat} {d d2 : Pd} {l : Pl} {v : Value} {x : List Nat}
theorem size_al (w : World) (o : Obj) : (w.alloc o).heap.size = w.heap.size + 1 := by simp
theorem size_dr (w : World) : w.drew.heap.size = w.heap.size := rfl
theorem Lg.alloc (h : Lg w base p q r d l) (o : Obj) : Lg (w.alloc o) base p q r d l := h.below ((Below.refl _ _).alloc (Nat.le_refl _) o)
theorem Beside.alloc (h : Beside w base p r d v x) (o : Obj) : Beside (w.alloc o) base p r d v x := h.below ((Below.refl _ _).alloc (Nat.le_refl _) o)
theorem Beside.drew (h : Beside w base p r d v x) : Beside w.drew base p r d v x := ⟨h.dk.drew, h.own.drew, h.sep⟩
/-- A slice that was just made, beside a log. -/
theorem Lg.made (h : Lg w base p q r d l) (Z : Array Value) (n : Nat) (hx : x.length = n) (hz : Z.toList = bv x) (hs : Z.size = n) (hm : x.length ≤ maxLen) : Beside (w.alloc (.cells Z 5)) base p r d (.slice (some ⟨w.heap.size, 0, none⟩) n n) x :=
  dk_beside h.dk ((Below.refl _ _).alloc (Nat.le_refl _) _) (own_made w x n w.heap.size Z hx hz hs rfl hm)
/-- The log is written to: a row beside its disk stays. -/
theorem Beside.kl (h : Beside w base p r d v x) (hq : LgAt w q p l) (h1 : Dk w' base p r2 d2) (hk : Kl p q r w w') (hr : Rw w r r2) : Beside w' base p r2 d2 v x := by
  have hvp := h.row_ne
  have hvq : v.ownBlock ≠ some q := own_ne h.own hq (by decide)
  refine ⟨h1, ⟨h.own.1, ?_⟩, fun g hg => ?_⟩
  · rcases h.own.2 with h0 | ⟨g, cap, cur, rfl, k1, k2, k3⟩
    · exact .inl h0
    · exact .inr ⟨g, cap, cur, rfl, k1, hk.heap k2 (fun e => hvp (by rw [← e]; rfl)) (fun e => hvq (by rw [← e]; rfl)) (h.sep g rfl), k3⟩
  · rcases hr with rfl | ⟨k, rfl, hk2⟩
    · exact h.sep g hg
    · intro e
      obtain ⟨_, cur, hc⟩ := own_row h.own hg
      have := lt_heap hc
      have := Option.some.inj e
      omega
end
def nR1 : List Nat := [111, 110, 101]
def nR2 : List Nat := [115, 101, 99, 111, 110, 100]
def nAll : List Nat := lrec nR1 ++ lrec nR2
def nTurn (i : Nat) : List Nat := nAll.set i ((nAll.getD i 0 + 1) % 256)
theorem nR1_good : lgood nR1 := ⟨by simp [nR1], by simp [nR1], by simp [nR1]⟩
theorem nR2_good : lgood nR2 := ⟨by simp [nR2], by simp [nR2], by simp [nR2]⟩
theorem nAll_len : nAll.length = 25 := by
  unfold nAll
  rw [List.length_append, lrec_length, lrec_length]
  rfl
theorem nAll_eq : nAll = lrecs [nR1, nR2] := by simp [nAll, lrecs]
theorem nAll_bytes : ∀ y ∈ nAll, y < 256 := by
  rw [nAll_eq]
  exact lrecs_bytes _ (by intro x hx; simp at hx; rcases hx with h | h <;> rw [h]; exact nR1_good; exact nR2_good)
/-- How many records the first n bytes hold. -/
def nWant (n : Nat) : Nat := if n = 25 then 2 else if 11 ≤ n then 1 else 0
theorem n_torn (n : Nat) (hn : n ≤ 25) : (whole (nAll.take n)).length = nWant n := by
  rw [nAll_eq, whole_cut _ _ (by intro x hx; simp at hx; rcases hx with h | h <;> rw [h]; exact nR1_good; exact nR2_good)]
  have l1 : (lrec nR1).length = 11 := by rw [lrec_length]; rfl
  have l2 : (lrec nR2).length = 14 := by rw [lrec_length]; rfl
  rw [List.length_take]
  unfold nWant
  simp only [lcnt, l1, l2, List.length_cons, List.length_nil]
  by_cases h1 : n < 11
  · rw [if_pos h1, if_neg (by omega), if_neg (by omega)]
    omega
  · by_cases h2 : n = 25
    · rw [if_neg h1, if_neg (by omega), if_pos h2]
      omega
    · rw [if_neg h1, if_pos (by omega), if_neg h2, if_pos (by omega)]
      omega
theorem n_turned : ((List.range 25).all fun i => decide ((whole (nTurn i)).length = if i < 11 then 0 else 1)) = true := by kernel_rfl
theorem n_turn (i : Nat) (hi : i < 25) : (whole (nTurn i)).length = if i < 11 then 0 else 1 := by
  have := List.all_eq_true.1 n_turned i (List.mem_range.2 hi)
  exact of_decide_eq_true this
theorem whole_zeros : whole (List.replicate 40 0) = [] := by kernel_rfl
theorem nTurn_bytes (i : Nat) : ∀ y ∈ nTurn i, y < 256 := by
  intro y hy
  rcases List.mem_or_eq_of_mem_set hy with h | h
  · exact nAll_bytes y h
  · omega
theorem nTurn_len (i : Nat) : (nTurn i).length = 25 := by
  unfold nTurn
  rw [List.length_set, nAll_len]
end Go.Proofs.Ytcmopnkldplngaa
