/- What Add does to a log and its disk, case by case. -/
import Derived.Test.YtcmopnkldplngaaLj
namespace Go.Proofs.Ytcmopnkldplngaa
open Go.RowKit

theorem wf_u16 {a : Int} (h : (Lit.int .u16 a).wf = true) : ∃ n : Nat, a = n ∧ n < 65536 := by
  have h1 : IntKind.u16.min = 0 := rfl
  have h2 : IntKind.u16.max = 65535 := rfl
  simp only [Lit.wf, Bool.and_eq_true, decide_eq_true_eq] at h
  exact ⟨a.toNat, by omega, by omega⟩
theorem op_two (d : Pd) (f : Pd → Pd) : (d.op f = (f d.less, 0) ∧ ¬(d.armed = true ∧ d.left = 0)) ∨ (d.op f = (d.fails, 15) ∧ d.armed = true ∧ d.left = 0) := by
  unfold Pd.op
  by_cases h : d.armed = true ∧ d.left = 0
  · rw [if_pos h]
    exact .inr ⟨rfl, h⟩
  · rw [if_neg h]
    exact .inl ⟨rfl, h⟩
theorem less_armed (d : Pd) : d.less.armed = d.armed := by unfold Pd.less; split <;> rfl
/-- Append, then Sync: full, done, or the power fails. -/
theorem addD_cases (d : Pd) (y : List Nat) (hd : d.down = false) :
    (d.most - d.bs.length < y.length ∧ addD d y = (d, 5)) ∨
    (¬ d.most - d.bs.length < y.length ∧ ∃ d', addD d y = (d', 0) ∧ d'.bs = d.bs ++ y ∧ d'.most = d.most ∧ d'.down = false ∧ d'.syn = d'.bs.length) ∨
    (¬ d.most - d.bs.length < y.length ∧ d.armed = true ∧ ∃ d', addD d y = (d', 15) ∧ (d'.bs = d.bs ∨ d'.bs = d.bs ++ y) ∧ d'.most = d.most ∧ d'.down = true ∧ d'.syn = d.syn) := by
  by_cases hf : d.most - d.bs.length < y.length
  · refine .inl ⟨hf, ?_⟩
    have h1 : d.app y = (d, 5) := by
      unfold Pd.app
      rw [if_neg (by rw [hd]; decide), if_pos hf]
    unfold addD
    rw [h1]
    rfl
  · refine .inr ?_
    have h1 : d.app y = d.op (Pd.put y) := by
      unfold Pd.app
      rw [if_neg (by rw [hd]; decide), if_neg hf]
    rcases op_two d (Pd.put y) with ⟨h2, h3⟩ | ⟨h2, h3⟩
    · have hdn : (Pd.put y d.less).down = false := by
        show d.less.down = false
        rw [Pd.less_down, hd]
      have h4 : (Pd.put y d.less).sync = (Pd.put y d.less).op Pd.all := by
        unfold Pd.sync
        rw [if_neg (by rw [hdn]; decide)]
      have h0 : addD d y = (Pd.put y d.less).op Pd.all := by
        unfold addD
        rw [h1, h2]
        show (if (0 : Nat) ≠ 0 then _ else (Pd.put y d.less).sync) = _
        rw [if_neg (by simp), h4]
      have hbs : (Pd.put y d.less).bs = d.bs ++ y := by
        show d.less.bs ++ y = _
        rw [Pd.less_bs]
      have hmo : (Pd.put y d.less).most = d.most := d.less_most
      have har : (Pd.put y d.less).armed = d.armed := less_armed d
      have hsy : (Pd.put y d.less).syn = d.syn := d.less_syn
      rw [h0]
      generalize Pd.put y d.less = D at *
      rcases op_two D Pd.all with ⟨k1, k2⟩ | ⟨k1, k2⟩
      · refine .inl ⟨hf, _, k1, ?_, ?_, ?_, ?_⟩
        · show D.less.bs = _
          rw [Pd.less_bs, hbs]
        · show D.less.most = _
          rw [Pd.less_most, hmo]
        · show D.less.down = _
          rw [Pd.less_down, hdn]
        · rfl
      · exact .inr ⟨hf, by rw [← har]; exact k2.1, _, k1, .inr hbs, hmo, rfl, hsy⟩
    · refine .inr ⟨hf, h3.1, d.fails, ?_, .inl rfl, rfl, rfl, rfl⟩
      unfold addD
      rw [h1, h2]
      rfl
theorem addL_cases (l : Pl) (d : Pd) (x : List Nat) (hx : 1 ≤ x.length ∧ x.length ≤ 1048576) (hs : l.shut = false) (hd : d.down = false) :
    (d.most - d.bs.length < (lrec x).length ∧ addL l d x = (l, d, 5)) ∨
    (¬ d.most - d.bs.length < (lrec x).length ∧ ∃ d', addL l d x = (⟨l.n + 1, l.size + (lrec x).length, false⟩, d', 0) ∧ d'.bs = d.bs ++ lrec x ∧ d'.most = d.most ∧ d'.down = false ∧ d'.syn = d'.bs.length) ∨
    (¬ d.most - d.bs.length < (lrec x).length ∧ d.armed = true ∧ ∃ d', addL l d x = (⟨l.n, l.size, true⟩, d', 15) ∧ (d'.bs = d.bs ∨ d'.bs = d.bs ++ lrec x) ∧ d'.most = d.most ∧ d'.down = true ∧ d'.syn = d.syn) := by
  have ht : takesE l x = 0 := by
    unfold takesE
    rw [if_neg (by omega), if_neg (by omega), if_neg (by rw [hs]; decide)]
  have hl : l = ⟨l.n, l.size, false⟩ := by rw [← hs]
  unfold addL
  rw [ht, if_neg (by simp)]
  generalize lrec x = y at *
  rcases addD_cases d y hd with ⟨h1, h2⟩ | ⟨h1, d', h2, h3⟩ | ⟨h1, h0, d', h2, h3⟩
  · refine .inl ⟨h1, ?_⟩
    rw [h2, if_pos (by simp)]
    exact congrArg (·, d, 5) hl.symm
  · refine .inr (.inl ⟨h1, d', ?_, h3⟩)
    rw [h2, if_neg (by simp), hs]
  · refine .inr (.inr ⟨h1, h0, d', ?_, h3⟩)
    rw [h2, if_pos (by simp)]
    rfl
theorem addL_shut (n s : Nat) (d : Pd) (x : List Nat) (hx : 1 ≤ x.length ∧ x.length ≤ 1048576) : addL ⟨n, s, true⟩ d x = (⟨n, s, true⟩, d, 15) := by
  have ht : takesE ⟨n, s, true⟩ x = 15 := by
    unfold takesE
    rw [if_neg (by omega), if_neg (by omega), if_pos rfl]
  unfold addL
  rw [ht, if_pos (by simp)]
end Go.Proofs.Ytcmopnkldplngaa
