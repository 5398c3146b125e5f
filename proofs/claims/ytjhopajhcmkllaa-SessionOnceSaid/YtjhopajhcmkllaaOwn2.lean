/- A byte of a slice of the call's own, read and stored. And what is got of what was put, as plain laws. -/
import Derived.Test.YtjhopajhcmkllaaBs
import Derived.Test.YtjhopajhcmkllaaSum
namespace Go.Proofs.Ytjhopajhcmkllaa
open Go.RowKit

/-- append onto a slice of bytes of the call's own, in a region that draws its order. -/
theorem step_app {w : World} {ops : Array Oper} {o : Oper} {a : Act} {K : Act → World → Prop} {Q : Exit → Act → World → Prop} {E : Prop} (hgd : o.guard = none) (s x : Operand)
    (ho : o.op = .call { callee := .builtin .append, args := #[s, x], argTypes := #[25, 25] })
    {base : Nat} {v : Value} {l : List Nat} (hs : a.eval s = v) (hown : Own w base v l) {B : Nat} {A : Option Addr} {m c : Nat} {news : List Nat} (hx : a.eval x = .slice A m c)
    (hr : At w B A (bv news)) (hm : news.length = m) (hn : l.length + m ≤ 8796093022208) (hbase : base ≤ w.heap.size)
    (h : ∀ v' w', Own w' base v' (l ++ news) → Below base w w' → K (a.put o.dst v') w') :
    if Region.wanted o (yielded ops a.tmps) = true then Oper.wp Try.prog o a w K Q else E := by
  have hw : Region.wanted o (yielded ops a.tmps) = true := by simp [Region.wanted, hgd]
  rw [if_pos hw]
  obtain ⟨i0, hi0, hz0, hz1, hz2⟩ := info_parts u8_info
  subst hm
  refine wp_append_at w s x 25 ho base 5 i0 _ 1 1 Try.underlying25 hi0 hz0 hz1 hz2 rfl (by omega) v l.length (bv l) hs hown B A news.length c (bv news) hx hr
    (by simp [bv]) (bv_one news) (by unfold maxLen; omega) (by omega) hbase ?_
  intro v' w' h1 h2 h3
  refine h v' w' ?_ ((Below.refl _ _).grown h2 hbase (fun k hk => (World.ownsRow.lt hown k hk).1))
  unfold Own
  rw [List.length_append, bv_append]
  exact h1
theorem of_drew {w w' : World} (h : Below w.drew.heap.size w.drew w') : Below w.heap.size w w' := ⟨h.os, h.tape, h.output, h.size, h.block⟩
theorem of_drewN {w w' : World} {k : Nat} (h : Below (w.drewN k).heap.size (w.drewN k) w') : Below w.heap.size w w' := ⟨h.os, h.tape, h.output, h.size, h.block⟩
theorem below_drewN {B : Nat} {a w : World} (h : Below B a w) (k : Nat) : Below B a (w.drewN k) := ⟨h.os, h.tape, h.output, h.size, h.block⟩
theorem Own.head {w : World} {base : Nat} {v : Value} {l : List Nat} (h : Own w base v l) (hn : l ≠ []) : ∃ g c, v = .slice (some ⟨g, 0, none⟩) l.length c ∧ base ≤ g ∧ l.length ≤ c := by
  rcases h.2 with ⟨_, h2⟩ | ⟨g, cap, cur, h1, h2, h3, h4, h5, _⟩
  · exact absurd (List.eq_nil_of_length_eq_zero h2) hn
  · exact ⟨g, cap, h1, h2, h4⟩
theorem Own.cellAt {w : World} {base g c : Nat} {l : List Nat} (h : Own w base (.slice (some ⟨g, 0, none⟩) l.length c) l) (j : Nat) (hj : j < l.length) : w.cell? ⟨g, j, none⟩ = some (.int .u8 ((l.getD j 0 : Nat) : Int)) := by
  rw [World.ownsRow.cellAt h j (by omega)]
  simp [bv, hj]
theorem Own.frozenAt {w : World} {base g n c : Nat} {l : List Nat} (h : Own w base (.slice (some ⟨g, 0, none⟩) n c) l) (j : Nat) (hn : l.length = n) : w.frozen? ⟨g, j, none⟩ = false := by
  subst hn
  exact World.ownsRow.frozenAt h j
theorem bv_set (l : List Nat) (j x : Nat) : bv (l.set j x) = (bv l).set j (.int .u8 (x : Int)) := by simp [bv]
theorem Own.stored {w : World} {base g c : Nat} {l : List Nat} (h : Own w base (.slice (some ⟨g, 0, none⟩) l.length c) l) (j x : Nat) :
    Own (w.setCell ⟨g, j, none⟩ (.int .u8 (x : Int))) base (.slice (some ⟨g, 0, none⟩) l.length c) (l.set j x) ∧ w.grownBy (w.setCell ⟨g, j, none⟩ (.int .u8 (x : Int))) (some g) := by
  have := World.ownsRow.stored h j (.int .u8 (x : Int))
  refine ⟨?_, this.2⟩
  unfold Own
  rw [List.length_set, bv_set]
  exact this.1

theorem un_zz (m : Int) : un (zz m) = m := by
  unfold un zz
  by_cases h : 0 ≤ m
  · rw [if_pos h, if_pos (by omega)]
    omega
  · rw [if_neg h, if_neg (by omega)]
    omega
/-- A number that was put among others. -/
theorem gu_at (p : List Nat) (n : Nat) (r : List Nat) (hn : n < 18446744073709551616) (at_ : Nat) (hat : at_ = p.length) : gu (p ++ varint n ++ r) at_ = (n, at_ + (varint n).length, 0) := by
  subst hat
  refine gu_ok _ _ n (varint n).length ?_
  rw [List.append_assoc, List.drop_left]
  exact gus_varint n hn r
/-- A blob that was put among others. -/
theorem gb_at (p l r : List Nat) (most : Int) (hm : (l.length : Int) ≤ most) (hl : l.length < 18446744073709551616) (at_ : Nat) (hat : at_ = p.length) :
    gb (p ++ varint l.length ++ l ++ r) at_ most = (l, at_ + (varint l.length).length + l.length, 0) := by
  have h := gu_at p l.length (l ++ r) hl at_ hat
  rw [show p ++ varint l.length ++ l ++ r = p ++ varint l.length ++ (l ++ r) by simp]
  unfold gb
  rw [h]
  dsimp only
  rw [if_neg (by simp), if_neg (by omega), if_neg (by simp; omega)]
  subst hat
  have e : (p ++ varint l.length ++ (l ++ r)).drop (p.length + (varint l.length).length) = l ++ r := by
    rw [← List.length_append, List.drop_left]
  rw [e, List.take_left]
/-- What is got of any bytes, put again, is the same bytes. -/
theorem gu_again (l : List Nat) (h8 : ∀ x ∈ l, x < 256) (n k : Nat) (h : gu l 0 = (n, k, 0)) : 1 ≤ k ∧ k ≤ l.length ∧ l.take k = varint n ∧ n < 18446744073709551616 := by
  have hb := gu_bounds l 0 (by omega)
  rw [h] at hb
  have h1 : gus 0 0 l = (n, k, 0) := by
    unfold gu at h
    rw [List.drop_zero] at h
    simp only [Prod.mk.injEq] at h
    obtain ⟨h2, h3, h4⟩ := h
    rw [if_pos h4] at h3
    have : gus 0 0 l = ((gus 0 0 l).1, (gus 0 0 l).2.1, (gus 0 0 l).2.2) := rfl
    rw [this, h2, h4, show (gus 0 0 l).2.1 = k by omega]
  have := gu_back l h8 n k h1
  exact ⟨this.1, this.2.1, this.2.2, hb.1⟩
/-- A sealed byte that is another one. -/
theorem us_turned (l : List Nat) (h8 : ∀ x ∈ l, x < 256) (j x : Nat) (hj : j < l.length + 4) (hx : x < 256) (hne : x ≠ (l ++ be4 (crcN l)).getD j 0) :
    us ((l ++ be4 (crcN l)).set j x) = ([], 12) := by
  have hs : crcN l < 4294967296 := by unfold crcN; omega
  have hlen : ((l ++ be4 (crcN l)).set j x).length = l.length + 4 := by simp [be4_length]
  unfold us
  rw [if_neg (by omega), hlen, show l.length + 4 - 4 = l.length by omega]
  refine if_neg ?_
  by_cases h : j < l.length
  · have e1 : ((l ++ be4 (crcN l)).set j x).drop l.length = be4 (crcN l) := by
      rw [List.set_append_left _ _ h]
      have : (l.set j x).length = l.length := by simp
      rw [← this, List.drop_left]
    have e2 : ((l ++ be4 (crcN l)).set j x).take l.length = l.set j x := by
      rw [List.set_append_left _ _ h]
      have : (l.set j x).length = l.length := by simp
      rw [← this, List.take_left]
    rw [e1, e2, beN_be4 _ hs]
    have hne' : x ≠ l.getD j 0 := by
      have e : (l ++ be4 (crcN l)).getD j 0 = l.getD j 0 := by simp only [List.getD, List.getElem?_append_left h]
      rw [e] at hne
      exact hne
    have hset8 : ∀ y ∈ l.set j x, y < 256 := by
      intro y hy
      rcases List.mem_or_eq_of_mem_set hy with h1 | h1
      · exact h8 y h1
      · omega
    refine crcN_burst l (l.set j x) j (l.length - j - 1) [l.getD j 0 ^^^ x] h8 hset8 (by simp) (by simp) ?_ ?_ (lxor_set l j x h)
    · intro y hy
      simp only [List.mem_singleton] at hy
      subst hy
      refine Nat.xor_lt_two_pow (n := 8) ?_ (by omega)
      have := h8 (l[j]) (List.getElem_mem h)
      simpa [h] using this
    · exact ⟨_, by simp, fun h0 => hne' (xor_eq_zero _ _ h0).symm⟩
  · have e1 : ((l ++ be4 (crcN l)).set j x).drop l.length = (be4 (crcN l)).set (j - l.length) x := by
      rw [List.set_append_right _ _ (by omega), List.drop_left]
    have e2 : ((l ++ be4 (crcN l)).set j x).take l.length = l := by
      rw [List.set_append_right _ _ (by omega), List.take_left]
    rw [e1, e2]
    have hne' : x ≠ (be4 (crcN l)).getD (j - l.length) 0 := by
      have e : (l ++ be4 (crcN l)).getD j 0 = (be4 (crcN l)).getD (j - l.length) 0 := by simp only [List.getD, List.getElem?_append_right (show l.length ≤ j by omega)]
      rw [e] at hne
      exact hne
    generalize crcN l = s at *
    have hj4 : j - l.length < 4 := by omega
    generalize j - l.length = i at *
    rcases i with _ | _ | _ | _ | i
    · simp [be4, beN] at hne' ⊢
      omega
    · simp [be4, beN] at hne' ⊢
      omega
    · simp [be4, beN] at hne' ⊢
      omega
    · simp [be4, beN] at hne' ⊢
      omega
    · omega
end Go.Proofs.Ytjhopajhcmkllaa
