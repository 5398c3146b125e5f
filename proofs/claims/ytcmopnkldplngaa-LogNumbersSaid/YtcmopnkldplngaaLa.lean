/- The records of a log as plain data: what chapter 5 says. -/
import Derived.Test.YtcmopnkldplngaaSum
namespace Go.Proofs.Ytcmopnkldplngaa

/-- A record. -/
def lrec (x : List Nat) : List Nat := be4 x.length ++ be4 (crcN x) ++ x
def lrecs (l : List (List Nat)) : List Nat := l.flatMap lrec
/-- What a record may have. -/
def lgood (x : List Nat) : Prop := 1 ≤ x.length ∧ x.length ≤ 1048576 ∧ ∀ y ∈ x, y < 256
/-- The first whole record's bytes; none, if there is no such. -/
def lfirst (b : List Nat) : List Nat :=
  if b.length < 8 then [] else if 1048576 < beN (b.take 4) then [] else if b.length - 8 < beN (b.take 4) then []
  else if beN ((b.drop 4).take 4) = crcN ((b.drop 8).take (beN (b.take 4))) then (b.drop 8).take (beN (b.take 4)) else []
def lwh : Nat → List Nat → List (List Nat)
  | 0, _ => []
  | f + 1, b => if lfirst b = [] then [] else lfirst b :: lwh f (b.drop (8 + (lfirst b).length))
/-- All whole records. -/
def whole (b : List Nat) : List (List Nat) := lwh b.length b

theorem be4_beN (l : List Nat) (hl : l.length = 4) (h8 : ∀ x ∈ l, x < 256) : be4 (beN l) = l := by
  match l, hl with
  | [a, b, c, d], _ =>
    have ha := h8 a (by simp)
    have hb := h8 b (by simp)
    have hc := h8 c (by simp)
    have hd := h8 d (by simp)
    simp only [be4, beN, List.foldl_cons, List.foldl_nil, List.cons.injEq, and_true]
    refine ⟨?_, ?_, ?_, ?_⟩ <;> omega
theorem lrec_length (x : List Nat) : (lrec x).length = 8 + x.length := by
  unfold lrec
  rw [List.length_append, List.length_append, be4_length, be4_length]
theorem lrec_bytes (x : List Nat) (h : lgood x) : ∀ y ∈ lrec x, y < 256 := by
  intro y hy
  have hs : crcN x < 4294967296 := by unfold crcN; omega
  have h1 := h.2.1
  unfold lrec at hy
  rcases List.mem_append.1 hy with hy | hy
  · rcases List.mem_append.1 hy with hy | hy
    · simp [be4] at hy
      omega
    · simp [be4] at hy
      omega
  · exact h.2.2 y hy
theorem lrecs_cons (x : List Nat) (l : List (List Nat)) : lrecs (x :: l) = lrec x ++ lrecs l := rfl
theorem lrecs_append (a b : List (List Nat)) : lrecs (a ++ b) = lrecs a ++ lrecs b := List.flatMap_append
theorem lrecs_snoc (a : List (List Nat)) (x : List Nat) : lrecs (a ++ [x]) = lrecs a ++ lrec x := by
  rw [lrecs_append]
  simp [lrecs]
theorem lrec_take4 (x t : List Nat) : (lrec x ++ t).take 4 = be4 x.length := by
  unfold lrec
  rw [List.append_assoc, List.append_assoc, List.take_left' (be4_length _)]
theorem lrec_drop4 (x t : List Nat) : ((lrec x ++ t).drop 4).take 4 = be4 (crcN x) := by
  unfold lrec
  rw [List.append_assoc, List.append_assoc, List.drop_left' (be4_length _), List.take_left' (be4_length _)]
theorem lrec_drop8 (x t : List Nat) : (lrec x ++ t).drop 8 = x ++ t := by
  unfold lrec
  rw [List.append_assoc, List.drop_left' (by rw [List.length_append, be4_length, be4_length])]
theorem lfirst_rec (x t : List Nat) (h : lgood x) : lfirst (lrec x ++ t) = x := by
  have hs : crcN x < 4294967296 := by unfold crcN; omega
  have h1 := h.2.1
  have e : (x ++ t).take x.length = x := List.take_left
  unfold lfirst
  rw [lrec_take4, lrec_drop4, lrec_drop8, beN_be4 _ (by omega), beN_be4 _ hs, e, if_neg (by rw [List.length_append, lrec_length]; omega), if_neg (by omega), if_neg (by rw [List.length_append, lrec_length]; omega), if_pos rfl]
/-- A record that is cut off is none. -/
theorem lfirst_torn (x : List Nat) (k : Nat) (h : lgood x) (hk : k < (lrec x).length) : lfirst ((lrec x).take k) = [] := by
  have hl := lrec_length x
  have h1 := h.2.1
  unfold lfirst
  have e : ((lrec x).take k).length = k := by rw [List.length_take]; omega
  rw [e]
  by_cases h8 : k < 8
  · rw [if_pos h8]
  · have e2 : ((lrec x).take k).take 4 = be4 x.length := by
      rw [List.take_take, Nat.min_eq_left (by omega)]
      have := lrec_take4 x []
      rwa [List.append_nil] at this
    rw [if_neg h8, e2, beN_be4 _ (by omega), if_neg (by omega), if_pos (by omega)]
theorem lfirst_nil : lfirst [] = [] := rfl
/-- What the first record tells of the bytes. -/
theorem lfirst_back (b : List Nat) (h8 : ∀ y ∈ b, y < 256) (h : lfirst b ≠ []) : lgood (lfirst b) ∧ 8 + (lfirst b).length ≤ b.length ∧ b.take (8 + (lfirst b).length) = lrec (lfirst b) := by
  have hb : ∀ y ∈ (b.drop 8).take (beN (b.take 4)), y < 256 := fun y hy => h8 y (List.mem_of_mem_drop (List.mem_of_mem_take hy))
  unfold lfirst at h ⊢
  split at h
  · exact absurd rfl h
  · rename_i k1
    rw [if_neg k1]
    split at h
    · exact absurd rfl h
    · rename_i k2
      rw [if_neg k2]
      split at h
      · exact absurd rfl h
      · rename_i k3
        rw [if_neg k3]
        split at h
        · rename_i k4
          rw [if_pos k4]
          have e : ((b.drop 8).take (beN (b.take 4))).length = beN (b.take 4) := by rw [List.length_take, List.length_drop]; omega
          have hpos : 1 ≤ beN (b.take 4) := by
            rcases Nat.eq_zero_or_pos (beN (b.take 4)) with h0 | h0
            · rw [h0] at h
              exact absurd (List.take_zero ..) h
            · exact h0
          refine ⟨⟨by omega, by omega, hb⟩, by omega, ?_⟩
          unfold lrec
          rw [e, ← k4, be4_beN _ (by rw [List.length_take]; omega) (fun y hy => h8 y (List.mem_of_mem_take hy)), be4_beN _ (by rw [List.length_take, List.length_drop]; omega) (fun y hy => h8 y (List.mem_of_mem_drop (List.mem_of_mem_take hy)))]
          generalize beN (b.take 4) = n at *
          have e3 : b.take 4 ++ (b.drop 4).take 4 = b.take 8 := by rw [← List.take_add]
          rw [e3, ← List.take_add]
        · exact absurd rfl h
theorem lfirst_len (b : List Nat) (h : lfirst b ≠ []) : 8 + (lfirst b).length ≤ b.length := by
  unfold lfirst at h ⊢
  split at h
  · exact absurd rfl h
  · rename_i k1
    rw [if_neg k1]
    split at h
    · exact absurd rfl h
    · rename_i k2
      rw [if_neg k2]
      split at h
      · exact absurd rfl h
      · rename_i k3
        rw [if_neg k3]
        split at h
        · rename_i k4
          rw [if_pos k4, List.length_take, List.length_drop]
          omega
        · exact absurd rfl h
theorem lwh_fuel : ∀ (f g : Nat) (b : List Nat), b.length ≤ f → b.length ≤ g → lwh f b = lwh g b
  | 0, 0, _, _, _ => rfl
  | 0, g + 1, b, h, _ => by
    have : b = [] := List.eq_nil_of_length_eq_zero (by omega)
    subst this
    simp [lwh, lfirst_nil]
  | f + 1, 0, b, _, h => by
    have : b = [] := List.eq_nil_of_length_eq_zero (by omega)
    subst this
    simp [lwh, lfirst_nil]
  | f + 1, g + 1, b, hf, hg => by
    simp only [lwh]
    by_cases h : lfirst b = []
    · rw [if_pos h, if_pos h]
    · have h1 := lfirst_len b h
      rw [if_neg h, if_neg h, lwh_fuel f g _ (by rw [List.length_drop]; omega) (by rw [List.length_drop]; omega)]
theorem whole_end (b : List Nat) (h : lfirst b = []) : whole b = [] := by
  unfold whole
  cases b.length with
  | zero => rfl
  | succ n =>
    simp only [lwh]
    rw [if_pos h]
theorem whole_step (b : List Nat) (h : lfirst b ≠ []) : whole b = lfirst b :: whole (b.drop (8 + (lfirst b).length)) := by
  have h1 := lfirst_len b h
  obtain ⟨f, hf⟩ : ∃ f, b.length = f + 1 := ⟨b.length - 1, by omega⟩
  unfold whole
  rw [hf]
  simp only [lwh]
  rw [if_neg h, lwh_fuel f _ _ (by rw [List.length_drop]; omega) (Nat.le_refl _)]
theorem whole_rec (x t : List Nat) (h : lgood x) : whole (lrec x ++ t) = x :: whole t := by
  have e := lfirst_rec x t h
  rw [whole_step _ (by rw [e]; intro h0; have := h.1; rw [h0] at this; simp at this), e, ← lrec_length, List.drop_left]
theorem whole_recs : ∀ (l : List (List Nat)) (t : List Nat), (∀ x ∈ l, lgood x) → whole (lrecs l ++ t) = l ++ whole t
  | [], _, _ => rfl
  | x :: l, t, h => by
    rw [lrecs_cons, List.append_assoc, whole_rec _ _ (h x (by simp)), whole_recs l t (fun y hy => h y (List.mem_cons_of_mem _ hy))]
    rfl
theorem whole_all (l : List (List Nat)) (h : ∀ x ∈ l, lgood x) : whole (lrecs l) = l := by
  have := whole_recs l [] h
  rwa [List.append_nil, whole_end _ lfirst_nil, List.append_nil] at this
/-- What the whole records tell of the bytes. -/
theorem whole_back : ∀ (n : Nat) (b : List Nat), b.length ≤ n → (∀ y ∈ b, y < 256) → (∀ x ∈ whole b, lgood x) ∧ (lrecs (whole b)).length ≤ b.length ∧ b.take (lrecs (whole b)).length = lrecs (whole b)
  | n, b, hn, h8 => by
    by_cases h : lfirst b = []
    · rw [whole_end b h]
      exact ⟨by simp, by simp [lrecs], by simp [lrecs]⟩
    · obtain ⟨h1, h2, h3⟩ := lfirst_back b h8 h
      match n with
      | 0 => omega
      | n + 1 =>
        obtain ⟨k1, k2, k3⟩ := whole_back n (b.drop (8 + (lfirst b).length)) (by rw [List.length_drop]; omega) (fun y hy => h8 y (List.mem_of_mem_drop hy))
        rw [whole_step b h, lrecs_cons]
        rw [List.length_drop] at k2
        generalize whole (b.drop (8 + (lfirst b).length)) = ws at *
        refine ⟨fun x hx => ?_, ?_, ?_⟩
        · rcases List.mem_cons.1 hx with rfl | hx
          · exact h1
          · exact k1 x hx
        · rw [List.length_append, lrec_length]
          omega
        · rw [List.length_append, lrec_length, List.take_add, h3, k3]
theorem whole_good (b : List Nat) (h8 : ∀ y ∈ b, y < 256) : ∀ x ∈ whole b, lgood x := (whole_back _ b (Nat.le_refl _) h8).1
theorem whole_le (b : List Nat) (h8 : ∀ y ∈ b, y < 256) : (lrecs (whole b)).length ≤ b.length := (whole_back _ b (Nat.le_refl _) h8).2.1
theorem whole_take (b : List Nat) (h8 : ∀ y ∈ b, y < 256) : b.take (lrecs (whole b)).length = lrecs (whole b) := (whole_back _ b (Nat.le_refl _) h8).2.2
/-- How many records the first k bytes hold whole. -/
def lcnt : List (List Nat) → Nat → Nat
  | [], _ => 0
  | x :: l, k => if k < (lrec x).length then 0 else lcnt l (k - (lrec x).length) + 1
theorem lcnt_le : ∀ (l : List (List Nat)) (k : Nat), lcnt l k ≤ l.length
  | [], _ => Nat.le_refl _
  | x :: l, k => by
    unfold lcnt
    have := lcnt_le l (k - (lrec x).length)
    rw [List.length_cons]
    split <;> omega
theorem lcnt_mono : ∀ (l : List (List Nat)) (k m : Nat), k ≤ m → lcnt l k ≤ lcnt l m
  | [], _, _, _ => Nat.le_refl _
  | x :: l, k, m, h => by
    unfold lcnt
    have := lcnt_mono l (k - (lrec x).length) (m - (lrec x).length) (by omega)
    split <;> split <;> omega
theorem whole_cut : ∀ (l : List (List Nat)) (k : Nat), (∀ x ∈ l, lgood x) → whole ((lrecs l).take k) = l.take (lcnt l k)
  | [], k, _ => by
    have : (lrecs []).take k = [] := by simp [lrecs]
    rw [this, whole_end _ lfirst_nil]
    rfl
  | x :: l, k, h => by
    rw [lrecs_cons]
    unfold lcnt
    have hx := h x (by simp)
    by_cases hk : k < (lrec x).length
    · rw [if_pos hk, List.take_append_of_le_length (by omega), whole_end _ (lfirst_torn x k hx hk)]
      rfl
    · rw [if_neg hk, List.take_append, List.take_of_length_le (by omega), whole_rec _ _ hx, whole_cut l _ (fun y hy => h y (List.mem_cons_of_mem _ hy))]
      rfl
theorem lcnt_all (l : List (List Nat)) : lcnt l (lrecs l).length = l.length := by
  induction l with
  | nil => rfl
  | cons x l ih =>
    unfold lcnt
    rw [lrecs_cons, List.length_append, if_neg (by omega), Nat.add_sub_cancel_left, ih]
    rfl
theorem lrecs_bytes (l : List (List Nat)) (h : ∀ x ∈ l, lgood x) : ∀ y ∈ lrecs l, y < 256 := by
  intro y hy
  obtain ⟨x, hx, hyx⟩ := List.mem_flatMap.1 hy
  exact lrec_bytes x (h x hx) y hyx
end Go.Proofs.Ytcmopnkldplngaa
