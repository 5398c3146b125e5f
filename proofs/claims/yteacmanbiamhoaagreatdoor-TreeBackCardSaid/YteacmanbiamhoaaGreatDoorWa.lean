/- The tokens of a text: plain mathematics. -/
import Derived.Test.YteacmanbiamhoaaGreatDoorLow
import Derived.Lib.ParseIntB
namespace Go.Proofs.YteacmanbiamhoaaGreatDoor
set_option linter.unusedVariables false

structure Tk where
  k : Nat
  n : Nat
  s : List Nat
  e : Nat
deriving DecidableEq

def dig (x : Nat) : Bool := decide (48 ≤ x ∧ x ≤ 57)
def ltr (x : Nat) : Bool := decide (97 ≤ x ∧ x ≤ 122 ∨ 65 ≤ x ∧ x ≤ 90 ∨ x = 95)
def blk (x : Nat) : Bool := decide (x = 32 ∨ x = 9 ∨ x = 10 ∨ x = 13)
def pln (x : Nat) : Bool := decide (32 ≤ x ∧ x ≠ 34 ∧ x ≠ 92)
def wrd (x : Nat) : Bool := ltr x || dig x
def dval (l : List Nat) : Nat := l.foldl (fun a x => 10 * a + (x - 48)) 0
def pasB (b : Bool) (x : Nat) : Bool := decide (x ≠ 10) && (b || decide (x = 35))
def pas : Bool → List Nat → Nat
  | _, [] => 0
  | b, x :: r => if pasB b x || blk x then pas (pasB b x) r + 1 else 0
def hexd (x : Nat) : Option Nat := if 48 ≤ x ∧ x ≤ 57 then some (x - 48) else if 97 ≤ x ∧ x ≤ 102 then some (x - 87) else none
def esc : List Nat → Option (Nat × Nat)
  | 92 :: 34 :: _ => some (34, 2)
  | 92 :: 92 :: _ => some (92, 2)
  | 92 :: 110 :: _ => some (10, 2)
  | 92 :: 120 :: h :: l :: _ => match hexd h, hexd l with
    | some a, some b => some (16 * a + b, 4)
    | _, _ => none
  | _ => none
theorem esc_pos {l : List Nat} {x n : Nat} (h : esc l = some (x, n)) : 2 ≤ n ∧ n ≤ l.length := by
  unfold esc at h
  split at h
  all_goals first
    | (split at h <;> simp at h <;> (obtain ⟨-, rfl⟩ := h) <;> simp)
    | (simp at h; try (obtain ⟨-, rfl⟩ := h; simp))
def say (l : List Nat) : Option (List Nat × Nat) :=
  match l with
  | [] => none
  | x :: r =>
    if x = 34 then some ([], 1)
    else if pln x then (say r).map fun p => (x :: p.1, p.2 + 1)
    else match h : esc (x :: r) with
      | none => none
      | some (y, n) => (say ((x :: r).drop n)).map fun p => (y :: p.1, p.2 + n)
termination_by l.length
decreasing_by
  · simp
  · have := esc_pos h
    simp
    omega
def signs : List (List Nat) := [[38, 38], [124, 124], [61, 61], [33, 61], [60, 61], [62, 61], [43, 43], [60], [62], [43], [45], [42], [47], [37], [33], [40], [41], [91], [93], [123], [125], [44], [59], [61]]
def sgn (l : List Nat) : Option (List Nat) := signs.find? fun s => s.isPrefixOf l
def keys : List (List Nat) := [[97, 99, 116, 111, 114], [98, 101, 99, 111, 109, 101], [99, 97, 108, 108], [101, 108, 115, 101], [102, 97, 108, 115, 101], [102, 117, 110, 99], [105, 102], [108, 101, 110], [108, 101, 116], [111, 110], [114, 101, 116, 117, 114, 110], [115, 101, 108, 102], [115, 101, 110, 100], [115, 101, 116], [115, 112, 97, 119, 110], [115, 116, 111, 112], [116, 114, 117, 101], [119, 104, 105, 108, 101]]
def dvA (a : Nat) (l : List Nat) : Nat := l.foldl (fun a x => 10 * a + (x - 48)) a
theorem tw_len {p : Nat → Bool} (l : List Nat) : (l.takeWhile p).length ≤ l.length := (List.takeWhile_sublist p).length_le
theorem tw_app {p : Nat → Bool} : ∀ (l m : List Nat), (l.takeWhile p).length < l.length → (l ++ m).takeWhile p = l.takeWhile p
  | [], m, h => by simp at h
  | x :: r, m, h => by
    simp only [List.cons_append, List.takeWhile_cons] at h ⊢
    split at h
    · rename_i hx
      rw [if_pos hx, if_pos hx, tw_app r m (by simpa using h)]
    · rename_i hx
      rw [if_neg hx, if_neg hx]
theorem tw_take {p : Nat → Bool} : ∀ (l m : List Nat) (x : Nat), p x = false → (l.take (l.takeWhile p).length ++ x :: m).takeWhile p = l.takeWhile p
  | [], m, x, h => by simp [h]
  | y :: r, m, x, h => by
    by_cases hy : p y = true
    · simp only [List.takeWhile_cons, hy, if_true, List.length_cons, List.take_succ_cons, List.cons_append]
      rw [tw_take r m x h]
    · simp [hy, h]
theorem tw_stop {p : Nat → Bool} : ∀ (l : List Nat) (h : (l.takeWhile p).length < l.length), p l[(l.takeWhile p).length] = false
  | [], h => by simp at h
  | y :: r, h => by
    by_cases hy : p y = true
    · have := tw_stop (p := p) r (by simpa [hy] using h)
      simpa [hy] using this
    · simp [hy]
theorem tw_all {p : Nat → Bool} (l : List Nat) : ∀ x ∈ l.takeWhile p, p x = true := fun x hx => List.all_eq_true.1 List.all_takeWhile x hx
theorem tw_eq {p : Nat → Bool} (l : List Nat) : l.take (l.takeWhile p).length = l.takeWhile p := by
  induction l with
  | nil => rfl
  | cons x r ih =>
    by_cases hx : p x = true
    · simp [hx, ih]
    · simp [hx]
theorem pas_le : ∀ (b : Bool) (l : List Nat), pas b l ≤ l.length
  | _, [] => by simp [pas]
  | b, x :: r => by
    unfold pas
    split
    · have := pas_le (pasB b x) r
      simp; omega
    · simp
theorem pas_app : ∀ (b : Bool) (l m : List Nat), pas b l < l.length → pas b (l ++ m) = pas b l
  | _, [], m, h => by simp [pas] at h
  | b, x :: r, m, h => by
    unfold pas at h ⊢
    simp only [List.cons_append]
    split at h
    · rename_i hx
      rw [if_pos hx, if_pos hx, pas_app _ r m (by simpa using h)]
    · rename_i hx
      rw [if_neg hx, if_neg hx]
/-- A number. -/
def num (l : List Nat) : Option Tk := if dval (l.takeWhile dig) ≤ 9223372036854775807 then some ⟨1, dval (l.takeWhile dig), [], (l.takeWhile dig).length⟩ else none
/-- The token that a text begins with. -/
def tok (l : List Nat) : Option Tk :=
  match l with
  | [] => some ⟨6, 0, [], 0⟩
  | x :: r =>
    if dig x then num (x :: r)
    else if x = 34 then (say r).map fun p => ⟨2, 0, p.1, p.2 + 1⟩
    else if ltr x then some ⟨if (x :: r).takeWhile wrd ∈ keys then 4 else 3, 0, (x :: r).takeWhile wrd, ((x :: r).takeWhile wrd).length⟩
    else (sgn (x :: r)).map fun s => ⟨5, 0, s, s.length⟩
theorem esc_app {l m : List Nat} {v : Nat × Nat} (h : esc l = some v) : esc (l ++ m) = some v := by
  revert h
  fun_cases esc l <;> intro h <;> simp_all [esc]
theorem say_nil : say [] = none := by rw [say]
theorem say_cons (x : Nat) (r : List Nat) : say (x :: r) = if x = 34 then some ([], 1) else if pln x then (say r).map fun p => (x :: p.1, p.2 + 1) else (esc (x :: r)).bind fun q => (say ((x :: r).drop q.2)).map fun p => (q.1 :: p.1, p.2 + q.2) := by
  rw [say]
  split
  · rfl
  · split
    · rfl
    · split
      · rename_i h
        rw [h]; rfl
      · rename_i h
        rw [h]; rfl
theorem say_len : ∀ (n : Nat) (l s : List Nat) (k : Nat), l.length ≤ n → say l = some (s, k) → 1 ≤ k ∧ k ≤ l.length ∧ s.length + 1 ≤ k
  | 0, [], s, k, _, h => by simp [say_nil] at h
  | n + 1, [], s, k, _, h => by simp [say_nil] at h
  | n + 1, x :: r, s, k, hn, h => by
    rw [say_cons] at h
    split at h
    · simp at h
      obtain ⟨rfl, rfl⟩ := h
      simp
    · split at h
      · simp at h
        obtain ⟨a, b, h1, rfl, rfl⟩ := h
        have := say_len n r a b (by simpa using hn) h1
        simp; omega
      · obtain ⟨⟨y, j⟩, h1, h5⟩ := Option.bind_eq_some_iff.1 h
        obtain ⟨⟨a, b⟩, h2, h6⟩ := Option.map_eq_some_iff.1 h5
        simp only [Prod.mk.injEq] at h6
        obtain ⟨rfl, rfl⟩ := h6
        have h3 := esc_pos h1
        have := say_len n _ a b (by simp only [List.length_drop, List.length_cons] at *; omega) h2
        simp only [List.length_drop, List.length_cons] at *; omega
theorem say_app : ∀ (n : Nat) (l m s : List Nat) (k : Nat), l.length ≤ n → say l = some (s, k) → say (l ++ m) = some (s, k)
  | 0, [], m, s, k, _, h => by simp [say_nil] at h
  | n + 1, [], m, s, k, _, h => by simp [say_nil] at h
  | n + 1, x :: r, m, s, k, hn, h => by
    rw [say_cons] at h
    rw [List.cons_append, say_cons]
    split at h
    · rename_i hx
      rw [if_pos hx]; exact h
    · rename_i hx
      rw [if_neg hx]
      split at h
      · rename_i hp
        rw [if_pos hp]
        simp at h
        obtain ⟨a, b, h1, rfl, rfl⟩ := h
        rw [say_app n r m a b (by simpa using hn) h1]
        rfl
      · rename_i hp
        rw [if_neg hp]
        obtain ⟨⟨y, j⟩, h1, h5⟩ := Option.bind_eq_some_iff.1 h
        obtain ⟨⟨a, b⟩, h2, h6⟩ := Option.map_eq_some_iff.1 h5
        simp only [Prod.mk.injEq] at h6
        obtain ⟨rfl, rfl⟩ := h6
        have h3 := esc_pos h1
        rw [← List.cons_append, esc_app h1]
        rw [Option.bind_some]
        show Option.map _ (say (List.drop j _)) = _
        rw [List.drop_append_of_le_length h3.2, say_app n _ m a b (by simp only [List.length_drop, List.length_cons] at *; omega) h2]
        rfl
theorem hexd_ne {x a : Nat} (h : hexd x = some a) : x ≠ 10 ∧ a < 16 := by
  unfold hexd at h
  split at h
  · simp at h; omega
  · split at h
    · simp at h; omega
    · cases h
theorem esc_take {l : List Nat} {v : Nat × Nat} (h : esc l = some v) : esc (l.take v.2) = some v ∧ (l.take v.2).count 10 = 0 ∧ v.1 < 256 := by
  revert h
  fun_cases esc l <;> intro h
  · cases h; simp [esc]
  · cases h; simp [esc]
  · cases h; simp [esc]
  · rename_i a b ha hb
    cases h
    have h1 := hexd_ne ha
    have h2 := hexd_ne hb
    refine ⟨by simp [esc, ha, hb], by simp [h1.1, h2.1], by show 16 * a + b < 256; omega⟩
  · cases h
  · cases h
/-- What a text says is said by its own bytes alone. -/
theorem say_take : ∀ (n : Nat) (l s : List Nat) (k : Nat), l.length ≤ n → say l = some (s, k) → say (l.take k) = some (s, k) ∧ (l.take k).count 10 = 0
  | 0, [], s, k, _, h => by simp [say_nil] at h
  | n + 1, [], s, k, _, h => by simp [say_nil] at h
  | n + 1, x :: r, s, k, hn, h => by
    have hl := say_len _ _ _ _ (Nat.le_refl _) h
    rw [say_cons] at h
    split at h
    · rename_i hx
      simp at h
      obtain ⟨rfl, rfl⟩ := h
      subst hx
      simp [say_cons]
    · rename_i hx
      split at h
      · rename_i hp
        simp at h
        obtain ⟨a, b, h1, rfl, rfl⟩ := h
        have ih := say_take n r a b (by simpa using hn) h1
        rw [List.take_succ_cons, say_cons, if_neg hx, if_pos hp, ih.1]
        refine ⟨rfl, ?_⟩
        rw [List.count_cons, ih.2]
        have : x ≠ 10 := by rintro rfl; simp [pln] at hp
        simp [this]
      · rename_i hp
        obtain ⟨⟨y, j⟩, h1, h5⟩ := Option.bind_eq_some_iff.1 h
        obtain ⟨⟨a, b⟩, h2, h6⟩ := Option.map_eq_some_iff.1 h5
        simp only [Prod.mk.injEq] at h6
        obtain ⟨rfl, rfl⟩ := h6
        have h3 := esc_pos h1
        have ih := say_take n _ a b (by simp only [List.length_drop, List.length_cons] at *; omega) h2
        have h4 := say_len _ _ _ _ (Nat.le_refl _) h2
        have e0 : (x :: r).take (b + j) = (x :: r).take j ++ ((x :: r).drop j).take b := by rw [Nat.add_comm, List.take_add]
        rw [e0]
        refine ⟨?_, ?_⟩
        · have e1 := (esc_take h1).1
          have hpos : 0 < j := by have := h3.1; omega
          obtain ⟨j', rfl⟩ : ∃ j', j = j' + 1 := ⟨j - 1, by omega⟩
          have e2 := esc_app (m := (List.drop (j' + 1) (x :: r)).take b) e1
          rw [List.take_succ_cons, List.cons_append] at e2 ⊢
          rw [say_cons, if_neg hx, if_neg hp, e2, Option.bind_some]
          show Option.map _ (say (List.drop (j' + 1) (x :: (r.take j' ++ _)))) = _
          rw [List.drop_succ_cons, List.drop_append_of_le_length (by simp at h3 ⊢; omega), List.drop_eq_nil_of_le (by simp; omega), List.nil_append, ih.1]
          rfl
        · rw [List.count_append, (esc_take h1).2.1, ih.2]
theorem signs_all (P : List Nat → Prop) [DecidablePred P] (h : signs.all (fun s => decide (P s)) = true) {s : List Nat} (hs : s ∈ signs) : P s := of_decide_eq_true (List.all_eq_true.1 h s hs)
theorem sgn_mem {l s : List Nat} (h : sgn l = some s) : s ∈ signs ∧ s <+: l := by
  unfold sgn at h
  have h1 := List.find?_some h
  exact ⟨List.mem_of_find?_eq_some h, List.isPrefixOf_iff_prefix.1 h1⟩
theorem sgn_len {l s : List Nat} (h : sgn l = some s) : 1 ≤ s.length ∧ s.length ≤ 2 ∧ s.count 10 = 0 := signs_all (fun s => 1 ≤ s.length ∧ s.length ≤ 2 ∧ s.count 10 = 0) (by decide) (sgn_mem h).1
theorem pfx_app {s l m : List Nat} (h : s.length ≤ l.length) : s.isPrefixOf (l ++ m) = s.isPrefixOf l := by
  rw [Bool.eq_iff_iff, List.isPrefixOf_iff_prefix, List.isPrefixOf_iff_prefix]
  refine ⟨fun hp => ?_, fun hp => hp.trans (List.prefix_append _ _)⟩
  exact List.prefix_of_prefix_length_le hp (List.prefix_append _ _) h
theorem find_congr {α : Type} {p q : α → Bool} : ∀ (l : List α), (∀ x ∈ l, p x = q x) → l.find? p = l.find? q
  | [], _ => rfl
  | x :: r, h => by
    rw [List.find?_cons, List.find?_cons, h x (by simp), find_congr r (fun y hy => h y (by simp [hy]))]
theorem sgn_app {l m s : List Nat} (h : sgn l = some s) (hl : s.length < l.length) : sgn (l ++ m) = some s := by
  rw [← h]
  have h1 := sgn_len h
  refine find_congr signs fun t ht => pfx_app ?_
  have : t.length ≤ 2 := signs_all (fun t => t.length ≤ 2) (by decide) ht
  omega
theorem sgn_cut {l m s : List Nat} (h : sgn l = some s) : sgn (s ++ 32 :: m) = some s := by
  have h1 : sgn (s ++ [32, 32]) = some s := signs_all (fun s => sgn (s ++ [32, 32]) = some s) (by decide) (sgn_mem h).1
  have h2 := sgn_app (m := m) h1 (by simp)
  have h3 := sgn_len h
  rw [← h2]
  refine find_congr signs fun t ht => ?_
  rw [Bool.eq_iff_iff, List.isPrefixOf_iff_prefix, List.isPrefixOf_iff_prefix]
  have ht2 : t.length ≤ 2 := signs_all (fun t => t.length ≤ 2) (by decide) ht
  have e1 : (s ++ 32 :: m) = (s ++ [32]) ++ m := by simp
  have e2 : (s ++ [32, 32] ++ m) = (s ++ [32]) ++ (32 :: m) := by simp
  rw [e1, e2]
  constructor <;> intro hp <;> exact (List.prefix_of_prefix_length_le hp (List.prefix_append _ _) (by simp; omega)).trans (List.prefix_append _ _)
theorem sgn_first {x : Nat} {r s : List Nat} (h : sgn (x :: r) = some s) : pasB false x = false ∧ blk x = false := by
  obtain ⟨h1, h2⟩ := sgn_mem h
  have h3 := sgn_len h
  match s, h2 with
  | [], _ => simp at h3
  | y :: t, h2 =>
    obtain ⟨z, hz⟩ := h2
    simp at hz
    rw [← hz.1]
    have := signs_all (fun s => s.all (fun y => !pasB false y && !blk y) = true) (by decide) h1
    simp at this
    exact this.1
theorem tok_nil : tok [] = some ⟨6, 0, [], 0⟩ := rfl
theorem tok_pos {l : List Nat} {t : Tk} (h : tok l = some t) : t.e ≤ l.length ∧ (t.k = 6 ↔ l = []) ∧ (l ≠ [] → 0 < t.e) ∧ 1 ≤ t.k ∧ t.k ≤ 6 := by
  unfold tok at h
  split at h
  · cases h; simp
  · rename_i x r
    split at h
    · rename_i hx
      unfold num at h
      split at h
      · cases h
        refine ⟨tw_len _, by simp, ?_, by simp, by simp⟩
        simp [hx]
      · cases h
    · split at h
      · obtain ⟨⟨a, b⟩, h1, h2⟩ := Option.map_eq_some_iff.1 h
        have := say_len _ _ _ _ (Nat.le_refl _) h1
        cases h2
        simp; omega
      · split at h
        · rename_i hx
          cases h
          have hw : wrd x = true := by simp [wrd, hx]
          refine ⟨tw_len _, ?_, ?_, ?_, ?_⟩
          · split <;> simp
          · simp [hw]
          · split <;> simp
          · split <;> simp
        · obtain ⟨s, h1, h2⟩ := Option.map_eq_some_iff.1 h
          cases h2
          have := (sgn_mem h1).2.length_le
          have := sgn_len h1
          simp at *; omega
theorem tok_app {l m : List Nat} {t : Tk} (h : tok l = some t) (hl : t.e < l.length) : tok (l ++ m) = some t := by
  match l with
  | [] => simp at hl
  | x :: r =>
    unfold tok at h ⊢
    simp only [List.cons_append] at h ⊢
    split at h
    · rename_i hx
      rw [if_pos hx]
      unfold num at h ⊢
      split at h
      · rename_i hd
        cases h
        have e := tw_app (p := dig) (x :: r) m hl
        rw [List.cons_append] at e
        rw [e, if_pos hd]
      · cases h
    · rename_i hx
      rw [if_neg hx]
      split at h
      · rename_i h34
        rw [if_pos h34]
        obtain ⟨⟨a, b⟩, h1, h2⟩ := Option.map_eq_some_iff.1 h
        rw [say_app _ _ m _ _ (Nat.le_refl _) h1]
        exact h2 ▸ rfl
      · rename_i h34
        rw [if_neg h34]
        split at h
        · rename_i hx
          rw [if_pos hx]
          cases h
          have e := tw_app (p := wrd) (x :: r) m hl
          rw [List.cons_append] at e
          rw [e]
        · rename_i hx
          rw [if_neg hx]
          obtain ⟨s, h1, h2⟩ := Option.map_eq_some_iff.1 h
          cases h2
          have e := sgn_app (m := m) h1 hl
          rw [List.cons_append] at e
          rw [e]
          rfl
theorem tok_cut {l m : List Nat} {t : Tk} (h : tok l = some t) (hl : l ≠ []) : tok (l.take t.e ++ 32 :: m) = some t ∧ (l.take t.e).count 10 = 0 := by
  have hp := tok_pos h
  match l with
  | [] => exact absurd rfl hl
  | x :: r =>
    obtain ⟨e', he⟩ : ∃ e', t.e = e' + 1 := ⟨t.e - 1, by have := hp.2.2.1 hl; omega⟩
    rw [he, List.take_succ_cons, List.cons_append]
    unfold tok at h ⊢
    simp only at h ⊢
    split at h
    · rename_i hx
      rw [if_pos hx]
      unfold num at h ⊢
      split at h
      · rename_i hd
        cases h
        have e := tw_take (p := dig) (x :: r) m 32 (by decide)
        simp only at he
        have e2 := tw_eq (p := dig) (x :: r)
        rw [he, List.take_succ_cons] at e e2
        rw [List.cons_append] at e
        rw [e, if_pos hd, he]
        refine ⟨rfl, ?_⟩
        rw [e2, List.count_eq_zero]
        intro h10
        have := tw_all _ _ h10
        simp [dig] at this
      · cases h
    · rename_i hx
      rw [if_neg hx]
      split at h
      · rename_i h34
        rw [if_pos h34]
        obtain ⟨⟨a, b⟩, h1, h2⟩ := Option.map_eq_some_iff.1 h
        cases h2
        simp only [Nat.add_right_cancel_iff] at he
        subst he
        have e := say_take _ _ _ _ (Nat.le_refl _) h1
        rw [say_app _ _ _ _ _ (Nat.le_refl _) e.1]
        refine ⟨rfl, ?_⟩
        rw [List.count_cons, e.2, h34]
        rfl
      · rename_i h34
        rw [if_neg h34]
        split at h
        · rename_i hx
          rw [if_pos hx]
          cases h
          have e := tw_take (p := wrd) (x :: r) m 32 (by decide)
          simp only at he
          have e2 := tw_eq (p := wrd) (x :: r)
          rw [he, List.take_succ_cons] at e e2
          rw [List.cons_append] at e
          rw [e, he]
          refine ⟨rfl, ?_⟩
          rw [e2, List.count_eq_zero]
          intro h10
          have := tw_all _ _ h10
          simp [wrd, ltr, dig] at this
        · rename_i hx
          rw [if_neg hx]
          obtain ⟨s, h1, h2⟩ := Option.map_eq_some_iff.1 h
          cases h2
          have e := sgn_cut (m := m) h1
          have e3 := (sgn_mem h1).2
          have e4 : (x :: r).take s.length = s := (List.prefix_iff_eq_take.1 e3).symm
          simp only at he
          rw [he, List.take_succ_cons] at e4
          rw [← List.cons_append, e4, e]
          exact ⟨rfl, (sgn_len h1).2.2⟩
theorem tok_first {x : Nat} {r : List Nat} {t : Tk} (h : tok (x :: r) = some t) : pasB false x = false ∧ blk x = false := by
  unfold tok at h
  simp only at h
  split at h
  · rename_i hx
    simp [dig] at hx
    simp [pasB, blk]; omega
  · split at h
    · rename_i hx
      subst hx
      decide
    · split at h
      · rename_i hx
        simp [ltr] at hx
        simp [pasB, blk]; omega
      · obtain ⟨s, h1, h2⟩ := Option.map_eq_some_iff.1 h
        exact sgn_first h1
/-- A digit of hex. -/
def hx (d : Nat) : Nat := if d < 10 then 48 + d else 87 + d
theorem hexd_hx (d : Nat) (h : d < 16) : hexd (hx d) = some d := by
  revert d; decide
def qw (x : Nat) : List Nat := if x = 34 ∨ x = 92 then [92, x] else if x = 10 then [92, 110] else if 32 ≤ x ∧ x ≤ 126 then [x] else [92, 120, hx (x / 16), hx (x % 16)]
/-- What Quote answers. -/
def quoW (s : List Nat) : List Nat := 34 :: (s.flatMap qw ++ [34])
theorem qw_len (x : Nat) : 1 ≤ (qw x).length ∧ (qw x).length ≤ 4 := by
  unfold qw
  split
  · simp
  · split
    · simp
    · split <;> simp
theorem hx_bound (d : Nat) (h : d < 16) : 48 ≤ hx d ∧ hx d ≤ 102 := by unfold hx; split <;> omega
theorem qw_bytes (x : Nat) (h : x < 256) : ∀ y ∈ qw x, 32 ≤ y ∧ y ≤ 126 := by
  have h1 := hx_bound (x / 16) (by omega)
  have h2 := hx_bound (x % 16) (by omega)
  unfold qw
  split
  · intro y hy; simp at hy; omega
  · split
    · intro y hy; simp at hy; omega
    · split
      · intro y hy; simp at hy; omega
      · intro y hy; simp at hy; omega
theorem quoW_bytes (s : List Nat) (h : ∀ x ∈ s, x < 256) : ∀ y ∈ quoW s, 32 ≤ y ∧ y ≤ 126 := by
  intro y hy
  simp [quoW] at hy
  rcases hy with rfl | ⟨x, hx, hy⟩ | rfl
  · omega
  · exact qw_bytes x (h x hx) y hy
  · omega
theorem quoW_len (s : List Nat) : s.length + 2 ≤ (quoW s).length ∧ (quoW s).length ≤ 4 * s.length + 2 := by
  have : ∀ s : List Nat, s.length ≤ (s.flatMap qw).length ∧ (s.flatMap qw).length ≤ 4 * s.length := by
    intro s
    induction s with
    | nil => simp
    | cons x r ih =>
      have := qw_len x
      simp only [List.flatMap_cons, List.length_append, List.length_cons]
      omega
  have := this s
  simp only [quoW, List.length_cons, List.length_append, List.length_nil] at *; omega
theorem say_qw (x : Nat) (h : x < 256) (m : List Nat) : say (qw x ++ m) = (say m).map fun p => (x :: p.1, p.2 + (qw x).length) := by
  unfold qw
  split
  · rename_i hq
    rcases hq with rfl | rfl <;> simp [say_cons, pln, esc]
  · rename_i hq
    split
    · rename_i h10
      subst h10
      simp [say_cons, pln, esc]
    · split
      · rename_i hb
        have : pln x = true := by simp [pln]; omega
        rw [List.cons_append, List.nil_append, say_cons, if_neg (by omega), if_pos this]
        rfl
      · have e : esc (92 :: 120 :: hx (x / 16) :: hx (x % 16) :: m) = some (x, 4) := by
          simp only [esc, hexd_hx (x / 16) (by omega), hexd_hx (x % 16) (by omega)]
          congr 2; omega
        show say (92 :: 120 :: hx (x / 16) :: hx (x % 16) :: m) = _
        rw [say_cons, if_neg (by omega), if_neg (by decide), e]
        rfl
theorem say_quo : ∀ (s : List Nat) (m : List Nat), (∀ x ∈ s, x < 256) → say (s.flatMap qw ++ 34 :: m) = some (s, (s.flatMap qw).length + 1)
  | [], m, _ => by simp [say_cons]
  | x :: r, m, h => by
    rw [List.flatMap_cons, List.append_assoc, say_qw x (h x (by simp)), say_quo r m (fun y hy => h y (by simp [hy]))]
    simp; omega
theorem tok_quo (s : List Nat) (h : ∀ x ∈ s, x < 256) : tok (quoW s) = some ⟨2, 0, s, (quoW s).length⟩ ∧ pas false (quoW s) = 0 := by
  refine ⟨?_, rfl⟩
  unfold quoW tok
  simp only
  rw [if_neg (by decide), if_pos trivial, say_quo s [] h]
  simp
theorem quoW_app (a b : List Nat) : quoW (a ++ b) = (quoW a).take ((quoW a).length - 1) ++ (quoW b).drop 1 := by
  have e : quoW a = (34 :: a.flatMap qw) ++ [34] := by simp [quoW]
  rw [e, List.length_append, List.length_singleton, Nat.add_sub_cancel, List.take_left]
  simp [quoW]
def atW (T : List Nat) (a : Nat) : Nat := a + pas false (T.drop a)
def lnW (T : List Nat) (a : Nat) : Nat := 1 + (T.take (atW T a)).count 10
theorem atW_le {T : List Nat} {a : Nat} (h : a ≤ T.length) : a ≤ atW T a ∧ atW T a ≤ T.length := by
  have := pas_le false (T.drop a)
  rw [List.length_drop] at this
  unfold atW; omega
/-- What ends ahead of a text's end hangs not on what comes behind it. -/
theorem next_near {T M : List Nat} {a : Nat} {t : Tk} (h : a ≤ T.length) (ht : tok (T.drop (atW T a)) = some t) (h6 : t.k ≠ 6) (hl : atW T a + t.e < T.length) :
    atW (T ++ M) a = atW T a ∧ lnW (T ++ M) a = lnW T a ∧ tok ((T ++ M).drop (atW T a)) = some t := by
  have h1 := atW_le h
  have e1 : atW (T ++ M) a = atW T a := by
    unfold atW
    rw [List.drop_append_of_le_length h]
    have h3 : pas false (T.drop a) < (T.drop a).length := by
      rw [List.length_drop]
      unfold atW at hl
      omega
    rw [pas_app _ _ _ h3]
  refine ⟨e1, ?_, ?_⟩
  · unfold lnW
    rw [e1, List.take_append_of_le_length h1.2]
  · rw [List.drop_append_of_le_length h1.2]
    exact tok_app ht (by rw [List.length_drop]; omega)
/-- What stands between. -/
def sep : List Nat := [32, 35, 32, 120, 32, 34, 40, 10, 9]
theorem pas_sep : ∀ m : List Nat, pas false (sep ++ m) = 9 + pas false m := by
  intro m
  simp [sep, pas, pasB, blk]
  omega
structure Pc (t : Tk) (b : List Nat) : Prop where
  tk : ∀ m, tok (b ++ 32 :: m) = some t
  e : t.e = b.length
  k : t.k ≠ 6
  nl : b.count 10 = 0
  ne : b ≠ []
  f : ∀ m, pas false (b ++ m) = 0
theorem pc_of {l : List Nat} {t : Tk} (h : tok l = some t) (hl : l ≠ []) : Pc t (l.take t.e) := by
  have hp := tok_pos h
  have hb : (l.take t.e).length = t.e := by rw [List.length_take]; omega
  have hne : l.take t.e ≠ [] := by
    intro e
    rw [e] at hb
    have := hp.2.2.1 hl
    simp at hb
    omega
  refine ⟨fun m => (tok_cut h hl).1, hb.symm, fun h6 => hl (hp.2.1.1 h6), (tok_cut (m := []) h hl).2, hne, fun m => ?_⟩
  match l, hl with
  | x :: r, _ =>
    have hf := tok_first h
    obtain ⟨e', he⟩ : ∃ e', t.e = e' + 1 := ⟨t.e - 1, by have := hp.2.2.1 (List.cons_ne_nil x r); omega⟩
    rw [he, List.take_succ_cons, List.cons_append, pas, hf.1, hf.2]
    rfl
def says (ps : List (Tk × List Nat)) : List Nat := ps.flatMap fun p => p.2 ++ sep
/-- Where the reading is, behind some tokens. -/
def plc (ps : List (Tk × List Nat)) : Nat := (says ps).length - 9
theorem says_snoc (ps : List (Tk × List Nat)) (p : Tk × List Nat) : says (ps ++ [p]) = says ps ++ (p.2 ++ sep) := by simp [says]
theorem says_ne {ps : List (Tk × List Nat)} (h : ps ≠ []) : ∃ r, says ps = r ++ sep := by
  obtain ⟨q, p, rfl⟩ : ∃ q p, ps = q ++ [p] := ⟨ps.dropLast, ps.getLast h, (List.dropLast_concat_getLast h).symm⟩
  exact ⟨says q ++ p.2, by rw [says_snoc, List.append_assoc]⟩
theorem says_nl : ∀ (ps : List (Tk × List Nat)), (∀ p ∈ ps, Pc p.1 p.2) → (says ps).count 10 = ps.length
  | [], _ => rfl
  | p :: r, h => by
    have h1 := (h p (by simp)).nl
    have h2 := says_nl r (fun q hq => h q (by simp [hq]))
    unfold says at h2 ⊢
    rw [List.flatMap_cons, List.count_append, List.count_append, h1, h2]
    simp [sep]; omega
/-- The place behind some tokens; what stands there. -/
theorem says_at (q r : List (Tk × List Nat)) : plc q ≤ (says (q ++ r)).length ∧ atW (says (q ++ r)) (plc q) = (says q).length + pas false (says r) ∧ (says (q ++ r)).drop ((says q).length) = says r := by
  have e0 : says (q ++ r) = says q ++ says r := by simp [says]
  refine ⟨by rw [e0, List.length_append]; unfold plc; omega, ?_, by rw [e0, List.drop_left]⟩
  by_cases hq : q = []
  · subst hq
    simp [plc, says, atW]
  · obtain ⟨s, hs⟩ := says_ne hq
    unfold atW plc
    rw [e0, hs]
    have e1 : (s ++ sep).length - 9 = s.length := by simp [sep]
    rw [e1, List.append_assoc, List.drop_left, pas_sep]
    simp [sep]; omega
theorem says_next (q r : List (Tk × List Nat)) (p : Tk × List Nat) (hq : ∀ x ∈ q, Pc x.1 x.2) (hp : Pc p.1 p.2) :
    atW (says (q ++ p :: r)) (plc q) = (says q).length ∧ lnW (says (q ++ p :: r)) (plc q) = q.length + 1 ∧ tok ((says (q ++ p :: r)).drop (atW (says (q ++ p :: r)) (plc q))) = some p.1 ∧ (says q).length + p.1.e = plc (q ++ [p]) := by
  obtain ⟨h1, h2, h3⟩ := says_at q (p :: r)
  have e1 : says (p :: r) = p.2 ++ 32 :: (sep.tail ++ says r) := by simp [says, sep]
  have e2 : pas false (says (p :: r)) = 0 := by rw [e1]; exact hp.f _
  rw [e2, Nat.add_zero] at h2
  refine ⟨h2, ?_, by rw [h2, h3, e1]; exact hp.tk _, ?_⟩
  · unfold lnW
    rw [h2]
    have e3 : says (q ++ p :: r) = says q ++ says (p :: r) := by simp [says]
    rw [e3, List.take_left, says_nl q hq]; omega
  · unfold plc
    rw [says_snoc, hp.e]
    simp [sep]; omega
theorem says_end (q : List (Tk × List Nat)) : atW (says q) (plc q) = (says q).length ∧ tok ((says q).drop (atW (says q) (plc q))) = some ⟨6, 0, [], 0⟩ := by
  obtain ⟨h1, h2, h3⟩ := says_at q []
  simp only [List.append_nil] at h1 h2 h3
  have e : pas false (says []) = 0 := rfl
  rw [e, Nat.add_zero] at h2
  refine ⟨h2, ?_⟩
  rw [h2, h3]
  rfl
theorem says_len (ps : List (Tk × List Nat)) : (says ps).length = (ps.map fun p => p.2.length).sum + 9 * ps.length := by
  induction ps with
  | nil => rfl
  | cons p r ih =>
    unfold says at ih ⊢
    rw [List.flatMap_cons, List.length_append, List.length_append, ih]
    simp [sep]; omega
/-- The line is never a lesser one. -/
theorem lnW_ge {T : List Nat} {a : Nat} (h : a ≤ T.length) : 1 + (T.take a).count 10 ≤ lnW T a ∧ lnW T a ≤ 1 + T.count 10 := by
  have h1 := atW_le h
  unfold lnW
  have e1 : List.Sublist (T.take a) (T.take (atW T a)) := by
    have : T.take a = (T.take (atW T a)).take a := by rw [List.take_take, Nat.min_eq_left h1.1]
    rw [this]; exact List.take_sublist _ _
  have := e1.count_le 10
  have := (List.take_sublist (atW T a) T).count_le 10
  omega
theorem dvA_le : ∀ (l : List Nat) (a : Nat), a ≤ dvA a l
  | [], a => Nat.le_refl a
  | x :: r, a => Nat.le_trans (by omega) (dvA_le r (10 * a + (x - 48)))
theorem parseU_dig : ∀ (l : List Nat) (a : Nat), (∀ x ∈ l, dig x = true) → Lib.parseUintM (2 ^ 64 - 1) a (l.map UInt8.ofNat) = if dvA a l ≤ 2 ^ 64 - 1 ∨ l = [] then .ok (dvA a l) else .range
  | [], a, _ => by simp [Lib.parseUintM, dvA]
  | x :: r, a, h => by
    have hx : 48 ≤ x ∧ x ≤ 57 := by simpa [dig] using h x (by simp)
    have e : (UInt8.ofNat x).toNat = x := by rw [UInt8.toNat_ofNat']; exact Nat.mod_eq_of_lt (by omega)
    have hd := dvA_le r (10 * a + (x - 48))
    rw [List.map_cons, Lib.parseUintM, e, if_pos hx, Nat.mul_comm a 10]
    rw [show dvA a (x :: r) = dvA (10 * a + (x - 48)) r from rfl]
    have hne : ¬ (x :: r = []) := by simp
    split
    · rw [if_neg (by rintro (h1 | h1); omega; exact hne h1)]
    · split
      · rw [if_neg (by rintro (h1 | h1); omega; exact hne h1)]
      · rw [parseU_dig r _ (fun y hy => h y (by simp [hy]))]
        by_cases hr : r = []
        · subst hr
          have : dvA (10 * a + (x - 48)) [] = 10 * a + (x - 48) := rfl
          rw [if_pos (.inr rfl), if_pos (.inl (by omega))]
        · by_cases h2 : dvA (10 * a + (x - 48)) r ≤ 2 ^ 64 - 1
          · rw [if_pos (.inl h2), if_pos (.inl h2)]
          · rw [if_neg (by rintro (h1 | h1); exact h2 h1; exact hr h1), if_neg (by rintro (h1 | h1); exact h2 h1; exact hne h1)]
/-- ParseInt of digits. -/
theorem parse_dig (l : List Nat) (h : ∀ x ∈ l, dig x = true) (hl : l ≠ []) : Lib.parseIntB 64 (l.map UInt8.ofNat) = if dval l ≤ 9223372036854775807 then .ok (dval l : Int) else .range := by
  match l, hl with
  | x :: r, _ =>
    have hx : 48 ≤ x ∧ x ≤ 57 := by simpa [dig] using h x (by simp)
    have e : (UInt8.ofNat x).toNat = x := by rw [UInt8.toNat_ofNat']; exact Nat.mod_eq_of_lt (by omega)
    have hp := parseU_dig (x :: r) 0 h
    have hv : dvA 0 (x :: r) = dval (x :: r) := rfl
    rw [hv] at hp
    generalize dval (x :: r) = v at hp ⊢
    unfold Lib.parseIntB
    rw [List.map_cons] at hp ⊢
    simp only [e, if_neg (show ¬ (x = 43 ∨ x = 45) by omega)]
    unfold Lib.parseUintB
    rw [if_neg (by simp), hp]
    by_cases h1 : v ≤ 2 ^ 64 - 1
    · rw [if_pos (.inl h1)]
      simp only
      by_cases h2 : v ≤ 9223372036854775807
      · rw [if_pos h2, if_neg (by omega), if_neg (by omega), if_neg (by omega)]
      · rw [if_neg h2, if_pos (by omega)]
    · rw [if_neg (by simp; omega), if_neg (by omega)]
end Go.Proofs.YteacmanbiamhoaaGreatDoor
