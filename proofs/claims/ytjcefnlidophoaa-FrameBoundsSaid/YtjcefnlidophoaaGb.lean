/- Texts Va, Vb, Vc of this seat in one: see each part. -/
import Derived.Lib.ItoaNum
import Derived.Lib.ItoaLen
import Derived.Test.YtjcefnlidophoaaGe
namespace Go.Proofs.Ytjcefnlidophoaa

/-- A value: its kind, N, S (bytes), L. -/
inductive Va where
  | mk (k : Nat) (n : Int) (s : List Nat) (l : List Va)

/-- A right value that is no tuple. -/
def lf (k : Nat) (n : Int) (s : List Nat) (l : List Va) : Bool :=
  l.isEmpty && (if k = 1 then s.isEmpty else if k = 2 then s.isEmpty && (decide (n = 0) || decide (n = 1)) else if k = 3 then decide (n = 0) && decide (s.length ≤ 4096) else if k = 5 then s.isEmpty && decide (0 ≤ n) else false)

/-- Is a value right, of at most so many levels, so many values being left? How many are left behind it. -/
def rgt : Nat → Va → Nat → Option Nat
  | 0, _, _ => none
  | _ + 1, _, 0 => none
  | L + 1, .mk k n s l, m + 1 => if k ≠ 4 then (if lf k n s l = true then some m else none) else if n ≠ 0 ∨ s ≠ [] then none else l.foldlM (fun m v => rgt L v m) m
def right (v : Va) : Bool := (rgt 16 v 256).isSome

/-- A value's bytes. -/
def enc : Nat → Va → List Nat
  | 0, _ => []
  | L + 1, .mk k n s l => k :: (if k = 1 ∨ k = 5 then varint (zz n) else if k = 2 then [n.toNat % 256] else if k = 3 then varint s.length ++ s else if k = 4 then varint l.length ++ l.flatMap (enc L) else [])

/-- So many values one behind the other. -/
def decL (f : Nat → Nat → Except Nat (Va × Nat × Nat)) : Nat → Nat → Nat → Except Nat (List Va × Nat × Nat)
  | 0, at_, m => .ok ([], at_, m)
  | c + 1, at_, m => match f at_ m with
    | .error e => .error e
    | .ok (v, next, m') => match decL f c next m' with
      | .error e => .error e
      | .ok (l, nx, m'') => .ok (v :: l, nx, m'')
/-- A value of b at that place, that is no tuple. -/
def dlf (b : List Nat) (at_ : Nat) : Except Nat (Va × Nat) :=
  if b.getD at_ 0 = 1 then (if (gu b (at_ + 1)).2.2 = 0 then .ok (.mk 1 (un (gu b (at_ + 1)).1) [] [], (gu b (at_ + 1)).2.1) else .error (gu b (at_ + 1)).2.2)
  else if b.getD at_ 0 = 2 then (if at_ + 1 = b.length then .error 11 else if 1 < b.getD (at_ + 1) 0 then .error 10 else .ok (.mk 2 (b.getD (at_ + 1) 0 : Nat) [] [], at_ + 2))
  else if b.getD at_ 0 = 3 then (if (gb b (at_ + 1) 4096).2.2 = 0 then .ok (.mk 3 0 (gb b (at_ + 1) 4096).1 [], (gb b (at_ + 1) 4096).2.1) else .error (gb b (at_ + 1) 4096).2.2)
  else if b.getD at_ 0 = 5 then (if (gu b (at_ + 1)).2.2 = 0 then (if un (gu b (at_ + 1)).1 < 0 then .error 13 else .ok (.mk 5 (un (gu b (at_ + 1)).1) [] [], (gu b (at_ + 1)).2.1)) else .error (gu b (at_ + 1)).2.2)
  else .error 10
/-- A value of b at that place, of at most so many levels, so many values being left: it, the place behind it, how many are left then. -/
def dec (b : List Nat) : Nat → Nat → Nat → Except Nat (Va × Nat × Nat)
  | 0, _, _ => .error 13
  | _ + 1, _, 0 => .error 13
  | L + 1, at_, m + 1 =>
    if at_ = b.length then .error 11
    else if b.getD at_ 0 = 4 then
      (if (gu b (at_ + 1)).2.2 ≠ 0 then .error (gu b (at_ + 1)).2.2 else if 256 < (gu b (at_ + 1)).1 then .error 13
       else match decL (dec b L) (gu b (at_ + 1)).1 (gu b (at_ + 1)).2.1 m with
        | .error e => .error e
        | .ok (l, nx, m') => .ok (.mk 4 0 [] l, nx, m'))
    else match dlf b at_ with
      | .error e => .error e
      | .ok (v, nx) => .ok (v, nx, m)

/-- A right value, whatever there is of values in it. -/
def Rt : Nat → Va → Prop
  | 0, _ => False
  | L + 1, .mk k n s l => (k ≠ 4 ∧ lf k n s l = true) ∨ (k = 4 ∧ n = 0 ∧ s = [] ∧ ∀ t ∈ l, Rt L t)
/-- Numbers and bytes are such as there are. -/
def Ok : Nat → Va → Prop
  | 0, _ => True
  | L + 1, .mk k n s l => k < 256 ∧ -9223372036854775808 ≤ n ∧ n ≤ 9223372036854775807 ∧ (∀ x ∈ s, x < 256) ∧ ∀ t ∈ l, Ok L t

theorem foldlM_some {f : Nat → Va → Option Nat} {P : Va → Prop} (hf : ∀ v m m', f m v = some m' → P v ∧ m' ≤ m) : ∀ (l : List Va) (m m' : Nat), l.foldlM f m = some m' → (∀ t ∈ l, P t) ∧ m' ≤ m
  | [], m, m', h => by
    simp [List.foldlM] at h
    exact ⟨by simp, by omega⟩
  | v :: l, m, m', h => by
    rw [List.foldlM_cons] at h
    cases hv : f m v with
    | none => rw [hv] at h; simp at h
    | some m1 =>
      rw [hv] at h
      have h' : l.foldlM f m1 = some m' := h
      obtain ⟨h1, h2⟩ := foldlM_some hf l m1 m' h'
      obtain ⟨h3, h4⟩ := hf v m m1 hv
      exact ⟨by intro t ht; rcases List.mem_cons.1 ht with rfl | ht; exact h3; exact h1 t ht, by omega⟩

theorem rgt_rt : ∀ (L : Nat) (v : Va) (m m' : Nat), rgt L v m = some m' → Rt L v ∧ m' + 1 ≤ m
  | 0, _, _, _, h => by simp [rgt] at h
  | L + 1, .mk k n s l, 0, _, h => by simp [rgt] at h
  | L + 1, .mk k n s l, m + 1, m', h => by
    unfold rgt at h
    by_cases hk : k = 4
    · rw [if_neg (by simp [hk])] at h
      by_cases hn : n ≠ 0 ∨ s ≠ []
      · rw [if_pos hn] at h
        simp at h
      · rw [if_neg hn] at h
        have hn' : n = 0 ∧ s = [] := by
          constructor
          · by_cases h0 : n = 0
            · exact h0
            · exact absurd (.inl h0) hn
          · by_cases h0 : s = []
            · exact h0
            · exact absurd (.inr h0) hn
        obtain ⟨h1, h2⟩ := foldlM_some (P := Rt L) (fun v m m' h => ⟨(rgt_rt L v m m' h).1, by have := (rgt_rt L v m m' h).2; omega⟩) l m m' h
        exact ⟨.inr ⟨hk, hn'.1, hn'.2, h1⟩, by omega⟩
    · rw [if_pos (by simp [hk])] at h
      by_cases hl : lf k n s l = true
      · rw [if_pos hl] at h
        simp at h
        exact ⟨.inl ⟨hk, hl⟩, by omega⟩
      · rw [if_neg hl] at h
        simp at h

theorem lf_cases {k : Nat} {n : Int} {s : List Nat} {l : List Va} (h : lf k n s l = true) : l = [] ∧ ((k = 1 ∧ s = []) ∨ (k = 2 ∧ s = [] ∧ (n = 0 ∨ n = 1)) ∨ (k = 3 ∧ n = 0 ∧ s.length ≤ 4096) ∨ (k = 5 ∧ s = [] ∧ 0 ≤ n)) := by
  unfold lf at h
  simp only [Bool.and_eq_true, List.isEmpty_iff] at h
  obtain ⟨h1, h2⟩ := h
  refine ⟨h1, ?_⟩
  split at h2
  · exact .inl ⟨by assumption, by simpa using h2⟩
  · split at h2
    · exact .inr (.inl ⟨by assumption, by simpa using h2⟩)
    · split at h2
      · exact .inr (.inr (.inl ⟨by assumption, by simpa using h2⟩))
      · split at h2
        · exact .inr (.inr (.inr ⟨by assumption, by simpa using h2⟩))
        · cases h2

theorem getD_at (p q : List Nat) (x : Nat) (at_ : Nat) (h : at_ = p.length) : (p ++ x :: q).getD at_ 0 = x := by
  subst h
  simp
theorem zz_un_lt (n : Int) (h0 : -9223372036854775808 ≤ n) (h1 : n ≤ 9223372036854775807) : zz n < 18446744073709551616 := zz_lt n h0 h1

/-- A right value that is no tuple, put among others, is got. -/
theorem dlf_enc (p q : List Nat) (k : Nat) (n : Int) (s : List Nat) (l : List Va) (L : Nat) (h : lf k n s l = true) (hk : k ≠ 4) (h0 : -9223372036854775808 ≤ n) (h1 : n ≤ 9223372036854775807) (at_ : Nat) (hat : at_ = p.length) :
    dlf (p ++ enc (L + 1) (.mk k n s l) ++ q) at_ = .ok (.mk k n s l, at_ + (enc (L + 1) (.mk k n s l)).length) := by
  obtain ⟨rfl, hc⟩ := lf_cases h
  have hz := zz_lt n h0 h1
  rcases hc with ⟨rfl, rfl⟩ | ⟨rfl, rfl, hn⟩ | ⟨rfl, rfl, hs⟩ | ⟨rfl, rfl, hn⟩
  · have e : enc (L + 1) (.mk 1 n [] []) = 1 :: varint (zz n) := by simp [enc]
    rw [e, List.append_assoc, List.cons_append]
    have hb := getD_at p (varint (zz n) ++ q) 1 at_ hat
    have hg := gu_at (p ++ [1]) (zz n) q hz (at_ + 1) (by simp [hat])
    rw [show p ++ [1] ++ varint (zz n) ++ q = p ++ 1 :: (varint (zz n) ++ q) by simp] at hg
    unfold dlf
    rw [hb, if_pos rfl, hg]
    dsimp only
    rw [if_pos rfl, un_zz]
    simp
    omega
  · have e : enc (L + 1) (.mk 2 n [] []) = [2, n.toNat] := by
      rcases hn with rfl | rfl <;> simp [enc]
    rw [e, List.append_assoc]
    show dlf (p ++ 2 :: (n.toNat :: q)) at_ = _
    have hb := getD_at p (n.toNat :: q) 2 at_ hat
    have hc := getD_at (p ++ [2]) q n.toNat (at_ + 1) (by simp [hat])
    rw [show p ++ [2] ++ n.toNat :: q = p ++ 2 :: n.toNat :: q by simp] at hc
    unfold dlf
    rw [hb, if_neg (by omega), if_pos rfl, if_neg (by simp; omega), hc, if_neg (by omega)]
    have : ((n.toNat : Nat) : Int) = n := by omega
    rw [this]
    simp
  · have e : enc (L + 1) (.mk 3 0 s []) = 3 :: (varint s.length ++ s) := by simp [enc]
    rw [e, List.append_assoc, List.cons_append]
    have hb := getD_at p (varint s.length ++ s ++ q) 3 at_ hat
    have hg := gb_at (p ++ [3]) s q 4096 (by omega) (by omega) (at_ + 1) (by simp [hat])
    rw [show p ++ [3] ++ varint s.length ++ s ++ q = p ++ 3 :: (varint s.length ++ s ++ q) by simp] at hg
    unfold dlf
    rw [hb, if_neg (by omega), if_neg (by omega), if_pos rfl, hg]
    dsimp only
    rw [if_pos rfl]
    simp
    omega
  · have e : enc (L + 1) (.mk 5 n [] []) = 5 :: varint (zz n) := by simp [enc]
    rw [e, List.append_assoc, List.cons_append]
    have hb := getD_at p (varint (zz n) ++ q) 5 at_ hat
    have hg := gu_at (p ++ [5]) (zz n) q hz (at_ + 1) (by simp [hat])
    rw [show p ++ [5] ++ varint (zz n) ++ q = p ++ 5 :: (varint (zz n) ++ q) by simp] at hg
    unfold dlf
    rw [hb, if_neg (by omega), if_neg (by omega), if_neg (by omega), if_pos rfl, hg]
    dsimp only
    rw [if_pos rfl, un_zz, if_neg (by omega)]
    simp
    omega

theorem foldlM_len {L : Nat} : ∀ (l : List Va) (m m' : Nat), l.foldlM (fun m v => rgt L v m) m = some m' → l.length + m' ≤ m
  | [], m, m', h => by
    simp [List.foldlM] at h
    simp
    omega
  | v :: l, m, m', h => by
    rw [List.foldlM_cons] at h
    cases hv : rgt L v m with
    | none => rw [hv] at h; simp at h
    | some m1 =>
      rw [hv] at h
      have h' : l.foldlM (fun m v => rgt L v m) m1 = some m' := h
      have h1 := foldlM_len l m1 m' h'
      have h2 := (rgt_rt L v m m1 hv).2
      simp
      omega

theorem decL_enc (L : Nat) (b : List Nat) (ih : ∀ (v : Va) (p q : List Nat) (m m' : Nat), b = p ++ enc L v ++ q → m ≤ 256 → rgt L v m = some m' → Ok L v → dec b L p.length m = .ok (v, p.length + (enc L v).length, m')) :
    ∀ (l : List Va) (p q : List Nat) (m m' : Nat), b = p ++ l.flatMap (enc L) ++ q → m ≤ 256 → l.foldlM (fun m v => rgt L v m) m = some m' → (∀ t ∈ l, Ok L t) → decL (dec b L) l.length p.length m = .ok (l, p.length + (l.flatMap (enc L)).length, m')
  | [], p, q, m, m', _, _, h, _ => by
    simp [List.foldlM] at h
    subst h
    simp [decL]
  | v :: l, p, q, m, m', hb, hm, h, hok => by
    rw [List.foldlM_cons] at h
    cases hv : rgt L v m with
    | none => rw [hv] at h; simp at h
    | some m1 =>
      rw [hv] at h
      have h' : l.foldlM (fun m v => rgt L v m) m1 = some m' := h
      have hle := (rgt_rt L v m m1 hv).2
      have e1 := ih v p (l.flatMap (enc L) ++ q) m m1 (by rw [hb]; simp) hm hv (hok v (by simp))
      have e2 := decL_enc L b ih l (p ++ enc L v) q m1 m' (by rw [hb]; simp) (by omega) h' (fun t ht => hok t (by simp [ht]))
      rw [List.length_append] at e2
      rw [List.length_cons, decL, e1]
      dsimp only
      rw [e2]
      simp
      omega

theorem not_or0 {n : Int} {s : List Nat} (hn : ¬(n ≠ 0 ∨ s ≠ [])) : n = 0 ∧ s = [] := by
  constructor
  · by_cases h0 : n = 0
    · exact h0
    · exact absurd (.inl h0) hn
  · by_cases h0 : s = []
    · exact h0
    · exact absurd (.inr h0) hn
theorem rgt_cases {L : Nat} {k : Nat} {n : Int} {s : List Nat} {l : List Va} {m m' : Nat} (h : rgt (L + 1) (.mk k n s l) m = some m') :
    ∃ m1, m = m1 + 1 ∧ ((k ≠ 4 ∧ lf k n s l = true ∧ m1 = m') ∨ (k = 4 ∧ n = 0 ∧ s = [] ∧ l.foldlM (fun m v => rgt L v m) m1 = some m')) := by
  cases m with
  | zero => simp [rgt] at h
  | succ m =>
    refine ⟨m, rfl, ?_⟩
    unfold rgt at h
    by_cases hk : k = 4
    · rw [if_neg (by simp [hk])] at h
      by_cases hn : n ≠ 0 ∨ s ≠ []
      · rw [if_pos hn] at h
        simp at h
      · rw [if_neg hn] at h
        obtain ⟨h1, h2⟩ := not_or0 hn
        exact .inr ⟨hk, h1, h2, h⟩
    · rw [if_pos (by simp [hk])] at h
      by_cases hl : lf k n s l = true
      · rw [if_pos hl] at h
        simp at h
        exact .inl ⟨hk, hl, h⟩
      · rw [if_neg hl] at h
        simp at h
theorem enc_tuple (L : Nat) (l : List Va) : enc (L + 1) (.mk 4 0 [] l) = 4 :: (varint l.length ++ l.flatMap (enc L)) := by simp [enc]
theorem enc_pos (L : Nat) (v : Va) : enc (L + 1) v ≠ [] := by
  obtain ⟨k, n, s, l⟩ := v
  simp [enc]
theorem enc_head (L : Nat) (k : Nat) (n : Int) (s : List Nat) (l : List Va) : ∃ r, enc (L + 1) (.mk k n s l) = k :: r := ⟨_, rfl⟩

/-- What is put, with anything ahead and behind, is got. -/
theorem dec_enc : ∀ (L : Nat) (b : List Nat) (v : Va) (p q : List Nat) (m m' : Nat), b = p ++ enc L v ++ q → m ≤ 256 → rgt L v m = some m' → Ok L v → dec b L p.length m = .ok (v, p.length + (enc L v).length, m')
  | 0, _, _, _, _, _, _, _, _, h, _ => by simp [rgt] at h
  | L + 1, b, .mk k n s l, p, q, m, m', hb, hm, h, hok => by
    obtain ⟨hk8, h0, h1, hs8, hl8⟩ := hok
    obtain ⟨m1, rfl, hc⟩ := rgt_cases h
    have hne : p.length ≠ b.length := by
      rw [hb]
      simp [enc]
    have hbk : b.getD p.length 0 = k := by
      obtain ⟨r, e⟩ := enc_head L k n s l
      rw [hb, e, List.append_assoc, List.cons_append]
      exact getD_at p _ k _ rfl
    unfold dec
    rw [if_neg hne, hbk]
    rcases hc with ⟨hk, hl, rfl⟩ | ⟨rfl, rfl, rfl, hl⟩
    · rw [if_neg hk, hb, dlf_enc p q k n s l L hl hk h0 h1 _ rfl]
    · rw [if_pos rfl]
      have hlen := foldlM_len l m1 m' hl
      rw [enc_tuple] at hb ⊢
      have hg := gu_at (p ++ [4]) l.length (l.flatMap (enc L) ++ q) (by omega) (p.length + 1) (by simp)
      rw [show p ++ [4] ++ varint l.length ++ (l.flatMap (enc L) ++ q) = b by rw [hb]; simp] at hg
      rw [hg]
      dsimp only
      rw [if_neg (by simp), if_neg (by omega)]
      have e2 := decL_enc L b (fun v p q m m' => dec_enc L b v p q m m') l (p ++ [4] ++ varint l.length) q m1 m' (by rw [hb]; simp) (by omega) hl hl8
      rw [show (p ++ [4] ++ varint l.length : List Nat).length = p.length + 1 + (varint l.length).length by simp; omega] at e2
      rw [e2]
      simp
      omega

theorem mid_append (b : List Nat) (i j k : Nat) (h1 : i ≤ j) (h2 : j ≤ k) : (b.drop i).take (k - i) = (b.drop i).take (j - i) ++ (b.drop j).take (k - j) := by
  have : (b.drop i).take (k - i) = ((b.drop i).take (k - i)).take (j - i) ++ ((b.drop i).take (k - i)).drop (j - i) := (List.take_append_drop _ _).symm
  rw [this, List.take_take, Nat.min_eq_left (by omega), List.drop_take, List.drop_drop]
  congr 2
  · omega
  · congr 1
    omega
theorem mid_head (b : List Nat) (i k : Nat) (h : i < b.length) (h2 : i < k) : (b.drop i).take (k - i) = b.getD i 0 :: (b.drop (i + 1)).take (k - (i + 1)) := by
  rw [List.drop_eq_getElem_cons h, show k - i = (k - (i + 1)) + 1 by omega, List.take_succ_cons]
  simp [h]
/-- A number that is got at a place, put again, is the same bytes. -/
theorem gu_mid (b : List Nat) (h8 : ∀ x ∈ b, x < 256) (at_ : Nat) (hat : at_ ≤ b.length) (h : (gu b at_).2.2 = 0) :
    at_ < (gu b at_).2.1 ∧ (gu b at_).2.1 ≤ b.length ∧ (b.drop at_).take ((gu b at_).2.1 - at_) = varint (gu b at_).1 ∧ (gu b at_).1 < 18446744073709551616 := by
  obtain ⟨h1, _, h3⟩ := gu_bounds b at_ hat
  obtain ⟨h4, h5⟩ := h3 h
  refine ⟨h4, h5, ?_, h1⟩
  have hg : gus 0 0 (b.drop at_) = ((gu b at_).1, (gu b at_).2.1 - at_, 0) := by
    unfold gu at h ⊢
    dsimp only at h ⊢
    rw [if_pos h]
    have e : gus 0 0 (b.drop at_) = ((gus 0 0 (b.drop at_)).1, (gus 0 0 (b.drop at_)).2.1, (gus 0 0 (b.drop at_)).2.2) := rfl
    rw [h] at e
    rw [e]
    simp
  exact (gu_back (b.drop at_) (fun x hx => h8 x (List.mem_of_mem_drop hx)) _ _ hg).2.2
theorem zz_un (n : Nat) : zz (un n) = n := by
  unfold un zz
  by_cases h : n % 2 = 0
  · rw [if_pos h, if_pos (by omega)]
    omega
  · rw [if_neg h, if_neg (by omega)]
    omega
theorem un_bounds (n : Nat) (h : n < 18446744073709551616) : -9223372036854775808 ≤ un n ∧ un n ≤ 9223372036854775807 := by
  unfold un
  split <;> omega
theorem gb_ok (b : List Nat) (h8 : ∀ x ∈ b, x < 256) (at_ : Nat) (hat : at_ ≤ b.length) (most : Int) (h : (gb b at_ most).2.2 = 0) :
    at_ < (gb b at_ most).2.1 ∧ (gb b at_ most).2.1 ≤ b.length ∧ (b.drop at_).take ((gb b at_ most).2.1 - at_) = varint (gb b at_ most).1.length ++ (gb b at_ most).1 ∧ ((gb b at_ most).1.length : Int) ≤ most := by
  have hm := gu_mid b h8 at_ hat
  unfold gb at h ⊢
  by_cases h0 : (gu b at_).2.2 ≠ 0
  · rw [if_pos h0] at h
    exact absurd h h0
  · rw [if_neg h0] at h ⊢
    by_cases h1 : most < 0 ∨ most < ((gu b at_).1 : Int)
    · rw [if_pos h1] at h
      simp at h
    · rw [if_neg h1] at h ⊢
      by_cases h2 : b.length - (gu b at_).2.1 < (gu b at_).1
      · rw [if_pos h2] at h
        simp at h
      · rw [if_neg h2] at h ⊢
        obtain ⟨h3, h4, h5, h6⟩ := hm (by simpa using h0)
        dsimp only
        have e : ((b.drop (gu b at_).2.1).take (gu b at_).1).length = (gu b at_).1 := by
          simp
          omega
        rw [e]
        refine ⟨by omega, by omega, ?_, by omega⟩
        rw [mid_append b at_ (gu b at_).2.1 _ (by omega) (by omega), h5]
        congr 2
        omega

/-- What is got, where it is no tuple, is right, and put again is the same bytes. -/
theorem dlf_back (b : List Nat) (h8 : ∀ x ∈ b, x < 256) (at_ : Nat) (hat : at_ < b.length) (v : Va) (nx L : Nat) (h : dlf b at_ = .ok (v, nx)) :
    ∃ k n s, v = .mk k n s [] ∧ k ≠ 4 ∧ lf k n s [] = true ∧ Ok (L + 1) v ∧ at_ < nx ∧ nx ≤ b.length ∧ (b.drop at_).take (nx - at_) = enc (L + 1) v := by
  unfold dlf at h
  have hu := gu_mid b h8 (at_ + 1) (by omega)
  have hb := gb_ok b h8 (at_ + 1) (by omega) 4096
  split at h
  · rename_i hk
    split at h
    · rename_i he
      obtain ⟨h1, h2, h3, h4⟩ := hu he
      obtain ⟨h5, h6⟩ := un_bounds _ h4
      simp only [Except.ok.injEq, Prod.mk.injEq] at h
      obtain ⟨rfl, rfl⟩ := h
      refine ⟨1, _, [], rfl, by omega, by simp [lf], ⟨by omega, h5, h6, by simp, by simp⟩, by omega, h2, ?_⟩
      rw [mid_head b at_ _ hat (by omega), hk, h3]
      simp [enc, zz_un]
    · cases h
  · split at h
    · rename_i hk
      split at h
      · cases h
      · rename_i hl
        split at h
        · cases h
        · rename_i hx
          simp only [Except.ok.injEq, Prod.mk.injEq] at h
          obtain ⟨rfl, rfl⟩ := h
          refine ⟨2, _, [], rfl, by omega, ?_, ⟨by omega, by omega, by omega, by simp, by simp⟩, by omega, by omega, ?_⟩
          · generalize b.getD (at_ + 1) 0 = x at hx ⊢
            simp [lf]
            omega
          · rw [mid_head b at_ _ hat (by omega), hk, mid_head b (at_ + 1) _ (by omega) (by omega)]
            generalize b.getD (at_ + 1) 0 = x at hx ⊢
            simp [enc]
            omega
    · split at h
      · rename_i hk
        split at h
        · rename_i he
          obtain ⟨h1, h2, h3, h4⟩ := hb he
          simp only [Except.ok.injEq, Prod.mk.injEq] at h
          obtain ⟨rfl, rfl⟩ := h
          refine ⟨3, 0, _, rfl, by omega, ?_, ⟨by omega, by omega, by omega, gus_mem _ b (at_ + 1) 4096 h8 rfl, by simp⟩, by omega, h2, ?_⟩
          · simp [lf]
            omega
          · rw [mid_head b at_ _ hat (by omega), hk, h3]
            simp [enc]
        · cases h
      · split at h
        · rename_i hk
          split at h
          · rename_i he
            split at h
            · cases h
            · rename_i hn
              obtain ⟨h1, h2, h3, h4⟩ := hu he
              obtain ⟨h5, h6⟩ := un_bounds _ h4
              simp only [Except.ok.injEq, Prod.mk.injEq] at h
              obtain ⟨rfl, rfl⟩ := h
              refine ⟨5, _, [], rfl, by omega, ?_, ⟨by omega, h5, h6, by simp, by simp⟩, by omega, h2, ?_⟩
              · simp [lf]
                omega
              · rw [mid_head b at_ _ hat (by omega), hk, h3]
                simp [enc, zz_un]
          · cases h
        · cases h

theorem decL_back (L : Nat) (b : List Nat) (ih : ∀ (at_ m : Nat) (v : Va) (nx m' : Nat), at_ ≤ b.length → dec b L at_ m = .ok (v, nx, m') → rgt L v m = some m' ∧ Ok L v ∧ at_ ≤ nx ∧ nx ≤ b.length ∧ (b.drop at_).take (nx - at_) = enc L v) :
    ∀ (c at_ m : Nat) (l : List Va) (nx m' : Nat), at_ ≤ b.length → decL (dec b L) c at_ m = .ok (l, nx, m') → l.length = c ∧ l.foldlM (fun m v => rgt L v m) m = some m' ∧ (∀ t ∈ l, Ok L t) ∧ at_ ≤ nx ∧ nx ≤ b.length ∧ (b.drop at_).take (nx - at_) = l.flatMap (enc L)
  | 0, at_, m, l, nx, m', hat, h => by
    simp only [decL, Except.ok.injEq, Prod.mk.injEq] at h
    obtain ⟨rfl, rfl, rfl⟩ := h
    simp [List.foldlM, hat]
  | c + 1, at_, m, l, nx, m', hat, h => by
    rw [decL] at h
    cases hv : dec b L at_ m with
    | error e => rw [hv] at h; simp at h
    | ok r =>
      obtain ⟨v, n1, m1⟩ := r
      rw [hv] at h
      dsimp only at h
      obtain ⟨h1, h2, h3, h4, h5⟩ := ih at_ m v n1 m1 hat hv
      cases hr : decL (dec b L) c n1 m1 with
      | error e => rw [hr] at h; simp at h
      | ok r =>
        obtain ⟨l', n2, m2⟩ := r
        rw [hr] at h
        simp only [Except.ok.injEq, Prod.mk.injEq] at h
        obtain ⟨rfl, rfl, rfl⟩ := h
        obtain ⟨g1, g2, g3, g4, g5, g6⟩ := decL_back L b ih c n1 m1 l' n2 m2 h4 hr
        refine ⟨by simp [g1], ?_, ?_, by omega, g5, ?_⟩
        · rw [List.foldlM_cons, h1]
          exact g2
        · intro t ht
          rcases List.mem_cons.1 ht with rfl | ht
          · exact h2
          · exact g3 t ht
        · rw [mid_append b at_ n1 n2 h3 g4, h5, g6]
          simp
theorem rgt_leaf {L m : Nat} {k : Nat} {n : Int} {s : List Nat} {l : List Va} (hk : k ≠ 4) (h : lf k n s l = true) : rgt (L + 1) (.mk k n s l) (m + 1) = some m := by
  rw [rgt, if_pos hk, if_pos h]
theorem rgt_tuple {L m : Nat} {l : List Va} : rgt (L + 1) (.mk 4 0 [] l) (m + 1) = l.foldlM (fun m v => rgt L v m) m := by
  rw [rgt, if_neg (by simp), if_neg (by simp)]
/-- What is got is right, and put again is the same bytes. -/
theorem dec_back (b : List Nat) (h8 : ∀ x ∈ b, x < 256) : ∀ (L at_ m : Nat) (v : Va) (nx m' : Nat), at_ ≤ b.length → dec b L at_ m = .ok (v, nx, m') → rgt L v m = some m' ∧ Ok L v ∧ at_ ≤ nx ∧ nx ≤ b.length ∧ (b.drop at_).take (nx - at_) = enc L v
  | 0, _, _, _, _, _, _, h => by simp [dec] at h
  | L + 1, _, 0, _, _, _, _, h => by simp [dec] at h
  | L + 1, at_, m + 1, v, nx, m', hat, h => by
    unfold dec at h
    by_cases he : at_ = b.length
    · rw [if_pos he] at h
      cases h
    · rw [if_neg he] at h
      by_cases hk : b.getD at_ 0 = 4
      · rw [if_pos hk] at h
        by_cases h0 : (gu b (at_ + 1)).2.2 ≠ 0
        · rw [if_pos h0] at h
          cases h
        · rw [if_neg h0] at h
          by_cases h1 : 256 < (gu b (at_ + 1)).1
          · rw [if_pos h1] at h
            cases h
          · rw [if_neg h1] at h
            obtain ⟨g1, g2, g3, g4⟩ := gu_mid b h8 (at_ + 1) (by omega) (by simpa using h0)
            cases hr : decL (dec b L) (gu b (at_ + 1)).1 (gu b (at_ + 1)).2.1 m with
            | error e => rw [hr] at h; simp at h
            | ok r =>
              obtain ⟨l, n2, m2⟩ := r
              rw [hr] at h
              simp only [Except.ok.injEq, Prod.mk.injEq] at h
              obtain ⟨rfl, rfl, rfl⟩ := h
              obtain ⟨f1, f2, f3, f4, f5, f6⟩ := decL_back L b (dec_back b h8 L) _ _ m l n2 m2 g2 hr
              refine ⟨by rw [rgt_tuple]; exact f2, ⟨by omega, by omega, by omega, by simp, f3⟩, by omega, f5, ?_⟩
              rw [mid_head b at_ _ (by omega) (by omega), hk, mid_append b (at_ + 1) (gu b (at_ + 1)).2.1 n2 (by omega) f4, g3, f6, enc_tuple, f1]
      · rw [if_neg hk] at h
        cases hr : dlf b at_ with
        | error e => rw [hr] at h; simp at h
        | ok r =>
          obtain ⟨v', n2⟩ := r
          rw [hr] at h
          simp only [Except.ok.injEq, Prod.mk.injEq] at h
          obtain ⟨rfl, rfl, rfl⟩ := h
          obtain ⟨k, n, s, rfl, g1, g2, g3, g4, g5, g6⟩ := dlf_back b h8 at_ (by omega) v' n2 L hr
          exact ⟨rgt_leaf g1 g2, g3, by omega, g5, g6⟩
end Go.Proofs.Ytjcefnlidophoaa
namespace Go.Proofs.Ytjcefnlidophoaa

theorem gu_cut (p : List Nat) (n k : Nat) (hn : n < 18446744073709551616) (hk : k < (varint n).length) (at_ : Nat) (hat : at_ = p.length) : gu (p ++ (varint n).take k) at_ = (0, 0, 11) := by
  subst hat
  refine gu_err _ _ 11 (by omega) ?_
  rw [List.drop_left]
  exact gus_short n k hn hk
theorem gb_cut (p s : List Nat) (k : Nat) (hs : s.length ≤ 4096) (hk : k < (varint s.length ++ s).length) (at_ : Nat) (hat : at_ = p.length) : gb (p ++ (varint s.length ++ s).take k) at_ 4096 = ([], 0, 11) := by
  by_cases h : k < (varint s.length).length
  · rw [List.take_append_of_le_length (by omega)]
    have := gu_cut p s.length k (by omega) h at_ hat
    unfold gb
    rw [this]
    simp
  · rw [List.take_append, List.take_of_length_le (by omega)]
    have hj : k - (varint s.length).length < s.length := by
      rw [List.length_append] at hk
      omega
    have hg := gu_at p s.length (s.take (k - (varint s.length).length)) (by omega) at_ hat
    rw [List.append_assoc] at hg
    unfold gb
    rw [hg]
    dsimp only
    rw [if_neg (by simp), if_neg (by omega), if_pos (by simp; omega)]
theorem dlf_cut (p : List Nat) (j : Nat) (k : Nat) (n : Int) (s : List Nat) (l : List Va) (L : Nat) (h : lf k n s l = true) (h0 : -9223372036854775808 ≤ n) (h1 : n ≤ 9223372036854775807) (hj0 : j ≠ 0) (hj : j < (enc (L + 1) (.mk k n s l)).length) (at_ : Nat) (hat : at_ = p.length) :
    dlf (p ++ (enc (L + 1) (.mk k n s l)).take j) at_ = .error 11 := by
  obtain ⟨i, rfl⟩ : ∃ i, j = i + 1 := ⟨j - 1, by omega⟩
  obtain ⟨rfl, hc⟩ := lf_cases h
  have hz := zz_lt n h0 h1
  rcases hc with ⟨rfl, rfl⟩ | ⟨rfl, rfl, hn⟩ | ⟨rfl, rfl, hs⟩ | ⟨rfl, rfl, hn⟩
  · have e : enc (L + 1) (.mk 1 n [] []) = 1 :: varint (zz n) := by simp [enc]
    rw [e] at hj ⊢
    rw [List.take_succ_cons]
    have hb := getD_at p ((varint (zz n)).take i) 1 at_ hat
    have hg := gu_cut (p ++ [1]) (zz n) i hz (by simpa using hj) (at_ + 1) (by simp [hat])
    rw [List.append_assoc, List.singleton_append] at hg
    unfold dlf
    rw [hb, if_pos rfl, hg]
    simp
  · have e : enc (L + 1) (.mk 2 n [] []) = [2, n.toNat] := by
      rcases hn with rfl | rfl <;> simp [enc]
    rw [e] at hj ⊢
    have : i = 0 := by
      simp at hj
      omega
    subst this
    have hb := getD_at p [] 2 at_ hat
    rw [List.take_succ_cons, List.take_zero]
    unfold dlf
    rw [hb, if_neg (by omega), if_pos rfl, if_pos (by simp [hat])]
  · have e : enc (L + 1) (.mk 3 0 s []) = 3 :: (varint s.length ++ s) := by simp [enc]
    rw [e] at hj ⊢
    rw [List.take_succ_cons]
    have hb := getD_at p ((varint s.length ++ s).take i) 3 at_ hat
    have hg := gb_cut (p ++ [3]) s i hs (by rw [List.length_cons] at hj; omega) (at_ + 1) (by simp [hat])
    rw [List.append_assoc, List.singleton_append] at hg
    unfold dlf
    rw [hb, if_neg (by omega), if_neg (by omega), if_pos rfl, hg]
    simp
  · have e : enc (L + 1) (.mk 5 n [] []) = 5 :: varint (zz n) := by simp [enc]
    rw [e] at hj ⊢
    rw [List.take_succ_cons]
    have hb := getD_at p ((varint (zz n)).take i) 5 at_ hat
    have hg := gu_cut (p ++ [5]) (zz n) i hz (by simpa using hj) (at_ + 1) (by simp [hat])
    rw [List.append_assoc, List.singleton_append] at hg
    unfold dlf
    rw [hb, if_neg (by omega), if_neg (by omega), if_neg (by omega), if_pos rfl, hg]
    simp
theorem decL_cut (L : Nat) (b : List Nat) (ih : ∀ (v : Va) (p : List Nat) (m m' j : Nat), b = p ++ (enc L v).take j → j < (enc L v).length → m ≤ 256 → rgt L v m = some m' → Ok L v → dec b L p.length m = .error 11) :
    ∀ (l : List Va) (p : List Nat) (m m' j : Nat), b = p ++ (l.flatMap (enc L)).take j → j < (l.flatMap (enc L)).length → m ≤ 256 → l.foldlM (fun m v => rgt L v m) m = some m' → (∀ t ∈ l, Ok L t) → decL (dec b L) l.length p.length m = .error 11
  | [], _, _, _, _, _, hj, _, _, _ => by simp at hj
  | v :: l, p, m, m', j, hb, hj, hm, h, hok => by
    rw [List.foldlM_cons] at h
    cases hv : rgt L v m with
    | none => rw [hv] at h; simp at h
    | some m1 =>
      rw [hv] at h
      have h' : l.foldlM (fun m v => rgt L v m) m1 = some m' := h
      have hle := (rgt_rt L v m m1 hv).2
      rw [List.flatMap_cons] at hb hj
      rw [List.length_cons, decL]
      by_cases hc : j < (enc L v).length
      · rw [List.take_append_of_le_length (by omega)] at hb
        rw [ih v p m m1 j hb hc hm hv (hok v (by simp))]
      · rw [List.take_append, List.take_of_length_le (by omega)] at hb
        rw [dec_enc L b v p _ m m1 (by rw [hb, List.append_assoc]) hm hv (hok v (by simp))]
        dsimp only
        have e2 := decL_cut L b ih l (p ++ enc L v) m1 m' (j - (enc L v).length) (by rw [hb]; simp) (by rw [List.length_append] at hj; omega) (by omega) h' (fun t ht => hok t (by simp [ht]))
        rw [List.length_append] at e2
        rw [e2]
/-- What is put and cut is short. -/
theorem dec_cut : ∀ (L : Nat) (b : List Nat) (v : Va) (p : List Nat) (m m' j : Nat), b = p ++ (enc L v).take j → j < (enc L v).length → m ≤ 256 → rgt L v m = some m' → Ok L v → dec b L p.length m = .error 11
  | 0, _, _, _, _, _, _, _, _, _, h, _ => by simp [rgt] at h
  | L + 1, b, .mk k n s l, p, m, m', j, hb, hj, hm, h, hok => by
    obtain ⟨hk8, h0, h1, hs8, hl8⟩ := hok
    obtain ⟨m1, rfl, hc⟩ := rgt_cases h
    unfold dec
    by_cases hj0 : j = 0
    · rw [if_pos (by rw [hb, hj0]; simp)]
    · obtain ⟨r, e⟩ := enc_head L k n s l
      have hne : p.length ≠ b.length := by
        rw [hb]
        simp [e]
        omega
      have hbk : b.getD p.length 0 = k := by
        rw [hb, e]
        obtain ⟨i, rfl⟩ : ∃ i, j = i + 1 := ⟨j - 1, by omega⟩
        rw [List.take_succ_cons]
        exact getD_at p _ k _ rfl
      rw [if_neg hne, hbk]
      rcases hc with ⟨hk, hl, rfl⟩ | ⟨rfl, rfl, rfl, hl⟩
      · rw [if_neg hk, hb, dlf_cut p j k n s l L hl h0 h1 hj0 hj _ rfl]
      · rw [if_pos rfl]
        have hlen := foldlM_len l m1 m' hl
        obtain ⟨i, rfl⟩ : ∃ i, j = i + 1 := ⟨j - 1, by omega⟩
        rw [enc_tuple] at hb hj
        rw [List.take_succ_cons] at hb
        by_cases hi : i < (varint l.length).length
        · rw [List.take_append_of_le_length (by omega)] at hb
          have hg := gu_cut (p ++ [4]) l.length i (by omega) hi (p.length + 1) (by simp)
          rw [List.append_assoc, List.singleton_append, ← hb] at hg
          rw [hg]
          simp
        · rw [List.take_append, List.take_of_length_le (by omega)] at hb
          have hg := gu_at (p ++ [4]) l.length ((l.flatMap (enc L)).take (i - (varint l.length).length)) (by omega) (p.length + 1) (by simp)
          rw [show p ++ [4] ++ varint l.length ++ (l.flatMap (enc L)).take (i - (varint l.length).length) = b by rw [hb]; simp] at hg
          rw [hg]
          dsimp only
          rw [if_neg (by simp), if_neg (by omega)]
          have e2 := decL_cut L b (fun v p m m' j => dec_cut L b v p m m' j) l (p ++ [4] ++ varint l.length) m1 m' (i - (varint l.length).length) (by rw [hb]; simp) (by
            rw [List.length_cons, List.length_append] at hj
            omega) (by omega) hl hl8
          rw [show (p ++ [4] ++ varint l.length : List Nat).length = p.length + 1 + (varint l.length).length by simp; omega] at e2
          rw [e2]
/-- No right value's bytes are the begin of another one's. -/
theorem enc_inj (L : Nat) (a b : Va) (x y : List Nat) (m m' : Nat) (ha : rgt L a 256 = some m) (hb : rgt L b 256 = some m') (oa : Ok L a) (ob : Ok L b) (h : enc L a ++ x = enc L b ++ y) : a = b := by
  have h1 := dec_enc L (enc L a ++ x) a [] x 256 m (by simp) (by omega) ha oa
  have h2 := dec_enc L (enc L a ++ x) b [] y 256 m' (by simp [h]) (by omega) hb ob
  rw [h1] at h2
  simp only [Except.ok.injEq, Prod.mk.injEq] at h2
  exact h2.1

/-! The order. -/
def sg (a b : Int) : Int := if a < b then -1 else if b < a then 1 else 0
def cml : List Nat → List Nat → Int
  | [], [] => 0
  | [], _ :: _ => -1
  | _ :: _, [] => 1
  | x :: a, y :: b => if x < y then -1 else if y < x then 1 else cml a b
def cmF (f : Va → Va → Int) : List Va → List Va → Int
  | x :: a, y :: b => if f x y ≠ 0 then f x y else cmF f a b
  | _, _ => 0
/-- -1, 0 or 1, as the first is below the second, the same, above, so many levels being asked. -/
def cmv : Nat → Va → Va → Int
  | 0, _, _ => 0
  | L + 1, .mk k n s l, .mk k' n' s' l' =>
    if k ≠ k' then sg k k' else if k = 1 ∨ k = 2 ∨ k = 5 then sg n n' else if k = 3 then cml s s'
    else if k = 4 then (if l.length ≠ l'.length then sg l.length l'.length else cmF (cmv L) l l') else 0

/-- The same, of values of one kind. -/
def cmb (f : Va → Va → Int) (k : Nat) (n : Int) (s : List Nat) (l : List Va) (n' : Int) (s' : List Nat) (l' : List Va) : Int :=
  if k = 1 ∨ k = 2 ∨ k = 5 then sg n n' else if k = 3 then cml s s' else if k = 4 then (if l.length ≠ l'.length then sg l.length l'.length else cmF f l l') else 0
theorem cmv_same (L k : Nat) (n n' : Int) (s s' : List Nat) (l l' : List Va) : cmv (L + 1) (.mk k n s l) (.mk k n' s' l') = cmb (cmv L) k n s l n' s' l' := by
  rw [cmv, if_neg (fun h => h rfl)]
  rfl
theorem cmv_other {L k k' : Nat} {n n' : Int} {s s' : List Nat} {l l' : List Va} (h : k ≠ k') : cmv (L + 1) (.mk k n s l) (.mk k' n' s' l') = sg k k' := by
  rw [cmv, if_pos h]
/-- Three answers that are an order's. -/
def Tri (x y z : Int) : Prop := x ≤ 0 → y ≤ 0 → z ≤ 0 ∧ (z = 0 → x = 0 ∧ y = 0)
theorem sg_self (a : Int) : sg a a = 0 := by unfold sg; split <;> (try split) <;> omega
theorem sg_anti (a b : Int) : sg b a = - sg a b := by unfold sg; split <;> (try split) <;> (try split) <;> omega
theorem sg_range (a b : Int) : -1 ≤ sg a b ∧ sg a b ≤ 1 := by unfold sg; split <;> (try split) <;> omega
theorem sg_zero {a b : Int} (h : sg a b = 0) : a = b := by unfold sg at h; split at h <;> (try split at h) <;> omega
theorem sg_tri (a b c : Int) : Tri (sg a b) (sg b c) (sg a c) := by
  unfold Tri sg
  split <;> split <;> split <;> (try split) <;> (try split) <;> (try split) <;> omega
theorem sg_lt {a b : Int} (h : a < b) : sg a b = -1 := by unfold sg; rw [if_pos h]
theorem sg_gt {a b : Int} (h : b < a) : sg a b = 1 := by unfold sg; rw [if_neg (by omega), if_pos h]
theorem cml_lt {x y : Nat} {a b : List Nat} (h : x < y) : cml (x :: a) (y :: b) = -1 := by rw [cml, if_pos h]
theorem cml_gt {x y : Nat} {a b : List Nat} (h : y < x) : cml (x :: a) (y :: b) = 1 := by rw [cml, if_neg (by omega), if_pos h]
theorem cml_eq {x : Nat} {a b : List Nat} : cml (x :: a) (x :: b) = cml a b := by rw [cml, if_neg (by omega), if_neg (by omega)]
theorem cml_self : ∀ a, cml a a = 0
  | [] => rfl
  | x :: a => by rw [cml, if_neg (by omega), if_neg (by omega), cml_self a]
theorem cml_anti : ∀ a b, cml b a = - cml a b
  | [], [] => rfl
  | [], _ :: _ => rfl
  | _ :: _, [] => rfl
  | x :: a, y :: b => by
    rw [cml, cml]
    rcases Nat.lt_trichotomy x y with h | h | h
    · rw [if_neg (by omega), if_pos h, if_pos h]; rfl
    · rw [if_neg (by omega), if_neg (by omega), if_neg (by omega), if_neg (by omega), cml_anti a b]
    · rw [if_pos h, if_neg (by omega), if_pos h]
theorem cml_range : ∀ a b, -1 ≤ cml a b ∧ cml a b ≤ 1
  | [], [] => by simp [cml]
  | [], _ :: _ => by simp [cml]
  | _ :: _, [] => by simp [cml]
  | x :: a, y :: b => by
    rw [cml]
    have := cml_range a b
    split
    · omega
    · split <;> omega
theorem cml_zero : ∀ {a b}, cml a b = 0 → a = b
  | [], [], _ => rfl
  | [], _ :: _, h => by simp [cml] at h
  | _ :: _, [], h => by simp [cml] at h
  | x :: a, y :: b, h => by
    rw [cml] at h
    split at h
    · omega
    · split at h
      · omega
      · rw [cml_zero h, show x = y by omega]
theorem cml_tri : ∀ a b c, Tri (cml a b) (cml b c) (cml a c)
  | [], [], [] => by simp [cml, Tri]
  | [], [], _ :: _ => by simp [cml, Tri]
  | [], _ :: _, [] => by simp [cml, Tri]
  | [], y :: b, z :: c => by
    intro _ _
    simp [cml]
  | _ :: _, [], _ => by
    intro h
    simp [cml] at h
  | _ :: _, _ :: _, [] => by
    intro _ h
    simp [cml] at h
  | x :: a, y :: b, z :: c => by
    have ih := cml_tri a b c
    unfold Tri at ih ⊢
    intro h1 h2
    rcases Nat.lt_trichotomy x y with h | h | h
    · rw [cml_lt h] at h1 ⊢
      rcases Nat.lt_trichotomy y z with g | g | g
      · rw [cml_lt (show x < z by omega)]; omega
      · rw [cml_lt (show x < z by omega)]; omega
      · rw [cml_gt g] at h2; omega
    · subst h
      rw [cml_eq] at h1 ⊢
      rcases Nat.lt_trichotomy x z with g | g | g
      · rw [cml_lt g]; omega
      · subst g
        rw [cml_eq] at h2 ⊢
        rw [cml_eq]
        exact ih h1 h2
      · rw [cml_gt g] at h2; omega
    · rw [cml_gt h] at h1; omega
theorem cmF_self {f : Va → Va → Int} (hf : ∀ a, f a a = 0) : ∀ l, cmF f l l = 0
  | [] => rfl
  | x :: l => by rw [cmF, if_neg (by simp [hf]), cmF_self hf l]
theorem cmF_anti {f : Va → Va → Int} (hf : ∀ a b, f b a = - f a b) : ∀ a b, cmF f b a = - cmF f a b
  | [], [] => rfl
  | [], _ :: _ => rfl
  | _ :: _, [] => rfl
  | x :: a, y :: b => by
    rw [cmF, cmF, hf x y]
    by_cases h : f x y = 0
    · rw [if_neg (by omega), if_neg (by omega), cmF_anti hf a b]
    · rw [if_pos (by omega), if_pos h]
theorem cmF_range {f : Va → Va → Int} (hf : ∀ a b, -1 ≤ f a b ∧ f a b ≤ 1) : ∀ a b, -1 ≤ cmF f a b ∧ cmF f a b ≤ 1
  | [], [] => by simp [cmF]
  | [], _ :: _ => by simp [cmF]
  | _ :: _, [] => by simp [cmF]
  | x :: a, y :: b => by
    rw [cmF]
    split
    · exact hf x y
    · exact cmF_range hf a b
theorem cmF_tri {f : Va → Va → Int} (hf : ∀ a b c, Tri (f a b) (f b c) (f a c)) : ∀ a b c, a.length = b.length → b.length = c.length → Tri (cmF f a b) (cmF f b c) (cmF f a c)
  | [], [], [], _, _ => by simp [cmF, Tri]
  | x :: a, y :: b, z :: c, h, g => by
    have ih := cmF_tri hf a b c (by simpa using h) (by simpa using g)
    have h0 := hf x y z
    unfold Tri at ih h0 ⊢
    rw [cmF, cmF, cmF]
    intro h1 h2
    have hx : f x y ≤ 0 := by
      by_cases e : f x y = 0
      · omega
      · rw [if_pos e] at h1; exact h1
    have hy : f y z ≤ 0 := by
      by_cases e : f y z = 0
      · omega
      · rw [if_pos e] at h2; exact h2
    obtain ⟨h3, h4⟩ := h0 hx hy
    by_cases e : f x z = 0
    · obtain ⟨h5, h6⟩ := h4 e
      rw [if_neg (by omega)] at h1 h2 ⊢
      rw [if_neg (by omega), if_neg (by omega)]
      exact ih h1 h2
    · rw [if_pos e]
      omega
/-- It is an order. -/
theorem cmv_self : ∀ (L : Nat) (a : Va), cmv L a a = 0
  | 0, _ => rfl
  | L + 1, .mk k n s l => by
    rw [cmv_same]
    unfold cmb
    split
    · exact sg_self n
    · split
      · exact cml_self s
      · split
        · rw [if_neg (by omega)]
          exact cmF_self (cmv_self L) l
        · rfl
theorem cmv_anti : ∀ (L : Nat) (a b : Va), cmv L b a = - cmv L a b
  | 0, _, _ => rfl
  | L + 1, .mk k n s l, .mk k' n' s' l' => by
    by_cases hk : k = k'
    · subst hk
      rw [cmv_same, cmv_same]
      unfold cmb
      by_cases g1 : k = 1 ∨ k = 2 ∨ k = 5
      · rw [if_pos g1, if_pos g1]
        exact sg_anti n n'
      · rw [if_neg g1, if_neg g1]
        by_cases g2 : k = 3
        · rw [if_pos g2, if_pos g2]
          exact cml_anti s s'
        · rw [if_neg g2, if_neg g2]
          by_cases g3 : k = 4
          · rw [if_pos g3, if_pos g3]
            by_cases hl : l.length = l'.length
            · rw [if_neg (by omega), if_neg (by omega)]
              exact cmF_anti (cmv_anti L) l l'
            · rw [if_pos (by omega), if_pos hl]
              exact sg_anti _ _
          · rw [if_neg g3, if_neg g3]
            rfl
    · rw [cmv_other (Ne.symm hk), cmv_other hk]
      exact sg_anti _ _
theorem cmv_range : ∀ (L : Nat) (a b : Va), -1 ≤ cmv L a b ∧ cmv L a b ≤ 1
  | 0, _, _ => by simp [cmv]
  | L + 1, .mk k n s l, .mk k' n' s' l' => by
    rw [cmv]
    split
    · exact sg_range _ _
    · split
      · exact sg_range _ _
      · split
        · exact cml_range _ _
        · split
          · split
            · exact sg_range _ _
            · exact cmF_range (cmv_range L) l l'
          · omega
theorem cmv_tri : ∀ (L : Nat) (a b c : Va), Tri (cmv L a b) (cmv L b c) (cmv L a c)
  | 0, _, _, _ => by simp [cmv, Tri]
  | L + 1, .mk k n s l, .mk k' n' s' l', .mk k'' n'' s'' l'' => by
    by_cases h1 : k = k'
    · by_cases h2 : k' = k''
      · subst h1
        subst h2
        rw [cmv_same, cmv_same, cmv_same]
        unfold cmb
        by_cases g1 : k = 1 ∨ k = 2 ∨ k = 5
        · rw [if_pos g1, if_pos g1, if_pos g1]
          exact sg_tri _ _ _
        · rw [if_neg g1, if_neg g1, if_neg g1]
          by_cases g2 : k = 3
          · rw [if_pos g2, if_pos g2, if_pos g2]
            exact cml_tri _ _ _
          · rw [if_neg g2, if_neg g2, if_neg g2]
            by_cases g3 : k = 4
            · rw [if_pos g3, if_pos g3, if_pos g3]
              by_cases f1 : l.length = l'.length
              · by_cases f2 : l'.length = l''.length
                · rw [if_neg (by omega), if_neg (by omega), if_neg (by omega)]
                  exact cmF_tri (cmv_tri L) l l' l'' f1 f2
                · rw [if_neg (by omega), if_pos f2, if_pos (by omega)]
                  intro h3 h4
                  have : sg l.length l''.length = sg l'.length l''.length := by rw [f1]
                  have := @sg_zero l'.length l''.length
                  omega
              · by_cases f2 : l'.length = l''.length
                · rw [if_pos f1, if_neg (by omega), if_pos (by omega)]
                  intro h3 h4
                  have : sg l.length l''.length = sg l.length l'.length := by rw [f2]
                  have := @sg_zero l.length l'.length
                  omega
                · rw [if_pos f1, if_pos f2]
                  by_cases f3 : l.length = l''.length
                  · rw [if_neg (by omega)]
                    intro h3 h4
                    have e := sg_anti l.length l'.length
                    rw [← f3] at h4
                    have := @sg_zero l.length l'.length
                    omega
                  · rw [if_pos f3]
                    exact sg_tri _ _ _
            · rw [if_neg g3, if_neg g3, if_neg g3]
              simp [Tri]
      · subst h1
        rw [cmv_other h2, cmv_other h2]
        intro h3 h4
        have := @sg_zero k k''
        omega
    · by_cases h2 : k' = k''
      · subst h2
        rw [cmv_other h1, cmv_other h1]
        intro h3 h4
        have := @sg_zero k k'
        omega
      · rw [cmv_other h1, cmv_other h2]
        by_cases h3 : k = k''
        · subst h3
          intro h3 h4
          have e := sg_anti k k'
          have := @sg_zero k k'
          omega
        · rw [cmv_other h3]
          exact sg_tri _ _ _
theorem cmF_zero {f : Va → Va → Int} : ∀ {a b : List Va}, (∀ x ∈ a, ∀ y ∈ b, f x y = 0 → x = y) → a.length = b.length → cmF f a b = 0 → a = b
  | [], [], _, _, _ => rfl
  | x :: a, y :: b, hf, h, h0 => by
    rw [cmF] at h0
    by_cases e : f x y = 0
    · rw [if_neg (by omega)] at h0
      rw [hf x (by simp) y (by simp) e, cmF_zero (fun x hx y hy => hf x (by simp [hx]) y (by simp [hy])) (by simpa using h) h0]
    · rw [if_pos e] at h0
      exact absurd h0 e
/-- Of right values only the same are the same. -/
theorem cmv_zero : ∀ (L : Nat) (a b : Va), Rt L a → Rt L b → cmv L a b = 0 → a = b
  | 0, _, _, h, _, _ => h.elim
  | L + 1, .mk k n s l, .mk k' n' s' l', ha, hb, h => by
    rw [cmv] at h
    by_cases hk : k = k'
    · subst hk
      rw [if_neg (by simp)] at h
      rcases ha with ⟨h1, h2⟩ | ⟨h1, rfl, rfl, h4⟩
      · rcases hb with ⟨g1, g2⟩ | ⟨g1, _⟩
        · obtain ⟨rfl, hc⟩ := lf_cases h2
          obtain ⟨rfl, hd⟩ := lf_cases g2
          rcases hc with ⟨rfl, rfl⟩ | ⟨rfl, rfl, _⟩ | ⟨rfl, rfl, _⟩ | ⟨rfl, rfl, _⟩
          · rw [if_pos (by simp)] at h
            have hs : s' = [] := by rcases hd with h | h | h | h <;> first | exact h.2 | exact h.2.1 | omega
            rw [sg_zero h, hs]
          · rw [if_pos (by simp)] at h
            have hs : s' = [] := by rcases hd with h | h | h | h <;> first | omega | exact h.2.1
            rw [sg_zero h, hs]
          · rw [if_neg (by simp), if_pos rfl] at h
            have hn : n' = 0 := by rcases hd with h | h | h | h <;> first | omega | exact h.2.1
            rw [cml_zero h, hn]
          · rw [if_pos (by simp)] at h
            have hs : s' = [] := by rcases hd with h | h | h | h <;> first | omega | exact h.2.1
            rw [sg_zero h, hs]
        · exact absurd g1 h1
      · subst h1
        rcases hb with ⟨g1, _⟩ | ⟨_, rfl, rfl, g4⟩
        · exact absurd rfl g1
        · rw [if_neg (by simp), if_neg (by simp), if_pos rfl] at h
          by_cases hl : l.length = l'.length
          · rw [if_neg (by omega)] at h
            rw [cmF_zero (fun x hx y hy => cmv_zero L x y (h4 x hx) (g4 y hy)) hl h]
          · rw [if_pos hl] at h
            have := sg_zero h
            omega
    · rw [if_pos hk] at h
      have := sg_zero h
      omega

/-! Of how many levels a value is asked says nothing, where it has no more. -/
theorem flatMap_same {f g : Va → List Nat} : ∀ l : List Va, (∀ t ∈ l, f t = g t) → l.flatMap f = l.flatMap g
  | [], _ => rfl
  | v :: l, h => by rw [List.flatMap_cons, List.flatMap_cons, h v (by simp), flatMap_same l (fun t ht => h t (by simp [ht]))]
theorem enc_more : ∀ (L : Nat) (v : Va), Rt L v → enc (L + 1) v = enc L v
  | 0, _, h => h.elim
  | L + 1, .mk k n s l, h => by
    rcases h with ⟨h1, h2⟩ | ⟨rfl, rfl, rfl, h4⟩
    · obtain ⟨rfl, _⟩ := lf_cases h2
      simp [enc]
    · rw [enc_tuple, enc_tuple, flatMap_same l (fun t ht => enc_more L t (h4 t ht))]
theorem cmF_same {f g : Va → Va → Int} : ∀ a b : List Va, (∀ x ∈ a, ∀ y, f x y = g x y) → cmF f a b = cmF g a b
  | [], [], _ => rfl
  | [], _ :: _, _ => rfl
  | _ :: _, [], _ => rfl
  | x :: a, y :: b, h => by
    rw [cmF, cmF, h x (by simp), cmF_same a b (fun x hx y => h x (by simp [hx]) y)]
theorem cmv_more : ∀ (L : Nat) (v u : Va), Rt L v → cmv (L + 1) v u = cmv L v u
  | 0, _, _, h => h.elim
  | L + 1, .mk k n s l, .mk k' n' s' l', h => by
    rw [cmv, cmv]
    rcases h with ⟨h1, h2⟩ | ⟨rfl, rfl, rfl, h4⟩
    · rw [if_neg h1, if_neg h1]
    · rw [cmF_same l l' (fun t ht u => cmv_more L t u (h4 t ht))]
theorem rgtL_more {f g : Va → Nat → Option Nat} : ∀ (l : List Va) (m m' : Nat), (∀ t ∈ l, ∀ m m', f t m = some m' → g t m = some m') → l.foldlM (fun m v => f v m) m = some m' → l.foldlM (fun m v => g v m) m = some m'
  | [], m, m', _, h => h
  | v :: l, m, m', hfg, h => by
    rw [List.foldlM_cons] at h ⊢
    cases hv : f v m with
    | none => rw [hv] at h; simp at h
    | some m1 =>
      rw [hv] at h
      rw [hfg v (by simp) m m1 hv]
      exact rgtL_more l m1 m' (fun t ht => hfg t (by simp [ht])) h
theorem rgt_more : ∀ (L : Nat) (v : Va) (m m' : Nat), rgt L v m = some m' → rgt (L + 1) v m = some m'
  | 0, _, _, _, h => by simp [rgt] at h
  | L + 1, .mk k n s l, m, m', h => by
    obtain ⟨m1, rfl, hc⟩ := rgt_cases h
    rcases hc with ⟨h1, h2, rfl⟩ | ⟨rfl, rfl, rfl, h4⟩
    · exact rgt_leaf h1 h2
    · rw [rgt_tuple]
      exact rgtL_more l m1 m' (fun t _ m m' => rgt_more L t m m') h4
end Go.Proofs.Ytjcefnlidophoaa
namespace Go.Proofs.Ytjcefnlidophoaa

/-- A number's digits. -/
def itoaN (n : Int) : List Nat := (Lib.itoa n).map UInt8.toNat
def hx (d : Nat) : Nat := if d < 10 then 48 + d else 87 + d
def qb (x : Nat) : List Nat := if 32 ≤ x ∧ x ≤ 126 ∧ x ≠ 34 ∧ x ≠ 92 then [x] else [92, hx (x / 16), hx (x % 16)]
/-- Bytes in quotes. -/
def quo (s : List Nat) : List Nat := 34 :: (s.flatMap qb ++ [34])
def shR : List (List Nat) → List Nat
  | [] => [41]
  | y :: r => 44 :: 32 :: (y ++ shR r)
def shT : List (List Nat) → List Nat
  | [] => [41]
  | [x] => x ++ [44, 41]
  | x :: r => x ++ shR r
/-- A value's text. -/
def shw : Nat → Va → List Nat
  | 0, _ => []
  | L + 1, .mk k n s l => if k = 1 then itoaN n else if k = 2 then (if n = 1 then [116, 114, 117, 101] else [102, 97, 108, 115, 101]) else if k = 3 then quo s else if k = 4 then 40 :: shT (l.map (shw L)) else if k = 5 then 64 :: itoaN n else []
/-- The parts, parted. -/
def jn : List (List Nat) → List Nat
  | [] => []
  | x :: r => x ++ r.flatMap fun y => 44 :: 32 :: y
theorem jn_snoc (l : List (List Nat)) (y : List Nat) : jn (l ++ [y]) = jn l ++ ((if 0 < l.length then [44, 32] else []) ++ y) := by
  cases l with
  | nil => simp [jn]
  | cons x r => simp [jn]
theorem shR_jn : ∀ r : List (List Nat), shR r = (r.flatMap fun y => 44 :: 32 :: y) ++ [41]
  | [] => rfl
  | y :: r => by rw [shR, shR_jn r]; simp
theorem shT_jn (l : List (List Nat)) : shT l = jn l ++ ((if l.length = 1 then [44] else []) ++ [41]) := by
  match l with
  | [] => rfl
  | [x] => simp [shT, jn]
  | x :: y :: r => simp [shT, jn, shR_jn]

/-! Numerals. -/
def dval (l : List Nat) : Nat := l.foldl (fun a c => a * 10 + (c - 48)) 0
theorem dval_snoc (l : List Nat) (c : Nat) : dval (l ++ [c]) = dval l * 10 + (c - 48) := by simp [dval]
theorem digit_nat (d : Nat) (h : d < 10) : (UInt8.ofNat (48 + d)).toNat = 48 + d := by
  rw [UInt8.toNat_ofNat']
  omega
theorem dec_digits (u : Nat) : dval ((Lib.decDigits u).map UInt8.toNat) = u ∧ (∀ c ∈ (Lib.decDigits u).map UInt8.toNat, 48 ≤ c ∧ c ≤ 57) ∧ (Lib.decDigits u).map UInt8.toNat ≠ [] := by
  induction u using Nat.strongRecOn with
  | _ u ih =>
    by_cases h : u < 10
    · rw [Lib.decDigits, dif_pos h, List.map_singleton, digit_nat u h]
      refine ⟨by simp [dval], by simp; omega, by simp⟩
    · rw [Lib.decDigits, dif_neg h, List.map_append, List.map_singleton, digit_nat (u % 10) (by omega)]
      obtain ⟨h1, h2, h3⟩ := ih (u / 10) (by omega)
      refine ⟨by rw [dval_snoc, h1]; omega, ?_, by simp⟩
      intro c hc
      rcases List.mem_append.1 hc with hc | hc
      · exact h2 c hc
      · simp at hc
        omega
theorem split_at {D : Nat → Prop} : ∀ (a b p q : List Nat), (∀ c ∈ a, D c) → (∀ c ∈ b, D c) → (∀ c, p.head? = some c → ¬ D c) → (∀ c, q.head? = some c → ¬ D c) → a ++ p = b ++ q → a = b ∧ p = q
  | [], [], p, q, _, _, _, _, h => ⟨rfl, h⟩
  | [], y :: b, p, q, _, hb, hp, _, h => by
    have h' : p = y :: (b ++ q) := h
    exact absurd (hb y (by simp)) (hp y (by rw [h']; rfl))
  | x :: a, [], p, q, ha, _, _, hq, h => by
    have h' : q = x :: (a ++ p) := h.symm
    exact absurd (ha x (by simp)) (hq x (by rw [h']; rfl))
  | x :: a, y :: b, p, q, ha, hb, hp, hq, h => by
    have h' : x :: (a ++ p) = y :: (b ++ q) := h
    injection h' with h1 h2
    obtain ⟨h3, h4⟩ := split_at a b p q (fun c hc => ha c (by simp [hc])) (fun c hc => hb c (by simp [hc])) hp hq h2
    exact ⟨by rw [h1, h3], h4⟩
/-- What ends a value's text. -/
def Dl (p : List Nat) : Prop := ∀ c, p.head? = some c → c = 44 ∨ c = 41
theorem itoaN_parts (n : Int) : itoaN n = if n < 0 then 45 :: (Lib.decDigits n.natAbs).map UInt8.toNat else (Lib.decDigits n.toNat).map UInt8.toNat := by
  unfold itoaN Lib.itoa
  split <;> rfl
theorem itoaN_head (n : Int) : ∃ c r, itoaN n = c :: r ∧ (c = 45 ∨ (48 ≤ c ∧ c ≤ 57)) := by
  rw [itoaN_parts]
  split
  · exact ⟨45, _, rfl, .inl rfl⟩
  · obtain ⟨_, h2, h3⟩ := dec_digits n.toNat
    cases h : (Lib.decDigits n.toNat).map UInt8.toNat with
    | nil => exact absurd h h3
    | cons c r => exact ⟨c, r, rfl, .inr (h2 c (by rw [h]; simp))⟩
theorem itoaN_inj (n m : Int) (p q : List Nat) (hp : Dl p) (hq : Dl q) (h : itoaN n ++ p = itoaN m ++ q) : n = m ∧ p = q := by
  have np : ∀ c, p.head? = some c → ¬ (48 ≤ c ∧ c ≤ 57) := fun c hc => by have := hp c hc; omega
  have nq : ∀ c, q.head? = some c → ¬ (48 ≤ c ∧ c ≤ 57) := fun c hc => by have := hq c hc; omega
  rw [itoaN_parts, itoaN_parts] at h
  by_cases h1 : n < 0
  · by_cases h2 : m < 0
    · rw [if_pos h1, if_pos h2, List.cons_append, List.cons_append] at h
      injection h with _ h
      obtain ⟨a1, a2, _⟩ := dec_digits n.natAbs
      obtain ⟨b1, b2, _⟩ := dec_digits m.natAbs
      obtain ⟨h3, h4⟩ := split_at (D := fun c => 48 ≤ c ∧ c ≤ 57) _ _ p q a2 b2 np nq h
      rw [h3, b1] at a1
      exact ⟨by omega, h4⟩
    · rw [if_pos h1, if_neg h2] at h
      obtain ⟨b1, b2, b3⟩ := dec_digits m.toNat
      cases hm : (Lib.decDigits m.toNat).map UInt8.toNat with
      | nil => exact absurd hm b3
      | cons c r =>
        rw [hm, List.cons_append, List.cons_append] at h
        injection h with h _
        have := b2 c (by rw [hm]; simp)
        omega
  · by_cases h2 : m < 0
    · rw [if_neg h1, if_pos h2] at h
      obtain ⟨b1, b2, b3⟩ := dec_digits n.toNat
      cases hm : (Lib.decDigits n.toNat).map UInt8.toNat with
      | nil => exact absurd hm b3
      | cons c r =>
        rw [hm, List.cons_append, List.cons_append] at h
        injection h with h _
        have := b2 c (by rw [hm]; simp)
        omega
    · rw [if_neg h1, if_neg h2] at h
      obtain ⟨a1, a2, _⟩ := dec_digits n.toNat
      obtain ⟨b1, b2, _⟩ := dec_digits m.toNat
      obtain ⟨h3, h4⟩ := split_at (D := fun c => 48 ≤ c ∧ c ≤ 57) _ _ p q a2 b2 np nq h
      rw [h3, b1] at a1
      exact ⟨by omega, h4⟩

/-! Quotes. -/
theorem hx_inj (a b : Nat) (ha : a < 16) (hb : b < 16) (h : hx a = hx b) : a = b := by
  unfold hx at h
  split at h <;> split at h <;> omega
theorem quo_inj : ∀ (s t p q : List Nat), (∀ x ∈ s, x < 256) → (∀ x ∈ t, x < 256) → s.flatMap qb ++ 34 :: p = t.flatMap qb ++ 34 :: q → s = t ∧ p = q
  | [], [], p, q, _, _, h => by
    simp at h
    exact ⟨rfl, h⟩
  | [], y :: t, p, q, _, _, h => by
    rw [List.flatMap_cons] at h
    unfold qb at h
    split at h
    · simp at h
      omega
    · simp at h
  | x :: s, [], p, q, _, _, h => by
    rw [List.flatMap_cons] at h
    unfold qb at h
    split at h
    · simp at h
      omega
    · simp at h
  | x :: s, y :: t, p, q, hs, ht, h => by
    have hx8 := hs x (by simp)
    have hy8 := ht y (by simp)
    rw [List.flatMap_cons, List.flatMap_cons, List.append_assoc, List.append_assoc] at h
    have key : x = y ∧ s.flatMap qb ++ 34 :: p = t.flatMap qb ++ 34 :: q := by
      generalize s.flatMap qb ++ 34 :: p = X at h ⊢
      generalize t.flatMap qb ++ 34 :: q = Y at h ⊢
      unfold qb at h
      split at h
      · split at h
        · simp at h
          exact h
        · simp at h
          omega
      · split at h
        · simp at h
          omega
        · simp at h
          have h1 := hx_inj _ _ (by omega) (by omega) h.1
          have h2 := hx_inj _ _ (by omega) (by omega) h.2.1
          exact ⟨by omega, h.2.2⟩
    obtain ⟨h1, h2⟩ := quo_inj s t p q (fun x hx => hs x (by simp [hx])) (fun x hx => ht x (by simp [hx])) key.2
    exact ⟨by rw [key.1, h1], h2⟩

/-! Text. -/
theorem shw_head (L : Nat) (k : Nat) (n : Int) (s : List Nat) (l : List Va) (h : Rt (L + 1) (.mk k n s l)) : ∃ c r, shw (L + 1) (.mk k n s l) = c :: r ∧
    ((k = 1 ∧ (c = 45 ∨ (48 ≤ c ∧ c ≤ 57))) ∨ (k = 2 ∧ (c = 116 ∨ c = 102)) ∨ (k = 3 ∧ c = 34) ∨ (k = 4 ∧ c = 40) ∨ (k = 5 ∧ c = 64)) := by
  have hk : k = 1 ∨ k = 2 ∨ k = 3 ∨ k = 4 ∨ k = 5 := by
    rcases h with ⟨_, h2⟩ | ⟨h1, _⟩
    · obtain ⟨_, h3⟩ := lf_cases h2
      omega
    · omega
  rcases hk with rfl | rfl | rfl | rfl | rfl
  · obtain ⟨c, r, h1, h2⟩ := itoaN_head n
    exact ⟨c, r, by simp [shw, h1], .inl ⟨rfl, h2⟩⟩
  · by_cases h1 : n = 1
    · exact ⟨116, _, by simp [shw, h1]; rfl, .inr (.inl ⟨rfl, .inl rfl⟩)⟩
    · exact ⟨102, _, by simp [shw, h1]; rfl, .inr (.inl ⟨rfl, .inr rfl⟩)⟩
  · exact ⟨34, _, by simp [shw, quo]; rfl, .inr (.inr (.inl ⟨rfl, rfl⟩))⟩
  · exact ⟨40, _, by simp [shw]; rfl, .inr (.inr (.inr (.inl ⟨rfl, rfl⟩)))⟩
  · exact ⟨64, _, by simp [shw]; rfl, .inr (.inr (.inr (.inr ⟨rfl, rfl⟩)))⟩
theorem shR_dl (l : List (List Nat)) (p : List Nat) : Dl (shR l ++ p) := by
  intro c hc
  cases l with
  | nil => simp [shR] at hc; omega
  | cons y r => simp [shR] at hc; omega
theorem shR_inj {f : Va → List Nat} : ∀ (a b : List Va), (∀ x ∈ a, ∀ y ∈ b, ∀ p q, Dl p → Dl q → f x ++ p = f y ++ q → x = y ∧ p = q) → ∀ (p q : List Nat), shR (a.map f) ++ p = shR (b.map f) ++ q → a = b ∧ p = q
  | [], [], _, p, q, h => by
    simp [shR] at h
    exact ⟨rfl, h⟩
  | [], y :: b, _, p, q, h => by simp [shR] at h
  | x :: a, [], _, p, q, h => by simp [shR] at h
  | x :: a, y :: b, hf, p, q, h => by
    simp only [List.map_cons, shR, List.cons_append, List.append_assoc, List.cons.injEq, true_and] at h
    obtain ⟨h1, h2⟩ := hf x (by simp) y (by simp) _ _ (shR_dl _ _) (shR_dl _ _) h
    obtain ⟨h3, h4⟩ := shR_inj a b (fun x hx y hy => hf x (by simp [hx]) y (by simp [hy])) p q h2
    exact ⟨by rw [h1, h3], h4⟩
theorem shT_inj {f : Va → List Nat} (a b : List Va) (hh : ∀ x ∈ a ++ b, ∃ c r, f x = c :: r ∧ c ≠ 41) (hf : ∀ x ∈ a, ∀ y ∈ b, ∀ p q, Dl p → Dl q → f x ++ p = f y ++ q → x = y ∧ p = q) (p q : List Nat) (h : shT (a.map f) ++ p = shT (b.map f) ++ q) : a = b ∧ p = q := by
  have dl1 : ∀ (c : Nat) (p : List Nat), (c = 44 ∨ c = 41) → Dl (c :: p) := by
    intro c p hc d hd
    simp at hd
    omega
  match a, b with
  | [], [] =>
    simp [shT] at h
    exact ⟨rfl, h⟩
  | [], y :: b =>
    obtain ⟨c, r, h1, h2⟩ := hh y (by simp)
    cases b <;> simp [shT, h1] at h <;> omega
  | x :: a, [] =>
    obtain ⟨c, r, h1, h2⟩ := hh x (by simp)
    cases a <;> simp [shT, h1] at h <;> omega
  | [x], [y] =>
    simp only [List.map_cons, List.map_nil, shT, List.append_assoc, List.cons_append, List.nil_append] at h
    obtain ⟨h1, h2⟩ := hf x (by simp) y (by simp) _ _ (dl1 _ _ (.inl rfl)) (dl1 _ _ (.inl rfl)) h
    simp at h2
    exact ⟨by rw [h1], h2⟩
  | [x], y :: z :: b =>
    simp only [List.map_cons, List.map_nil, shT, shR, List.append_assoc, List.cons_append, List.nil_append] at h
    obtain ⟨h1, h2⟩ := hf x (by simp) y (by simp) _ _ (dl1 _ _ (.inl rfl)) (dl1 _ _ (.inl rfl)) h
    simp at h2
  | x :: z :: a, [y] =>
    simp only [List.map_cons, List.map_nil, shT, shR, List.append_assoc, List.cons_append, List.nil_append] at h
    obtain ⟨h1, h2⟩ := hf x (by simp) y (by simp) _ _ (dl1 _ _ (.inl rfl)) (dl1 _ _ (.inl rfl)) h
    simp at h2
  | x :: z :: a, y :: u :: b =>
    have e : ∀ (x z : Va) (a : List Va), shT ((x :: z :: a).map f) = f x ++ shR ((z :: a).map f) := fun _ _ _ => rfl
    rw [e, e, List.append_assoc, List.append_assoc] at h
    obtain ⟨h1, h2⟩ := hf x (by simp) y (by simp) _ _ (shR_dl _ _) (shR_dl _ _) h
    obtain ⟨h3, h4⟩ := shR_inj (z :: a) (u :: b) (fun x hx y hy => hf x (by simp [hx]) y (by simp [hy])) p q h2
    exact ⟨by rw [h1, h3], h4⟩
/-- Two right values that are shown alike are the same. -/
theorem shw_inj : ∀ (L : Nat) (a b : Va), Rt L a → Rt L b → Ok L a → Ok L b → ∀ (p q : List Nat), Dl p → Dl q → shw L a ++ p = shw L b ++ q → a = b ∧ p = q
  | 0, _, _, h, _, _, _, _, _, _, _, _ => h.elim
  | L + 1, .mk k n s l, .mk k' n' s' l', ha, hb, oa, ob, p, q, hp, hq, h => by
    have hkk : k = k' := by
      obtain ⟨c, r, h1, h2⟩ := shw_head L k n s l ha
      obtain ⟨c', r', h1', h2'⟩ := shw_head L k' n' s' l' hb
      rw [h1, h1', List.cons_append, List.cons_append] at h
      injection h with h3 _
      omega
    subst hkk
    rcases ha with ⟨h1, h2⟩ | ⟨rfl, rfl, rfl, h4⟩
    · rcases hb with ⟨g1, g2⟩ | ⟨g1, _⟩
      · obtain ⟨rfl, hc⟩ := lf_cases h2
        obtain ⟨rfl, hd⟩ := lf_cases g2
        rcases hc with ⟨rfl, rfl⟩ | ⟨rfl, rfl, hn⟩ | ⟨rfl, rfl, _⟩ | ⟨rfl, rfl, _⟩
        · have hs : s' = [] := by rcases hd with h | h | h | h <;> first | exact h.2 | omega
          simp only [shw, if_pos] at h
          obtain ⟨h3, h4⟩ := itoaN_inj n n' p q hp hq (by simpa using h)
          exact ⟨by rw [h3, hs], h4⟩
        · have hs : s' = [] ∧ (n' = 0 ∨ n' = 1) := by rcases hd with h | h | h | h <;> first | exact h.2 | omega
          obtain ⟨rfl, hn'⟩ := hs
          simp only [shw] at h
          rcases hn with rfl | rfl <;> rcases hn' with rfl | rfl <;> simp at h <;> exact ⟨rfl, h⟩
        · have hs : n' = 0 := by rcases hd with h | h | h | h <;> first | exact h.2.1 | omega
          subst hs
          simp only [shw, quo] at h
          obtain ⟨h3, h4⟩ := quo_inj s s' p q oa.2.2.2.1 ob.2.2.2.1 (by simpa using h)
          exact ⟨by rw [h3], h4⟩
        · have hs : s' = [] := by rcases hd with h | h | h | h <;> first | omega | exact h.2.1
          simp only [shw] at h
          obtain ⟨h3, h4⟩ := itoaN_inj n n' p q hp hq (by simpa using h)
          exact ⟨by rw [h3, hs], h4⟩
      · exact absurd g1 h1
    · rcases hb with ⟨g1, _⟩ | ⟨_, rfl, rfl, g4⟩
      · exact absurd rfl g1
      · simp only [shw] at h
        have h' : shT (l.map (shw L)) ++ p = shT (l'.map (shw L)) ++ q := by simpa using h
        have hh : ∀ x ∈ l ++ l', ∃ c r, shw L x = c :: r ∧ c ≠ 41 := by
          intro x hx
          have hr : Rt L x := by
            rcases List.mem_append.1 hx with hx | hx
            · exact h4 x hx
            · exact g4 x hx
          cases L with
          | zero => exact hr.elim
          | succ L =>
            obtain ⟨k, n, s, l⟩ := x
            obtain ⟨c, r, h1, h2⟩ := shw_head L k n s l hr
            exact ⟨c, r, h1, by omega⟩
        obtain ⟨h5, h6⟩ := shT_inj l l' hh (fun x hx y hy p q hp hq => shw_inj L x y (h4 x hx) (g4 y hy) (oa.2.2.2.2 x hx) (ob.2.2.2.2 y hy) p q hp hq) p q h'
        exact ⟨by rw [h5], h6⟩
theorem map_same {f g : Va → List Nat} : ∀ l : List Va, (∀ t ∈ l, f t = g t) → l.map f = l.map g
  | [], _ => rfl
  | v :: l, h => by rw [List.map_cons, List.map_cons, h v (by simp), map_same l (fun t ht => h t (by simp [ht]))]
theorem shw_more : ∀ (L : Nat) (v : Va), Rt L v → shw (L + 1) v = shw L v
  | 0, _, h => h.elim
  | L + 1, .mk k n s l, h => by
    rcases h with ⟨h1, h2⟩ | ⟨rfl, rfl, rfl, h4⟩
    · simp [shw, h1]
    · simp only [shw]
      rw [map_same l (fun t ht => shw_more L t (h4 t ht))]
theorem itoaN_bytes (n : Int) : ∀ c ∈ itoaN n, c < 256 := by
  intro c hc
  obtain ⟨d, _, rfl⟩ := List.mem_map.1 hc
  exact d.toNat_lt
theorem itoaN_len (n : Int) (h0 : -9223372036854775808 ≤ n) (h1 : n ≤ 9223372036854775807) : (itoaN n).length ≤ 21 := by
  unfold itoaN
  rw [List.length_map]
  exact Lib.itoa_length_le n h0 h1
theorem hx_lt (d : Nat) (h : d < 16) : hx d < 256 := by unfold hx; split <;> omega
theorem qb_bytes (x : Nat) (h : x < 256) : ∀ c ∈ qb x, c < 256 := by
  intro c hc
  unfold qb at hc
  split at hc
  · simp at hc; omega
  · have := hx_lt (x / 16) (by omega)
    have := hx_lt (x % 16) (by omega)
    simp at hc
    omega
theorem qb_len (x : Nat) : (qb x).length ≤ 3 := by unfold qb; split <;> simp
theorem quo_bytes (s : List Nat) (h : ∀ x ∈ s, x < 256) : ∀ c ∈ quo s, c < 256 := by
  intro c hc
  simp [quo] at hc
  rcases hc with rfl | ⟨x, hx, hc⟩ | rfl
  · omega
  · exact qb_bytes x (h x hx) c hc
  · omega
theorem flat_len (s : List Nat) : (s.flatMap qb).length ≤ 3 * s.length := by
  induction s with
  | nil => simp
  | cons x s ih =>
    have := qb_len x
    rw [List.flatMap_cons, List.length_append, List.length_cons]
    omega
theorem quo_len (s : List Nat) : (quo s).length ≤ 3 * s.length + 2 := by
  have := flat_len s
  rw [quo, List.length_cons, List.length_append, List.length_cons, List.length_nil]
  omega
end Go.Proofs.Ytjcefnlidophoaa
