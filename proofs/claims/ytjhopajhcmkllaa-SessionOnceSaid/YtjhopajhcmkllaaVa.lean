/- Values as trees, and what the chapter on values says of them: their bytes, and what is got of bytes. Plain mathematics. -/
import Derived.Test.YtjhopajhcmkllaaOwn2
namespace Go.Proofs.Ytjhopajhcmkllaa

/-- A value: its kind, N, S (bytes), L. -/
inductive Va where
  | mk (k : Nat) (n : Int) (s : List Nat) (l : List Va)

/-- A right value that is no tuple. -/
def lf (k : Nat) (n : Int) (s : List Nat) (l : List Va) : Bool :=
  l.isEmpty && (if k = 1 then s.isEmpty else if k = 2 then s.isEmpty && (decide (n = 0) || decide (n = 1)) else if k = 3 then decide (n = 0) && decide (s.length ≤ 4096) else if k = 5 then s.isEmpty && decide (0 ≤ n) else false)

/-- Is a value right, of at most so many levels, so many values being left? How many are left behind it. -/
def rgt : Nat → Va → Nat → Option Nat
  | 0, _, _ => none
  | _ + 1, _, 0 => none
  | L + 1, .mk k n s l, m + 1 => if k ≠ 4 then (if lf k n s l = true then some m else none) else if n ≠ 0 ∨ s ≠ [] then none else l.foldlM (fun m v => rgt L v m) m
def right (v : Va) : Bool := (rgt 16 v 256).isSome

/-- A value's bytes. -/
def enc : Nat → Va → List Nat
  | 0, _ => []
  | L + 1, .mk k n s l => k :: (if k = 1 ∨ k = 5 then varint (zz n) else if k = 2 then [n.toNat % 256] else if k = 3 then varint s.length ++ s else if k = 4 then varint l.length ++ l.flatMap (enc L) else [])

/-- So many values one behind the other. -/
def decL (f : Nat → Nat → Except Nat (Va × Nat × Nat)) : Nat → Nat → Nat → Except Nat (List Va × Nat × Nat)
  | 0, at_, m => .ok ([], at_, m)
  | c + 1, at_, m => match f at_ m with
    | .error e => .error e
    | .ok (v, next, m') => match decL f c next m' with
      | .error e => .error e
      | .ok (l, nx, m'') => .ok (v :: l, nx, m'')
/-- A value of b at that place, that is no tuple. -/
def dlf (b : List Nat) (at_ : Nat) : Except Nat (Va × Nat) :=
  if b.getD at_ 0 = 1 then (if (gu b (at_ + 1)).2.2 = 0 then .ok (.mk 1 (un (gu b (at_ + 1)).1) [] [], (gu b (at_ + 1)).2.1) else .error (gu b (at_ + 1)).2.2)
  else if b.getD at_ 0 = 2 then (if at_ + 1 = b.length then .error 11 else if 1 < b.getD (at_ + 1) 0 then .error 10 else .ok (.mk 2 (b.getD (at_ + 1) 0 : Nat) [] [], at_ + 2))
  else if b.getD at_ 0 = 3 then (if (gb b (at_ + 1) 4096).2.2 = 0 then .ok (.mk 3 0 (gb b (at_ + 1) 4096).1 [], (gb b (at_ + 1) 4096).2.1) else .error (gb b (at_ + 1) 4096).2.2)
  else if b.getD at_ 0 = 5 then (if (gu b (at_ + 1)).2.2 = 0 then (if un (gu b (at_ + 1)).1 < 0 then .error 13 else .ok (.mk 5 (un (gu b (at_ + 1)).1) [] [], (gu b (at_ + 1)).2.1)) else .error (gu b (at_ + 1)).2.2)
  else .error 10
/-- A value of b at that place, of at most so many levels, so many values being left: it, the place behind it, how many are left then. -/
def dec (b : List Nat) : Nat → Nat → Nat → Except Nat (Va × Nat × Nat)
  | 0, _, _ => .error 13
  | _ + 1, _, 0 => .error 13
  | L + 1, at_, m + 1 =>
    if at_ = b.length then .error 11
    else if b.getD at_ 0 = 4 then
      (if (gu b (at_ + 1)).2.2 ≠ 0 then .error (gu b (at_ + 1)).2.2 else if 256 < (gu b (at_ + 1)).1 then .error 13
       else match decL (dec b L) (gu b (at_ + 1)).1 (gu b (at_ + 1)).2.1 m with
        | .error e => .error e
        | .ok (l, nx, m') => .ok (.mk 4 0 [] l, nx, m'))
    else match dlf b at_ with
      | .error e => .error e
      | .ok (v, nx) => .ok (v, nx, m)

/-- A right value, whatever there is of values in it. -/
def Rt : Nat → Va → Prop
  | 0, _ => False
  | L + 1, .mk k n s l => (k ≠ 4 ∧ lf k n s l = true) ∨ (k = 4 ∧ n = 0 ∧ s = [] ∧ ∀ t ∈ l, Rt L t)
/-- Numbers and bytes are such as there are. -/
def Ok : Nat → Va → Prop
  | 0, _ => True
  | L + 1, .mk k n s l => k < 256 ∧ -9223372036854775808 ≤ n ∧ n ≤ 9223372036854775807 ∧ (∀ x ∈ s, x < 256) ∧ ∀ t ∈ l, Ok L t

theorem foldlM_some {f : Nat → Va → Option Nat} {P : Va → Prop} (hf : ∀ v m m', f m v = some m' → P v ∧ m' ≤ m) : ∀ (l : List Va) (m m' : Nat), l.foldlM f m = some m' → (∀ t ∈ l, P t) ∧ m' ≤ m
  | [], m, m', h => by
    simp [List.foldlM] at h
    exact ⟨by simp, by omega⟩
  | v :: l, m, m', h => by
    rw [List.foldlM_cons] at h
    cases hv : f m v with
    | none => rw [hv] at h; simp at h
    | some m1 =>
      rw [hv] at h
      have h' : l.foldlM f m1 = some m' := h
      obtain ⟨h1, h2⟩ := foldlM_some hf l m1 m' h'
      obtain ⟨h3, h4⟩ := hf v m m1 hv
      exact ⟨by intro t ht; rcases List.mem_cons.1 ht with rfl | ht; exact h3; exact h1 t ht, by omega⟩

theorem rgt_rt : ∀ (L : Nat) (v : Va) (m m' : Nat), rgt L v m = some m' → Rt L v ∧ m' + 1 ≤ m
  | 0, _, _, _, h => by simp [rgt] at h
  | L + 1, .mk k n s l, 0, _, h => by simp [rgt] at h
  | L + 1, .mk k n s l, m + 1, m', h => by
    unfold rgt at h
    by_cases hk : k = 4
    · rw [if_neg (by simp [hk])] at h
      by_cases hn : n ≠ 0 ∨ s ≠ []
      · rw [if_pos hn] at h
        simp at h
      · rw [if_neg hn] at h
        have hn' : n = 0 ∧ s = [] := by
          constructor
          · by_cases h0 : n = 0
            · exact h0
            · exact absurd (.inl h0) hn
          · by_cases h0 : s = []
            · exact h0
            · exact absurd (.inr h0) hn
        obtain ⟨h1, h2⟩ := foldlM_some (P := Rt L) (fun v m m' h => ⟨(rgt_rt L v m m' h).1, by have := (rgt_rt L v m m' h).2; omega⟩) l m m' h
        exact ⟨.inr ⟨hk, hn'.1, hn'.2, h1⟩, by omega⟩
    · rw [if_pos (by simp [hk])] at h
      by_cases hl : lf k n s l = true
      · rw [if_pos hl] at h
        simp at h
        exact ⟨.inl ⟨hk, hl⟩, by omega⟩
      · rw [if_neg hl] at h
        simp at h

theorem lf_cases {k : Nat} {n : Int} {s : List Nat} {l : List Va} (h : lf k n s l = true) : l = [] ∧ ((k = 1 ∧ s = []) ∨ (k = 2 ∧ s = [] ∧ (n = 0 ∨ n = 1)) ∨ (k = 3 ∧ n = 0 ∧ s.length ≤ 4096) ∨ (k = 5 ∧ s = [] ∧ 0 ≤ n)) := by
  unfold lf at h
  simp only [Bool.and_eq_true, List.isEmpty_iff] at h
  obtain ⟨h1, h2⟩ := h
  refine ⟨h1, ?_⟩
  split at h2
  · exact .inl ⟨by assumption, by simpa using h2⟩
  · split at h2
    · exact .inr (.inl ⟨by assumption, by simpa using h2⟩)
    · split at h2
      · exact .inr (.inr (.inl ⟨by assumption, by simpa using h2⟩))
      · split at h2
        · exact .inr (.inr (.inr ⟨by assumption, by simpa using h2⟩))
        · cases h2

theorem getD_at (p q : List Nat) (x : Nat) (at_ : Nat) (h : at_ = p.length) : (p ++ x :: q).getD at_ 0 = x := by
  subst h
  simp
theorem zz_un_lt (n : Int) (h0 : -9223372036854775808 ≤ n) (h1 : n ≤ 9223372036854775807) : zz n < 18446744073709551616 := zz_lt n h0 h1

/-- A right value that is no tuple, put among others, is got. -/
theorem dlf_enc (p q : List Nat) (k : Nat) (n : Int) (s : List Nat) (l : List Va) (L : Nat) (h : lf k n s l = true) (hk : k ≠ 4) (h0 : -9223372036854775808 ≤ n) (h1 : n ≤ 9223372036854775807) (at_ : Nat) (hat : at_ = p.length) :
    dlf (p ++ enc (L + 1) (.mk k n s l) ++ q) at_ = .ok (.mk k n s l, at_ + (enc (L + 1) (.mk k n s l)).length) := by
  obtain ⟨rfl, hc⟩ := lf_cases h
  have hz := zz_lt n h0 h1
  rcases hc with ⟨rfl, rfl⟩ | ⟨rfl, rfl, hn⟩ | ⟨rfl, rfl, hs⟩ | ⟨rfl, rfl, hn⟩
  · have e : enc (L + 1) (.mk 1 n [] []) = 1 :: varint (zz n) := by simp [enc]
    rw [e, List.append_assoc, List.cons_append]
    have hb := getD_at p (varint (zz n) ++ q) 1 at_ hat
    have hg := gu_at (p ++ [1]) (zz n) q hz (at_ + 1) (by simp [hat])
    rw [show p ++ [1] ++ varint (zz n) ++ q = p ++ 1 :: (varint (zz n) ++ q) by simp] at hg
    unfold dlf
    rw [hb, if_pos rfl, hg]
    dsimp only
    rw [if_pos rfl, un_zz]
    simp
    omega
  · have e : enc (L + 1) (.mk 2 n [] []) = [2, n.toNat] := by
      rcases hn with rfl | rfl <;> simp [enc]
    rw [e, List.append_assoc]
    show dlf (p ++ 2 :: (n.toNat :: q)) at_ = _
    have hb := getD_at p (n.toNat :: q) 2 at_ hat
    have hc := getD_at (p ++ [2]) q n.toNat (at_ + 1) (by simp [hat])
    rw [show p ++ [2] ++ n.toNat :: q = p ++ 2 :: n.toNat :: q by simp] at hc
    unfold dlf
    rw [hb, if_neg (by omega), if_pos rfl, if_neg (by simp; omega), hc, if_neg (by omega)]
    have : ((n.toNat : Nat) : Int) = n := by omega
    rw [this]
    simp
  · have e : enc (L + 1) (.mk 3 0 s []) = 3 :: (varint s.length ++ s) := by simp [enc]
    rw [e, List.append_assoc, List.cons_append]
    have hb := getD_at p (varint s.length ++ s ++ q) 3 at_ hat
    have hg := gb_at (p ++ [3]) s q 4096 (by omega) (by omega) (at_ + 1) (by simp [hat])
    rw [show p ++ [3] ++ varint s.length ++ s ++ q = p ++ 3 :: (varint s.length ++ s ++ q) by simp] at hg
    unfold dlf
    rw [hb, if_neg (by omega), if_neg (by omega), if_pos rfl, hg]
    dsimp only
    rw [if_pos rfl]
    simp
    omega
  · have e : enc (L + 1) (.mk 5 n [] []) = 5 :: varint (zz n) := by simp [enc]
    rw [e, List.append_assoc, List.cons_append]
    have hb := getD_at p (varint (zz n) ++ q) 5 at_ hat
    have hg := gu_at (p ++ [5]) (zz n) q hz (at_ + 1) (by simp [hat])
    rw [show p ++ [5] ++ varint (zz n) ++ q = p ++ 5 :: (varint (zz n) ++ q) by simp] at hg
    unfold dlf
    rw [hb, if_neg (by omega), if_neg (by omega), if_neg (by omega), if_pos rfl, hg]
    dsimp only
    rw [if_pos rfl, un_zz, if_neg (by omega)]
    simp
    omega

theorem foldlM_len {L : Nat} : ∀ (l : List Va) (m m' : Nat), l.foldlM (fun m v => rgt L v m) m = some m' → l.length + m' ≤ m
  | [], m, m', h => by
    simp [List.foldlM] at h
    simp
    omega
  | v :: l, m, m', h => by
    rw [List.foldlM_cons] at h
    cases hv : rgt L v m with
    | none => rw [hv] at h; simp at h
    | some m1 =>
      rw [hv] at h
      have h' : l.foldlM (fun m v => rgt L v m) m1 = some m' := h
      have h1 := foldlM_len l m1 m' h'
      have h2 := (rgt_rt L v m m1 hv).2
      simp
      omega

theorem decL_enc (L : Nat) (b : List Nat) (ih : ∀ (v : Va) (p q : List Nat) (m m' : Nat), b = p ++ enc L v ++ q → m ≤ 256 → rgt L v m = some m' → Ok L v → dec b L p.length m = .ok (v, p.length + (enc L v).length, m')) :
    ∀ (l : List Va) (p q : List Nat) (m m' : Nat), b = p ++ l.flatMap (enc L) ++ q → m ≤ 256 → l.foldlM (fun m v => rgt L v m) m = some m' → (∀ t ∈ l, Ok L t) → decL (dec b L) l.length p.length m = .ok (l, p.length + (l.flatMap (enc L)).length, m')
  | [], p, q, m, m', _, _, h, _ => by
    simp [List.foldlM] at h
    subst h
    simp [decL]
  | v :: l, p, q, m, m', hb, hm, h, hok => by
    rw [List.foldlM_cons] at h
    cases hv : rgt L v m with
    | none => rw [hv] at h; simp at h
    | some m1 =>
      rw [hv] at h
      have h' : l.foldlM (fun m v => rgt L v m) m1 = some m' := h
      have hle := (rgt_rt L v m m1 hv).2
      have e1 := ih v p (l.flatMap (enc L) ++ q) m m1 (by rw [hb]; simp) hm hv (hok v (by simp))
      have e2 := decL_enc L b ih l (p ++ enc L v) q m1 m' (by rw [hb]; simp) (by omega) h' (fun t ht => hok t (by simp [ht]))
      rw [List.length_append] at e2
      rw [List.length_cons, decL, e1]
      dsimp only
      rw [e2]
      simp
      omega

theorem not_or0 {n : Int} {s : List Nat} (hn : ¬(n ≠ 0 ∨ s ≠ [])) : n = 0 ∧ s = [] := by
  constructor
  · by_cases h0 : n = 0
    · exact h0
    · exact absurd (.inl h0) hn
  · by_cases h0 : s = []
    · exact h0
    · exact absurd (.inr h0) hn
theorem rgt_cases {L : Nat} {k : Nat} {n : Int} {s : List Nat} {l : List Va} {m m' : Nat} (h : rgt (L + 1) (.mk k n s l) m = some m') :
    ∃ m1, m = m1 + 1 ∧ ((k ≠ 4 ∧ lf k n s l = true ∧ m1 = m') ∨ (k = 4 ∧ n = 0 ∧ s = [] ∧ l.foldlM (fun m v => rgt L v m) m1 = some m')) := by
  cases m with
  | zero => simp [rgt] at h
  | succ m =>
    refine ⟨m, rfl, ?_⟩
    unfold rgt at h
    by_cases hk : k = 4
    · rw [if_neg (by simp [hk])] at h
      by_cases hn : n ≠ 0 ∨ s ≠ []
      · rw [if_pos hn] at h
        simp at h
      · rw [if_neg hn] at h
        obtain ⟨h1, h2⟩ := not_or0 hn
        exact .inr ⟨hk, h1, h2, h⟩
    · rw [if_pos (by simp [hk])] at h
      by_cases hl : lf k n s l = true
      · rw [if_pos hl] at h
        simp at h
        exact .inl ⟨hk, hl, h⟩
      · rw [if_neg hl] at h
        simp at h
theorem enc_tuple (L : Nat) (l : List Va) : enc (L + 1) (.mk 4 0 [] l) = 4 :: (varint l.length ++ l.flatMap (enc L)) := by simp [enc]
theorem enc_pos (L : Nat) (v : Va) : enc (L + 1) v ≠ [] := by
  obtain ⟨k, n, s, l⟩ := v
  simp [enc]
theorem enc_head (L : Nat) (k : Nat) (n : Int) (s : List Nat) (l : List Va) : ∃ r, enc (L + 1) (.mk k n s l) = k :: r := ⟨_, rfl⟩

/-- What is put, with anything ahead and behind, is got. -/
theorem dec_enc : ∀ (L : Nat) (b : List Nat) (v : Va) (p q : List Nat) (m m' : Nat), b = p ++ enc L v ++ q → m ≤ 256 → rgt L v m = some m' → Ok L v → dec b L p.length m = .ok (v, p.length + (enc L v).length, m')
  | 0, _, _, _, _, _, _, _, _, h, _ => by simp [rgt] at h
  | L + 1, b, .mk k n s l, p, q, m, m', hb, hm, h, hok => by
    obtain ⟨hk8, h0, h1, hs8, hl8⟩ := hok
    obtain ⟨m1, rfl, hc⟩ := rgt_cases h
    have hne : p.length ≠ b.length := by
      rw [hb]
      simp [enc]
    have hbk : b.getD p.length 0 = k := by
      obtain ⟨r, e⟩ := enc_head L k n s l
      rw [hb, e, List.append_assoc, List.cons_append]
      exact getD_at p _ k _ rfl
    unfold dec
    rw [if_neg hne, hbk]
    rcases hc with ⟨hk, hl, rfl⟩ | ⟨rfl, rfl, rfl, hl⟩
    · rw [if_neg hk, hb, dlf_enc p q k n s l L hl hk h0 h1 _ rfl]
    · rw [if_pos rfl]
      have hlen := foldlM_len l m1 m' hl
      rw [enc_tuple] at hb ⊢
      have hg := gu_at (p ++ [4]) l.length (l.flatMap (enc L) ++ q) (by omega) (p.length + 1) (by simp)
      rw [show p ++ [4] ++ varint l.length ++ (l.flatMap (enc L) ++ q) = b by rw [hb]; simp] at hg
      rw [hg]
      dsimp only
      rw [if_neg (by simp), if_neg (by omega)]
      have e2 := decL_enc L b (fun v p q m m' => dec_enc L b v p q m m') l (p ++ [4] ++ varint l.length) q m1 m' (by rw [hb]; simp) (by omega) hl hl8
      rw [show (p ++ [4] ++ varint l.length : List Nat).length = p.length + 1 + (varint l.length).length by simp; omega] at e2
      rw [e2]
      simp
      omega

theorem mid_append (b : List Nat) (i j k : Nat) (h1 : i ≤ j) (h2 : j ≤ k) : (b.drop i).take (k - i) = (b.drop i).take (j - i) ++ (b.drop j).take (k - j) := by
  have : (b.drop i).take (k - i) = ((b.drop i).take (k - i)).take (j - i) ++ ((b.drop i).take (k - i)).drop (j - i) := (List.take_append_drop _ _).symm
  rw [this, List.take_take, Nat.min_eq_left (by omega), List.drop_take, List.drop_drop]
  congr 2
  · omega
  · congr 1
    omega
theorem mid_head (b : List Nat) (i k : Nat) (h : i < b.length) (h2 : i < k) : (b.drop i).take (k - i) = b.getD i 0 :: (b.drop (i + 1)).take (k - (i + 1)) := by
  rw [List.drop_eq_getElem_cons h, show k - i = (k - (i + 1)) + 1 by omega, List.take_succ_cons]
  simp [h]
/-- A number that is got at a place, put again, is the same bytes. -/
theorem gu_mid (b : List Nat) (h8 : ∀ x ∈ b, x < 256) (at_ : Nat) (hat : at_ ≤ b.length) (h : (gu b at_).2.2 = 0) :
    at_ < (gu b at_).2.1 ∧ (gu b at_).2.1 ≤ b.length ∧ (b.drop at_).take ((gu b at_).2.1 - at_) = varint (gu b at_).1 ∧ (gu b at_).1 < 18446744073709551616 := by
  obtain ⟨h1, _, h3⟩ := gu_bounds b at_ hat
  obtain ⟨h4, h5⟩ := h3 h
  refine ⟨h4, h5, ?_, h1⟩
  have hg : gus 0 0 (b.drop at_) = ((gu b at_).1, (gu b at_).2.1 - at_, 0) := by
    unfold gu at h ⊢
    dsimp only at h ⊢
    rw [if_pos h]
    have e : gus 0 0 (b.drop at_) = ((gus 0 0 (b.drop at_)).1, (gus 0 0 (b.drop at_)).2.1, (gus 0 0 (b.drop at_)).2.2) := rfl
    rw [h] at e
    rw [e]
    simp
  exact (gu_back (b.drop at_) (fun x hx => h8 x (List.mem_of_mem_drop hx)) _ _ hg).2.2
theorem zz_un (n : Nat) : zz (un n) = n := by
  unfold un zz
  by_cases h : n % 2 = 0
  · rw [if_pos h, if_pos (by omega)]
    omega
  · rw [if_neg h, if_neg (by omega)]
    omega
theorem un_bounds (n : Nat) (h : n < 18446744073709551616) : -9223372036854775808 ≤ un n ∧ un n ≤ 9223372036854775807 := by
  unfold un
  split <;> omega
theorem gb_ok (b : List Nat) (h8 : ∀ x ∈ b, x < 256) (at_ : Nat) (hat : at_ ≤ b.length) (most : Int) (h : (gb b at_ most).2.2 = 0) :
    at_ < (gb b at_ most).2.1 ∧ (gb b at_ most).2.1 ≤ b.length ∧ (b.drop at_).take ((gb b at_ most).2.1 - at_) = varint (gb b at_ most).1.length ++ (gb b at_ most).1 ∧ ((gb b at_ most).1.length : Int) ≤ most := by
  have hm := gu_mid b h8 at_ hat
  unfold gb at h ⊢
  by_cases h0 : (gu b at_).2.2 ≠ 0
  · rw [if_pos h0] at h
    exact absurd h h0
  · rw [if_neg h0] at h ⊢
    by_cases h1 : most < 0 ∨ most < ((gu b at_).1 : Int)
    · rw [if_pos h1] at h
      simp at h
    · rw [if_neg h1] at h ⊢
      by_cases h2 : b.length - (gu b at_).2.1 < (gu b at_).1
      · rw [if_pos h2] at h
        simp at h
      · rw [if_neg h2] at h ⊢
        obtain ⟨h3, h4, h5, h6⟩ := hm (by simpa using h0)
        dsimp only
        have e : ((b.drop (gu b at_).2.1).take (gu b at_).1).length = (gu b at_).1 := by
          simp
          omega
        rw [e]
        refine ⟨by omega, by omega, ?_, by omega⟩
        rw [mid_append b at_ (gu b at_).2.1 _ (by omega) (by omega), h5]
        congr 2
        omega

/-- What is got, where it is no tuple, is right, and put again is the same bytes. -/
theorem dlf_back (b : List Nat) (h8 : ∀ x ∈ b, x < 256) (at_ : Nat) (hat : at_ < b.length) (v : Va) (nx L : Nat) (h : dlf b at_ = .ok (v, nx)) :
    ∃ k n s, v = .mk k n s [] ∧ k ≠ 4 ∧ lf k n s [] = true ∧ Ok (L + 1) v ∧ at_ < nx ∧ nx ≤ b.length ∧ (b.drop at_).take (nx - at_) = enc (L + 1) v := by
  unfold dlf at h
  have hu := gu_mid b h8 (at_ + 1) (by omega)
  have hb := gb_ok b h8 (at_ + 1) (by omega) 4096
  split at h
  · rename_i hk
    split at h
    · rename_i he
      obtain ⟨h1, h2, h3, h4⟩ := hu he
      obtain ⟨h5, h6⟩ := un_bounds _ h4
      simp only [Except.ok.injEq, Prod.mk.injEq] at h
      obtain ⟨rfl, rfl⟩ := h
      refine ⟨1, _, [], rfl, by omega, by simp [lf], ⟨by omega, h5, h6, by simp, by simp⟩, by omega, h2, ?_⟩
      rw [mid_head b at_ _ hat (by omega), hk, h3]
      simp [enc, zz_un]
    · cases h
  · split at h
    · rename_i hk
      split at h
      · cases h
      · rename_i hl
        split at h
        · cases h
        · rename_i hx
          simp only [Except.ok.injEq, Prod.mk.injEq] at h
          obtain ⟨rfl, rfl⟩ := h
          refine ⟨2, _, [], rfl, by omega, ?_, ⟨by omega, by omega, by omega, by simp, by simp⟩, by omega, by omega, ?_⟩
          · generalize b.getD (at_ + 1) 0 = x at hx ⊢
            simp [lf]
            omega
          · rw [mid_head b at_ _ hat (by omega), hk, mid_head b (at_ + 1) _ (by omega) (by omega)]
            generalize b.getD (at_ + 1) 0 = x at hx ⊢
            simp [enc]
            omega
    · split at h
      · rename_i hk
        split at h
        · rename_i he
          obtain ⟨h1, h2, h3, h4⟩ := hb he
          simp only [Except.ok.injEq, Prod.mk.injEq] at h
          obtain ⟨rfl, rfl⟩ := h
          refine ⟨3, 0, _, rfl, by omega, ?_, ⟨by omega, by omega, by omega, gus_mem _ b (at_ + 1) 4096 h8 rfl, by simp⟩, by omega, h2, ?_⟩
          · simp [lf]
            omega
          · rw [mid_head b at_ _ hat (by omega), hk, h3]
            simp [enc]
        · cases h
      · split at h
        · rename_i hk
          split at h
          · rename_i he
            split at h
            · cases h
            · rename_i hn
              obtain ⟨h1, h2, h3, h4⟩ := hu he
              obtain ⟨h5, h6⟩ := un_bounds _ h4
              simp only [Except.ok.injEq, Prod.mk.injEq] at h
              obtain ⟨rfl, rfl⟩ := h
              refine ⟨5, _, [], rfl, by omega, ?_, ⟨by omega, h5, h6, by simp, by simp⟩, by omega, h2, ?_⟩
              · simp [lf]
                omega
              · rw [mid_head b at_ _ hat (by omega), hk, h3]
                simp [enc, zz_un]
          · cases h
        · cases h

theorem decL_back (L : Nat) (b : List Nat) (ih : ∀ (at_ m : Nat) (v : Va) (nx m' : Nat), at_ ≤ b.length → dec b L at_ m = .ok (v, nx, m') → rgt L v m = some m' ∧ Ok L v ∧ at_ ≤ nx ∧ nx ≤ b.length ∧ (b.drop at_).take (nx - at_) = enc L v) :
    ∀ (c at_ m : Nat) (l : List Va) (nx m' : Nat), at_ ≤ b.length → decL (dec b L) c at_ m = .ok (l, nx, m') → l.length = c ∧ l.foldlM (fun m v => rgt L v m) m = some m' ∧ (∀ t ∈ l, Ok L t) ∧ at_ ≤ nx ∧ nx ≤ b.length ∧ (b.drop at_).take (nx - at_) = l.flatMap (enc L)
  | 0, at_, m, l, nx, m', hat, h => by
    simp only [decL, Except.ok.injEq, Prod.mk.injEq] at h
    obtain ⟨rfl, rfl, rfl⟩ := h
    simp [List.foldlM, hat]
  | c + 1, at_, m, l, nx, m', hat, h => by
    rw [decL] at h
    cases hv : dec b L at_ m with
    | error e => rw [hv] at h; simp at h
    | ok r =>
      obtain ⟨v, n1, m1⟩ := r
      rw [hv] at h
      dsimp only at h
      obtain ⟨h1, h2, h3, h4, h5⟩ := ih at_ m v n1 m1 hat hv
      cases hr : decL (dec b L) c n1 m1 with
      | error e => rw [hr] at h; simp at h
      | ok r =>
        obtain ⟨l', n2, m2⟩ := r
        rw [hr] at h
        simp only [Except.ok.injEq, Prod.mk.injEq] at h
        obtain ⟨rfl, rfl, rfl⟩ := h
        obtain ⟨g1, g2, g3, g4, g5, g6⟩ := decL_back L b ih c n1 m1 l' n2 m2 h4 hr
        refine ⟨by simp [g1], ?_, ?_, by omega, g5, ?_⟩
        · rw [List.foldlM_cons, h1]
          exact g2
        · intro t ht
          rcases List.mem_cons.1 ht with rfl | ht
          · exact h2
          · exact g3 t ht
        · rw [mid_append b at_ n1 n2 h3 g4, h5, g6]
          simp
theorem rgt_leaf {L m : Nat} {k : Nat} {n : Int} {s : List Nat} {l : List Va} (hk : k ≠ 4) (h : lf k n s l = true) : rgt (L + 1) (.mk k n s l) (m + 1) = some m := by
  rw [rgt, if_pos hk, if_pos h]
theorem rgt_tuple {L m : Nat} {l : List Va} : rgt (L + 1) (.mk 4 0 [] l) (m + 1) = l.foldlM (fun m v => rgt L v m) m := by
  rw [rgt, if_neg (by simp), if_neg (by simp)]
/-- What is got is right, and put again is the same bytes. -/
theorem dec_back (b : List Nat) (h8 : ∀ x ∈ b, x < 256) : ∀ (L at_ m : Nat) (v : Va) (nx m' : Nat), at_ ≤ b.length → dec b L at_ m = .ok (v, nx, m') → rgt L v m = some m' ∧ Ok L v ∧ at_ ≤ nx ∧ nx ≤ b.length ∧ (b.drop at_).take (nx - at_) = enc L v
  | 0, _, _, _, _, _, _, h => by simp [dec] at h
  | L + 1, _, 0, _, _, _, _, h => by simp [dec] at h
  | L + 1, at_, m + 1, v, nx, m', hat, h => by
    unfold dec at h
    by_cases he : at_ = b.length
    · rw [if_pos he] at h
      cases h
    · rw [if_neg he] at h
      by_cases hk : b.getD at_ 0 = 4
      · rw [if_pos hk] at h
        by_cases h0 : (gu b (at_ + 1)).2.2 ≠ 0
        · rw [if_pos h0] at h
          cases h
        · rw [if_neg h0] at h
          by_cases h1 : 256 < (gu b (at_ + 1)).1
          · rw [if_pos h1] at h
            cases h
          · rw [if_neg h1] at h
            obtain ⟨g1, g2, g3, g4⟩ := gu_mid b h8 (at_ + 1) (by omega) (by simpa using h0)
            cases hr : decL (dec b L) (gu b (at_ + 1)).1 (gu b (at_ + 1)).2.1 m with
            | error e => rw [hr] at h; simp at h
            | ok r =>
              obtain ⟨l, n2, m2⟩ := r
              rw [hr] at h
              simp only [Except.ok.injEq, Prod.mk.injEq] at h
              obtain ⟨rfl, rfl, rfl⟩ := h
              obtain ⟨f1, f2, f3, f4, f5, f6⟩ := decL_back L b (dec_back b h8 L) _ _ m l n2 m2 g2 hr
              refine ⟨by rw [rgt_tuple]; exact f2, ⟨by omega, by omega, by omega, by simp, f3⟩, by omega, f5, ?_⟩
              rw [mid_head b at_ _ (by omega) (by omega), hk, mid_append b (at_ + 1) (gu b (at_ + 1)).2.1 n2 (by omega) f4, g3, f6, enc_tuple, f1]
      · rw [if_neg hk] at h
        cases hr : dlf b at_ with
        | error e => rw [hr] at h; simp at h
        | ok r =>
          obtain ⟨v', n2⟩ := r
          rw [hr] at h
          simp only [Except.ok.injEq, Prod.mk.injEq] at h
          obtain ⟨rfl, rfl, rfl⟩ := h
          obtain ⟨k, n, s, rfl, g1, g2, g3, g4, g5, g6⟩ := dlf_back b h8 at_ (by omega) v' n2 L hr
          exact ⟨rgt_leaf g1 g2, g3, by omega, g5, g6⟩
end Go.Proofs.Ytjhopajhcmkllaa
