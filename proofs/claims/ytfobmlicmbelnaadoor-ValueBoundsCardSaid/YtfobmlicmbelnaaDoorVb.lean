/- Values as trees: bytes that are cut, and the order. Plain mathematics. -/
import Derived.Test.YtfobmlicmbelnaaDoorVa
namespace Go.Proofs.YtfobmlicmbelnaaDoor

theorem gu_cut (p : List Nat) (n k : Nat) (hn : n < 18446744073709551616) (hk : k < (varint n).length) (at_ : Nat) (hat : at_ = p.length) : gu (p ++ (varint n).take k) at_ = (0, 0, 11) := by
  subst hat
  refine gu_err _ _ 11 (by omega) ?_
  rw [List.drop_left]
  exact gus_short n k hn hk
theorem gb_cut (p s : List Nat) (k : Nat) (hs : s.length ≤ 4096) (hk : k < (varint s.length ++ s).length) (at_ : Nat) (hat : at_ = p.length) : gb (p ++ (varint s.length ++ s).take k) at_ 4096 = ([], 0, 11) := by
  by_cases h : k < (varint s.length).length
  · rw [List.take_append_of_le_length (by omega)]
    have := gu_cut p s.length k (by omega) h at_ hat
    unfold gb
    rw [this]
    simp
  · rw [List.take_append, List.take_of_length_le (by omega)]
    have hj : k - (varint s.length).length < s.length := by
      rw [List.length_append] at hk
      omega
    have hg := gu_at p s.length (s.take (k - (varint s.length).length)) (by omega) at_ hat
    rw [List.append_assoc] at hg
    unfold gb
    rw [hg]
    dsimp only
    rw [if_neg (by simp), if_neg (by omega), if_pos (by simp; omega)]
theorem dlf_cut (p : List Nat) (j : Nat) (k : Nat) (n : Int) (s : List Nat) (l : List Va) (L : Nat) (h : lf k n s l = true) (h0 : -9223372036854775808 ≤ n) (h1 : n ≤ 9223372036854775807) (hj0 : j ≠ 0) (hj : j < (enc (L + 1) (.mk k n s l)).length) (at_ : Nat) (hat : at_ = p.length) :
    dlf (p ++ (enc (L + 1) (.mk k n s l)).take j) at_ = .error 11 := by
  obtain ⟨i, rfl⟩ : ∃ i, j = i + 1 := ⟨j - 1, by omega⟩
  obtain ⟨rfl, hc⟩ := lf_cases h
  have hz := zz_lt n h0 h1
  rcases hc with ⟨rfl, rfl⟩ | ⟨rfl, rfl, hn⟩ | ⟨rfl, rfl, hs⟩ | ⟨rfl, rfl, hn⟩
  · have e : enc (L + 1) (.mk 1 n [] []) = 1 :: varint (zz n) := by simp [enc]
    rw [e] at hj ⊢
    rw [List.take_succ_cons]
    have hb := getD_at p ((varint (zz n)).take i) 1 at_ hat
    have hg := gu_cut (p ++ [1]) (zz n) i hz (by simpa using hj) (at_ + 1) (by simp [hat])
    rw [List.append_assoc, List.singleton_append] at hg
    unfold dlf
    rw [hb, if_pos rfl, hg]
    simp
  · have e : enc (L + 1) (.mk 2 n [] []) = [2, n.toNat] := by
      rcases hn with rfl | rfl <;> simp [enc]
    rw [e] at hj ⊢
    have : i = 0 := by
      simp at hj
      omega
    subst this
    have hb := getD_at p [] 2 at_ hat
    rw [List.take_succ_cons, List.take_zero]
    unfold dlf
    rw [hb, if_neg (by omega), if_pos rfl, if_pos (by simp [hat])]
  · have e : enc (L + 1) (.mk 3 0 s []) = 3 :: (varint s.length ++ s) := by simp [enc]
    rw [e] at hj ⊢
    rw [List.take_succ_cons]
    have hb := getD_at p ((varint s.length ++ s).take i) 3 at_ hat
    have hg := gb_cut (p ++ [3]) s i hs (by rw [List.length_cons] at hj; omega) (at_ + 1) (by simp [hat])
    rw [List.append_assoc, List.singleton_append] at hg
    unfold dlf
    rw [hb, if_neg (by omega), if_neg (by omega), if_pos rfl, hg]
    simp
  · have e : enc (L + 1) (.mk 5 n [] []) = 5 :: varint (zz n) := by simp [enc]
    rw [e] at hj ⊢
    rw [List.take_succ_cons]
    have hb := getD_at p ((varint (zz n)).take i) 5 at_ hat
    have hg := gu_cut (p ++ [5]) (zz n) i hz (by simpa using hj) (at_ + 1) (by simp [hat])
    rw [List.append_assoc, List.singleton_append] at hg
    unfold dlf
    rw [hb, if_neg (by omega), if_neg (by omega), if_neg (by omega), if_pos rfl, hg]
    simp
theorem decL_cut (L : Nat) (b : List Nat) (ih : ∀ (v : Va) (p : List Nat) (m m' j : Nat), b = p ++ (enc L v).take j → j < (enc L v).length → m ≤ 256 → rgt L v m = some m' → Ok L v → dec b L p.length m = .error 11) :
    ∀ (l : List Va) (p : List Nat) (m m' j : Nat), b = p ++ (l.flatMap (enc L)).take j → j < (l.flatMap (enc L)).length → m ≤ 256 → l.foldlM (fun m v => rgt L v m) m = some m' → (∀ t ∈ l, Ok L t) → decL (dec b L) l.length p.length m = .error 11
  | [], _, _, _, _, _, hj, _, _, _ => by simp at hj
  | v :: l, p, m, m', j, hb, hj, hm, h, hok => by
    rw [List.foldlM_cons] at h
    cases hv : rgt L v m with
    | none => rw [hv] at h; simp at h
    | some m1 =>
      rw [hv] at h
      have h' : l.foldlM (fun m v => rgt L v m) m1 = some m' := h
      have hle := (rgt_rt L v m m1 hv).2
      rw [List.flatMap_cons] at hb hj
      rw [List.length_cons, decL]
      by_cases hc : j < (enc L v).length
      · rw [List.take_append_of_le_length (by omega)] at hb
        rw [ih v p m m1 j hb hc hm hv (hok v (by simp))]
      · rw [List.take_append, List.take_of_length_le (by omega)] at hb
        rw [dec_enc L b v p _ m m1 (by rw [hb, List.append_assoc]) hm hv (hok v (by simp))]
        dsimp only
        have e2 := decL_cut L b ih l (p ++ enc L v) m1 m' (j - (enc L v).length) (by rw [hb]; simp) (by rw [List.length_append] at hj; omega) (by omega) h' (fun t ht => hok t (by simp [ht]))
        rw [List.length_append] at e2
        rw [e2]
/-- What is put and cut is short. -/
theorem dec_cut : ∀ (L : Nat) (b : List Nat) (v : Va) (p : List Nat) (m m' j : Nat), b = p ++ (enc L v).take j → j < (enc L v).length → m ≤ 256 → rgt L v m = some m' → Ok L v → dec b L p.length m = .error 11
  | 0, _, _, _, _, _, _, _, _, _, h, _ => by simp [rgt] at h
  | L + 1, b, .mk k n s l, p, m, m', j, hb, hj, hm, h, hok => by
    obtain ⟨hk8, h0, h1, hs8, hl8⟩ := hok
    obtain ⟨m1, rfl, hc⟩ := rgt_cases h
    unfold dec
    by_cases hj0 : j = 0
    · rw [if_pos (by rw [hb, hj0]; simp)]
    · obtain ⟨r, e⟩ := enc_head L k n s l
      have hne : p.length ≠ b.length := by
        rw [hb]
        simp [e]
        omega
      have hbk : b.getD p.length 0 = k := by
        rw [hb, e]
        obtain ⟨i, rfl⟩ : ∃ i, j = i + 1 := ⟨j - 1, by omega⟩
        rw [List.take_succ_cons]
        exact getD_at p _ k _ rfl
      rw [if_neg hne, hbk]
      rcases hc with ⟨hk, hl, rfl⟩ | ⟨rfl, rfl, rfl, hl⟩
      · rw [if_neg hk, hb, dlf_cut p j k n s l L hl h0 h1 hj0 hj _ rfl]
      · rw [if_pos rfl]
        have hlen := foldlM_len l m1 m' hl
        obtain ⟨i, rfl⟩ : ∃ i, j = i + 1 := ⟨j - 1, by omega⟩
        rw [enc_tuple] at hb hj
        rw [List.take_succ_cons] at hb
        by_cases hi : i < (varint l.length).length
        · rw [List.take_append_of_le_length (by omega)] at hb
          have hg := gu_cut (p ++ [4]) l.length i (by omega) hi (p.length + 1) (by simp)
          rw [List.append_assoc, List.singleton_append, ← hb] at hg
          rw [hg]
          simp
        · rw [List.take_append, List.take_of_length_le (by omega)] at hb
          have hg := gu_at (p ++ [4]) l.length ((l.flatMap (enc L)).take (i - (varint l.length).length)) (by omega) (p.length + 1) (by simp)
          rw [show p ++ [4] ++ varint l.length ++ (l.flatMap (enc L)).take (i - (varint l.length).length) = b by rw [hb]; simp] at hg
          rw [hg]
          dsimp only
          rw [if_neg (by simp), if_neg (by omega)]
          have e2 := decL_cut L b (fun v p m m' j => dec_cut L b v p m m' j) l (p ++ [4] ++ varint l.length) m1 m' (i - (varint l.length).length) (by rw [hb]; simp) (by
            rw [List.length_cons, List.length_append] at hj
            omega) (by omega) hl hl8
          rw [show (p ++ [4] ++ varint l.length : List Nat).length = p.length + 1 + (varint l.length).length by simp; omega] at e2
          rw [e2]
/-- No right value's bytes are the begin of another one's. -/
theorem enc_inj (L : Nat) (a b : Va) (x y : List Nat) (m m' : Nat) (ha : rgt L a 256 = some m) (hb : rgt L b 256 = some m') (oa : Ok L a) (ob : Ok L b) (h : enc L a ++ x = enc L b ++ y) : a = b := by
  have h1 := dec_enc L (enc L a ++ x) a [] x 256 m (by simp) (by omega) ha oa
  have h2 := dec_enc L (enc L a ++ x) b [] y 256 m' (by simp [h]) (by omega) hb ob
  rw [h1] at h2
  simp only [Except.ok.injEq, Prod.mk.injEq] at h2
  exact h2.1

/-! The order. -/
def sg (a b : Int) : Int := if a < b then -1 else if b < a then 1 else 0
def cml : List Nat → List Nat → Int
  | [], [] => 0
  | [], _ :: _ => -1
  | _ :: _, [] => 1
  | x :: a, y :: b => if x < y then -1 else if y < x then 1 else cml a b
def cmF (f : Va → Va → Int) : List Va → List Va → Int
  | x :: a, y :: b => if f x y ≠ 0 then f x y else cmF f a b
  | _, _ => 0
/-- -1, 0 or 1, as the first is below the second, the same, above, so many levels being asked. -/
def cmv : Nat → Va → Va → Int
  | 0, _, _ => 0
  | L + 1, .mk k n s l, .mk k' n' s' l' =>
    if k ≠ k' then sg k k' else if k = 1 ∨ k = 2 ∨ k = 5 then sg n n' else if k = 3 then cml s s'
    else if k = 4 then (if l.length ≠ l'.length then sg l.length l'.length else cmF (cmv L) l l') else 0

/-- The same, of values of one kind. -/
def cmb (f : Va → Va → Int) (k : Nat) (n : Int) (s : List Nat) (l : List Va) (n' : Int) (s' : List Nat) (l' : List Va) : Int :=
  if k = 1 ∨ k = 2 ∨ k = 5 then sg n n' else if k = 3 then cml s s' else if k = 4 then (if l.length ≠ l'.length then sg l.length l'.length else cmF f l l') else 0
theorem cmv_same (L k : Nat) (n n' : Int) (s s' : List Nat) (l l' : List Va) : cmv (L + 1) (.mk k n s l) (.mk k n' s' l') = cmb (cmv L) k n s l n' s' l' := by
  rw [cmv, if_neg (fun h => h rfl)]
  rfl
theorem cmv_other {L k k' : Nat} {n n' : Int} {s s' : List Nat} {l l' : List Va} (h : k ≠ k') : cmv (L + 1) (.mk k n s l) (.mk k' n' s' l') = sg k k' := by
  rw [cmv, if_pos h]
/-- Three answers that are an order's. -/
def Tri (x y z : Int) : Prop := x ≤ 0 → y ≤ 0 → z ≤ 0 ∧ (z = 0 → x = 0 ∧ y = 0)
theorem sg_self (a : Int) : sg a a = 0 := by unfold sg; split <;> (try split) <;> omega
theorem sg_anti (a b : Int) : sg b a = - sg a b := by unfold sg; split <;> (try split) <;> (try split) <;> omega
theorem sg_range (a b : Int) : -1 ≤ sg a b ∧ sg a b ≤ 1 := by unfold sg; split <;> (try split) <;> omega
theorem sg_zero {a b : Int} (h : sg a b = 0) : a = b := by unfold sg at h; split at h <;> (try split at h) <;> omega
theorem sg_tri (a b c : Int) : Tri (sg a b) (sg b c) (sg a c) := by
  unfold Tri sg
  split <;> split <;> split <;> (try split) <;> (try split) <;> (try split) <;> omega
theorem sg_lt {a b : Int} (h : a < b) : sg a b = -1 := by unfold sg; rw [if_pos h]
theorem sg_gt {a b : Int} (h : b < a) : sg a b = 1 := by unfold sg; rw [if_neg (by omega), if_pos h]
theorem cml_lt {x y : Nat} {a b : List Nat} (h : x < y) : cml (x :: a) (y :: b) = -1 := by rw [cml, if_pos h]
theorem cml_gt {x y : Nat} {a b : List Nat} (h : y < x) : cml (x :: a) (y :: b) = 1 := by rw [cml, if_neg (by omega), if_pos h]
theorem cml_eq {x : Nat} {a b : List Nat} : cml (x :: a) (x :: b) = cml a b := by rw [cml, if_neg (by omega), if_neg (by omega)]
theorem cml_self : ∀ a, cml a a = 0
  | [] => rfl
  | x :: a => by rw [cml, if_neg (by omega), if_neg (by omega), cml_self a]
theorem cml_anti : ∀ a b, cml b a = - cml a b
  | [], [] => rfl
  | [], _ :: _ => rfl
  | _ :: _, [] => rfl
  | x :: a, y :: b => by
    rw [cml, cml]
    rcases Nat.lt_trichotomy x y with h | h | h
    · rw [if_neg (by omega), if_pos h, if_pos h]; rfl
    · rw [if_neg (by omega), if_neg (by omega), if_neg (by omega), if_neg (by omega), cml_anti a b]
    · rw [if_pos h, if_neg (by omega), if_pos h]
theorem cml_range : ∀ a b, -1 ≤ cml a b ∧ cml a b ≤ 1
  | [], [] => by simp [cml]
  | [], _ :: _ => by simp [cml]
  | _ :: _, [] => by simp [cml]
  | x :: a, y :: b => by
    rw [cml]
    have := cml_range a b
    split
    · omega
    · split <;> omega
theorem cml_zero : ∀ {a b}, cml a b = 0 → a = b
  | [], [], _ => rfl
  | [], _ :: _, h => by simp [cml] at h
  | _ :: _, [], h => by simp [cml] at h
  | x :: a, y :: b, h => by
    rw [cml] at h
    split at h
    · omega
    · split at h
      · omega
      · rw [cml_zero h, show x = y by omega]
theorem cml_tri : ∀ a b c, Tri (cml a b) (cml b c) (cml a c)
  | [], [], [] => by simp [cml, Tri]
  | [], [], _ :: _ => by simp [cml, Tri]
  | [], _ :: _, [] => by simp [cml, Tri]
  | [], y :: b, z :: c => by
    intro _ _
    simp [cml]
  | _ :: _, [], _ => by
    intro h
    simp [cml] at h
  | _ :: _, _ :: _, [] => by
    intro _ h
    simp [cml] at h
  | x :: a, y :: b, z :: c => by
    have ih := cml_tri a b c
    unfold Tri at ih ⊢
    intro h1 h2
    rcases Nat.lt_trichotomy x y with h | h | h
    · rw [cml_lt h] at h1 ⊢
      rcases Nat.lt_trichotomy y z with g | g | g
      · rw [cml_lt (show x < z by omega)]; omega
      · rw [cml_lt (show x < z by omega)]; omega
      · rw [cml_gt g] at h2; omega
    · subst h
      rw [cml_eq] at h1 ⊢
      rcases Nat.lt_trichotomy x z with g | g | g
      · rw [cml_lt g]; omega
      · subst g
        rw [cml_eq] at h2 ⊢
        rw [cml_eq]
        exact ih h1 h2
      · rw [cml_gt g] at h2; omega
    · rw [cml_gt h] at h1; omega
theorem cmF_self {f : Va → Va → Int} (hf : ∀ a, f a a = 0) : ∀ l, cmF f l l = 0
  | [] => rfl
  | x :: l => by rw [cmF, if_neg (by simp [hf]), cmF_self hf l]
theorem cmF_anti {f : Va → Va → Int} (hf : ∀ a b, f b a = - f a b) : ∀ a b, cmF f b a = - cmF f a b
  | [], [] => rfl
  | [], _ :: _ => rfl
  | _ :: _, [] => rfl
  | x :: a, y :: b => by
    rw [cmF, cmF, hf x y]
    by_cases h : f x y = 0
    · rw [if_neg (by omega), if_neg (by omega), cmF_anti hf a b]
    · rw [if_pos (by omega), if_pos h]
theorem cmF_range {f : Va → Va → Int} (hf : ∀ a b, -1 ≤ f a b ∧ f a b ≤ 1) : ∀ a b, -1 ≤ cmF f a b ∧ cmF f a b ≤ 1
  | [], [] => by simp [cmF]
  | [], _ :: _ => by simp [cmF]
  | _ :: _, [] => by simp [cmF]
  | x :: a, y :: b => by
    rw [cmF]
    split
    · exact hf x y
    · exact cmF_range hf a b
theorem cmF_tri {f : Va → Va → Int} (hf : ∀ a b c, Tri (f a b) (f b c) (f a c)) : ∀ a b c, a.length = b.length → b.length = c.length → Tri (cmF f a b) (cmF f b c) (cmF f a c)
  | [], [], [], _, _ => by simp [cmF, Tri]
  | x :: a, y :: b, z :: c, h, g => by
    have ih := cmF_tri hf a b c (by simpa using h) (by simpa using g)
    have h0 := hf x y z
    unfold Tri at ih h0 ⊢
    rw [cmF, cmF, cmF]
    intro h1 h2
    have hx : f x y ≤ 0 := by
      by_cases e : f x y = 0
      · omega
      · rw [if_pos e] at h1; exact h1
    have hy : f y z ≤ 0 := by
      by_cases e : f y z = 0
      · omega
      · rw [if_pos e] at h2; exact h2
    obtain ⟨h3, h4⟩ := h0 hx hy
    by_cases e : f x z = 0
    · obtain ⟨h5, h6⟩ := h4 e
      rw [if_neg (by omega)] at h1 h2 ⊢
      rw [if_neg (by omega), if_neg (by omega)]
      exact ih h1 h2
    · rw [if_pos e]
      omega
/-- It is an order. -/
theorem cmv_self : ∀ (L : Nat) (a : Va), cmv L a a = 0
  | 0, _ => rfl
  | L + 1, .mk k n s l => by
    rw [cmv_same]
    unfold cmb
    split
    · exact sg_self n
    · split
      · exact cml_self s
      · split
        · rw [if_neg (by omega)]
          exact cmF_self (cmv_self L) l
        · rfl
theorem cmv_anti : ∀ (L : Nat) (a b : Va), cmv L b a = - cmv L a b
  | 0, _, _ => rfl
  | L + 1, .mk k n s l, .mk k' n' s' l' => by
    by_cases hk : k = k'
    · subst hk
      rw [cmv_same, cmv_same]
      unfold cmb
      by_cases g1 : k = 1 ∨ k = 2 ∨ k = 5
      · rw [if_pos g1, if_pos g1]
        exact sg_anti n n'
      · rw [if_neg g1, if_neg g1]
        by_cases g2 : k = 3
        · rw [if_pos g2, if_pos g2]
          exact cml_anti s s'
        · rw [if_neg g2, if_neg g2]
          by_cases g3 : k = 4
          · rw [if_pos g3, if_pos g3]
            by_cases hl : l.length = l'.length
            · rw [if_neg (by omega), if_neg (by omega)]
              exact cmF_anti (cmv_anti L) l l'
            · rw [if_pos (by omega), if_pos hl]
              exact sg_anti _ _
          · rw [if_neg g3, if_neg g3]
            rfl
    · rw [cmv_other (Ne.symm hk), cmv_other hk]
      exact sg_anti _ _
theorem cmv_range : ∀ (L : Nat) (a b : Va), -1 ≤ cmv L a b ∧ cmv L a b ≤ 1
  | 0, _, _ => by simp [cmv]
  | L + 1, .mk k n s l, .mk k' n' s' l' => by
    rw [cmv]
    split
    · exact sg_range _ _
    · split
      · exact sg_range _ _
      · split
        · exact cml_range _ _
        · split
          · split
            · exact sg_range _ _
            · exact cmF_range (cmv_range L) l l'
          · omega
theorem cmv_tri : ∀ (L : Nat) (a b c : Va), Tri (cmv L a b) (cmv L b c) (cmv L a c)
  | 0, _, _, _ => by simp [cmv, Tri]
  | L + 1, .mk k n s l, .mk k' n' s' l', .mk k'' n'' s'' l'' => by
    by_cases h1 : k = k'
    · by_cases h2 : k' = k''
      · subst h1
        subst h2
        rw [cmv_same, cmv_same, cmv_same]
        unfold cmb
        by_cases g1 : k = 1 ∨ k = 2 ∨ k = 5
        · rw [if_pos g1, if_pos g1, if_pos g1]
          exact sg_tri _ _ _
        · rw [if_neg g1, if_neg g1, if_neg g1]
          by_cases g2 : k = 3
          · rw [if_pos g2, if_pos g2, if_pos g2]
            exact cml_tri _ _ _
          · rw [if_neg g2, if_neg g2, if_neg g2]
            by_cases g3 : k = 4
            · rw [if_pos g3, if_pos g3, if_pos g3]
              by_cases f1 : l.length = l'.length
              · by_cases f2 : l'.length = l''.length
                · rw [if_neg (by omega), if_neg (by omega), if_neg (by omega)]
                  exact cmF_tri (cmv_tri L) l l' l'' f1 f2
                · rw [if_neg (by omega), if_pos f2, if_pos (by omega)]
                  intro h3 h4
                  have : sg l.length l''.length = sg l'.length l''.length := by rw [f1]
                  have := @sg_zero l'.length l''.length
                  omega
              · by_cases f2 : l'.length = l''.length
                · rw [if_pos f1, if_neg (by omega), if_pos (by omega)]
                  intro h3 h4
                  have : sg l.length l''.length = sg l.length l'.length := by rw [f2]
                  have := @sg_zero l.length l'.length
                  omega
                · rw [if_pos f1, if_pos f2]
                  by_cases f3 : l.length = l''.length
                  · rw [if_neg (by omega)]
                    intro h3 h4
                    have e := sg_anti l.length l'.length
                    rw [← f3] at h4
                    have := @sg_zero l.length l'.length
                    omega
                  · rw [if_pos f3]
                    exact sg_tri _ _ _
            · rw [if_neg g3, if_neg g3, if_neg g3]
              simp [Tri]
      · subst h1
        rw [cmv_other h2, cmv_other h2]
        intro h3 h4
        have := @sg_zero k k''
        omega
    · by_cases h2 : k' = k''
      · subst h2
        rw [cmv_other h1, cmv_other h1]
        intro h3 h4
        have := @sg_zero k k'
        omega
      · rw [cmv_other h1, cmv_other h2]
        by_cases h3 : k = k''
        · subst h3
          intro h3 h4
          have e := sg_anti k k'
          have := @sg_zero k k'
          omega
        · rw [cmv_other h3]
          exact sg_tri _ _ _
theorem cmF_zero {f : Va → Va → Int} : ∀ {a b : List Va}, (∀ x ∈ a, ∀ y ∈ b, f x y = 0 → x = y) → a.length = b.length → cmF f a b = 0 → a = b
  | [], [], _, _, _ => rfl
  | x :: a, y :: b, hf, h, h0 => by
    rw [cmF] at h0
    by_cases e : f x y = 0
    · rw [if_neg (by omega)] at h0
      rw [hf x (by simp) y (by simp) e, cmF_zero (fun x hx y hy => hf x (by simp [hx]) y (by simp [hy])) (by simpa using h) h0]
    · rw [if_pos e] at h0
      exact absurd h0 e
/-- Of right values only the same are the same. -/
theorem cmv_zero : ∀ (L : Nat) (a b : Va), Rt L a → Rt L b → cmv L a b = 0 → a = b
  | 0, _, _, h, _, _ => h.elim
  | L + 1, .mk k n s l, .mk k' n' s' l', ha, hb, h => by
    rw [cmv] at h
    by_cases hk : k = k'
    · subst hk
      rw [if_neg (by simp)] at h
      rcases ha with ⟨h1, h2⟩ | ⟨h1, rfl, rfl, h4⟩
      · rcases hb with ⟨g1, g2⟩ | ⟨g1, _⟩
        · obtain ⟨rfl, hc⟩ := lf_cases h2
          obtain ⟨rfl, hd⟩ := lf_cases g2
          rcases hc with ⟨rfl, rfl⟩ | ⟨rfl, rfl, _⟩ | ⟨rfl, rfl, _⟩ | ⟨rfl, rfl, _⟩
          · rw [if_pos (by simp)] at h
            have hs : s' = [] := by rcases hd with h | h | h | h <;> first | exact h.2 | exact h.2.1 | omega
            rw [sg_zero h, hs]
          · rw [if_pos (by simp)] at h
            have hs : s' = [] := by rcases hd with h | h | h | h <;> first | omega | exact h.2.1
            rw [sg_zero h, hs]
          · rw [if_neg (by simp), if_pos rfl] at h
            have hn : n' = 0 := by rcases hd with h | h | h | h <;> first | omega | exact h.2.1
            rw [cml_zero h, hn]
          · rw [if_pos (by simp)] at h
            have hs : s' = [] := by rcases hd with h | h | h | h <;> first | omega | exact h.2.1
            rw [sg_zero h, hs]
        · exact absurd g1 h1
      · subst h1
        rcases hb with ⟨g1, _⟩ | ⟨_, rfl, rfl, g4⟩
        · exact absurd rfl g1
        · rw [if_neg (by simp), if_neg (by simp), if_pos rfl] at h
          by_cases hl : l.length = l'.length
          · rw [if_neg (by omega)] at h
            rw [cmF_zero (fun x hx y hy => cmv_zero L x y (h4 x hx) (g4 y hy)) hl h]
          · rw [if_pos hl] at h
            have := sg_zero h
            omega
    · rw [if_pos hk] at h
      have := sg_zero h
      omega

/-! Of how many levels a value is asked says nothing, where it has no more. -/
theorem flatMap_same {f g : Va → List Nat} : ∀ l : List Va, (∀ t ∈ l, f t = g t) → l.flatMap f = l.flatMap g
  | [], _ => rfl
  | v :: l, h => by rw [List.flatMap_cons, List.flatMap_cons, h v (by simp), flatMap_same l (fun t ht => h t (by simp [ht]))]
theorem enc_more : ∀ (L : Nat) (v : Va), Rt L v → enc (L + 1) v = enc L v
  | 0, _, h => h.elim
  | L + 1, .mk k n s l, h => by
    rcases h with ⟨h1, h2⟩ | ⟨rfl, rfl, rfl, h4⟩
    · obtain ⟨rfl, _⟩ := lf_cases h2
      simp [enc]
    · rw [enc_tuple, enc_tuple, flatMap_same l (fun t ht => enc_more L t (h4 t ht))]
theorem cmF_same {f g : Va → Va → Int} : ∀ a b : List Va, (∀ x ∈ a, ∀ y, f x y = g x y) → cmF f a b = cmF g a b
  | [], [], _ => rfl
  | [], _ :: _, _ => rfl
  | _ :: _, [], _ => rfl
  | x :: a, y :: b, h => by
    rw [cmF, cmF, h x (by simp), cmF_same a b (fun x hx y => h x (by simp [hx]) y)]
theorem cmv_more : ∀ (L : Nat) (v u : Va), Rt L v → cmv (L + 1) v u = cmv L v u
  | 0, _, _, h => h.elim
  | L + 1, .mk k n s l, .mk k' n' s' l', h => by
    rw [cmv, cmv]
    rcases h with ⟨h1, h2⟩ | ⟨rfl, rfl, rfl, h4⟩
    · rw [if_neg h1, if_neg h1]
    · rw [cmF_same l l' (fun t ht u => cmv_more L t u (h4 t ht))]
theorem rgtL_more {f g : Va → Nat → Option Nat} : ∀ (l : List Va) (m m' : Nat), (∀ t ∈ l, ∀ m m', f t m = some m' → g t m = some m') → l.foldlM (fun m v => f v m) m = some m' → l.foldlM (fun m v => g v m) m = some m'
  | [], m, m', _, h => h
  | v :: l, m, m', hfg, h => by
    rw [List.foldlM_cons] at h ⊢
    cases hv : f v m with
    | none => rw [hv] at h; simp at h
    | some m1 =>
      rw [hv] at h
      rw [hfg v (by simp) m m1 hv]
      exact rgtL_more l m1 m' (fun t ht => hfg t (by simp [ht])) h
theorem rgt_more : ∀ (L : Nat) (v : Va) (m m' : Nat), rgt L v m = some m' → rgt (L + 1) v m = some m'
  | 0, _, _, _, h => by simp [rgt] at h
  | L + 1, .mk k n s l, m, m', h => by
    obtain ⟨m1, rfl, hc⟩ := rgt_cases h
    rcases hc with ⟨h1, h2, rfl⟩ | ⟨rfl, rfl, rfl, h4⟩
    · exact rgt_leaf h1 h2
    · rw [rgt_tuple]
      exact rgtL_more l m1 m' (fun t _ m m' => rgt_more L t m m') h4
end Go.Proofs.YtfobmlicmbelnaaDoor
