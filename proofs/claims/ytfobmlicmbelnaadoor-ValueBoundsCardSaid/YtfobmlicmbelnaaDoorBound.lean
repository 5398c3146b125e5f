/- How long a right value's bytes and text may be. Plain mathematics. -/
import Derived.Test.YtfobmlicmbelnaaDoorVc
namespace Go.Proofs.YtfobmlicmbelnaaDoor

theorem foldlM_bound {f : Nat → Va → Option Nat} {g : Va → Nat} {c : Nat} (hf : ∀ v m m', f m v = some m' → g v + c * m' ≤ c * m) : ∀ (l : List Va) (m m' : Nat), l.foldlM f m = some m' → (l.map g).sum + c * m' ≤ c * m
  | [], m, m', h => by
    simp [List.foldlM] at h
    subst h
    simp
  | v :: l, m, m', h => by
    rw [List.foldlM_cons] at h
    cases hv : f m v with
    | none => rw [hv] at h; simp at h
    | some m1 =>
      rw [hv] at h
      have h' : l.foldlM f m1 = some m' := h
      have h1 := foldlM_bound hf l m1 m' h'
      have h2 := hf v m m1 hv
      rw [List.map_cons, List.sum_cons]
      omega
theorem flat_sum (f : Va → List Nat) : ∀ l : List Va, (l.flatMap f).length = (l.map fun v => (f v).length).sum
  | [] => rfl
  | v :: l => by rw [List.flatMap_cons, List.length_append, flat_sum f l, List.map_cons, List.sum_cons]
theorem enc_len : ∀ (L : Nat) (v : Va) (m m' : Nat), rgt L v m = some m' → (enc L v).length + 4110 * m' ≤ 4110 * m
  | 0, _, _, _, h => by simp [rgt] at h
  | L + 1, .mk k n s l, m, m', h => by
    obtain ⟨m1, rfl, hc⟩ := rgt_cases h
    rcases hc with ⟨h1, h2, rfl⟩ | ⟨rfl, rfl, rfl, h4⟩
    · have hle : (enc (L + 1) (.mk k n s l)).length ≤ 4110 := by
        obtain ⟨rfl, hc⟩ := lf_cases h2
        have v1 := (varint_length (zz n)).2
        have v2 := (varint_length s.length).2
        rcases hc with ⟨rfl, rfl⟩ | ⟨rfl, rfl, _⟩ | ⟨rfl, _, hs⟩ | ⟨rfl, rfl, _⟩ <;> simp [enc] <;> omega
      omega
    · have hs := foldlM_bound (f := fun m v => rgt L v m) (g := fun v => (enc L v).length) (fun v m m' h => enc_len L v m m' h) l m1 m' h4
      have v2 := (varint_length l.length).2
      rw [enc_tuple, List.length_cons, List.length_append, flat_sum]
      omega
theorem jn_sum : ∀ l : List (List Nat), (jn l).length ≤ (l.map fun x => x.length + 2).sum
  | [] => by simp [jn]
  | x :: r => by
    have h : ∀ r : List (List Nat), (r.flatMap fun y => 44 :: 32 :: y).length = (r.map fun x => x.length + 2).sum := by
      intro r
      induction r with
      | nil => rfl
      | cons y r ih => rw [List.flatMap_cons, List.length_append, ih, List.map_cons, List.sum_cons, List.length_cons, List.length_cons]
    rw [jn, List.length_append, h, List.map_cons, List.sum_cons]
    omega
theorem shw_len : ∀ (L : Nat) (v : Va) (m m' : Nat), rgt L v m = some m' → Ok L v → (shw L v).length + 2 + 12300 * m' ≤ 12300 * m
  | 0, _, _, _, h, _ => by simp [rgt] at h
  | L + 1, .mk k n s l, m, m', h, ok => by
    obtain ⟨m1, rfl, hc⟩ := rgt_cases h
    rcases hc with ⟨h1, h2, rfl⟩ | ⟨rfl, rfl, rfl, h4⟩
    · have hle : (shw (L + 1) (.mk k n s l)).length ≤ 12292 := by
        obtain ⟨rfl, hc⟩ := lf_cases h2
        have v1 := itoaN_len n ok.2.1 ok.2.2.1
        have v2 := quo_len s
        rcases hc with ⟨rfl, rfl⟩ | ⟨rfl, rfl, _⟩ | ⟨rfl, _, hs⟩ | ⟨rfl, rfl, _⟩
        · simp [shw]; omega
        · by_cases h1 : n = 1 <;> simp [shw, h1]
        · simp [shw]; omega
        · simp [shw]; omega
      omega
    · have hall : ∀ (l : List Va) (m m' : Nat), (∀ t ∈ l, Ok L t) → l.foldlM (fun m v => rgt L v m) m = some m' → (l.map fun v => (shw L v).length + 2).sum + 12300 * m' ≤ 12300 * m := by
        intro l
        induction l with
        | nil =>
          intro m m' _ h
          simp [List.foldlM] at h
          subst h
          simp
        | cons v l ih =>
          intro m m' hok h
          rw [List.foldlM_cons] at h
          cases hv : rgt L v m with
          | none => rw [hv] at h; simp at h
          | some m1 =>
            rw [hv] at h
            have h' : l.foldlM (fun m v => rgt L v m) m1 = some m' := h
            have h1 := ih m1 m' (fun t ht => hok t (by simp [ht])) h'
            have h2 := shw_len L v m m1 hv (hok v (by simp))
            rw [List.map_cons, List.sum_cons]
            omega
      have hs := hall l m1 m' ok.2.2.2.2 h4
      have hj := jn_sum (l.map (shw L))
      rw [List.map_map] at hj
      have e : (shw (L + 1) (.mk 4 0 [] l)).length ≤ (jn (l.map (shw L))).length + 3 := by
        have e0 : shw (L + 1) (.mk 4 0 [] l) = 40 :: shT (l.map (shw L)) := by simp [shw]
        rw [e0, shT_jn]
        simp only [List.length_cons, List.length_append, List.length_nil]
        split <;> simp <;> omega
      have hj' : (jn (l.map (shw L))).length ≤ (l.map fun v => (shw L v).length + 2).sum := hj
      omega
theorem enc_short {v : Va} (h : right v = true) : (enc 16 v).length ≤ 1052160 := by
  obtain ⟨m, hm⟩ : ∃ m, rgt 16 v 256 = some m := Option.isSome_iff_exists.1 h
  have := enc_len 16 v 256 m hm
  omega
theorem shw_short {v : Va} (h : right v = true) (ok : Ok 16 v) : (shw 16 v).length ≤ 3148800 := by
  obtain ⟨m, hm⟩ : ∃ m, rgt 16 v 256 = some m := Option.isSome_iff_exists.1 h
  have := shw_len 16 v 256 m hm ok
  omega
end Go.Proofs.YtfobmlicmbelnaaDoor
