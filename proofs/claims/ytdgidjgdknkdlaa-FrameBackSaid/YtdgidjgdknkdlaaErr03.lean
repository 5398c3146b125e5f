/- What Get and Unpack tell of sealed bytes. -/
import Derived.Test.YtdgidjgdknkdlaaTurned03
import Derived.Test.YtdgidjgdknkdlaaPopen
import Derived.Test.YtdgidjgdknkdlaaAwake03
namespace Go.Proofs.Ytdgidjgdknkdlaa
open Go.RowKit

theorem many_ne0 {α : Type} {f : Nat → Except Nat (α × Nat)} (hf : ∀ a e, f a = .error e → e ≠ 0) : ∀ (n a e : Nat), many f n a = .error e → e ≠ 0
  | 0, a, e, h => by simp [many] at h
  | n + 1, a, e, h => by
    rw [many] at h
    split at h
    · rename_i e1 h1
      injection h with h
      subst h
      exact hf _ _ h1
    · rename_i x nx h1
      split at h
      · rename_i e2 h2
        injection h with h
        subst h
        exact many_ne0 hf n nx _ h2
      · cases h
theorem lst_ne0 {α : Type} {f : Nat → Except Nat (α × Nat)} {b : List Nat} {most : Nat} (hf : ∀ a e, f a = .error e → e ≠ 0) {a e : Nat} (h : lst b most f a = .error e) : e ≠ 0 := by
  unfold lst at h
  split at h
  · injection h with h
    subst h
    assumption
  · split at h
    · injection h with h
      omega
    · exact many_ne0 hf _ _ _ h
theorem fN_ne0 {b : List Nat} (a e : Nat) (h : fN b a = .error e) : e ≠ 0 := by
  unfold fN at h
  split at h
  · injection h with h
    subst h
    assumption
  · cases h
theorem fB_ne0 {b : List Nat} (a e : Nat) (h : fB b a = .error e) : e ≠ 0 := by
  unfold fB at h
  split at h
  · injection h with h
    subst h
    assumption
  · cases h
theorem fV_ne0 {b : List Nat} (a e : Nat) (h : fV b a = .error e) : e ≠ 0 := by
  unfold fV at h
  split at h
  · rename_i e1 h1
    injection h with h
    subst h
    exact dec_err _ _ _ _ _ h1
  · cases h
theorem fP_ne0 {b : List Nat} (a e : Nat) (h : fP b a = .error e) : e ≠ 0 := by
  unfold fP at h
  split at h
  · injection h with h
    subst h
    assumption
  · split at h
    · injection h with h
      omega
    · cases h
theorem mdec_err {b : List Nat} {e : Nat} (h : mdec b = .error e) : e ≠ 0 := by
  unfold mdec at h
  split at h
  · injection h with h
    omega
  · split at h
    · rename_i e1 h1
      injection h with h
      subst h
      exact lst_ne0 fN_ne0 h1
    · split at h
      · rename_i e1 h1
        injection h with h
        subst h
        exact lst_ne0 fV_ne0 h1
      · split at h
        · rename_i e1 h1
          injection h with h
          subst h
          exact lst_ne0 fB_ne0 h1
        · split at h
          · injection h with h
            omega
          · cases h
theorem pdec_err {b : List Nat} {e : Nat} (h : pdec b = .error e) : e ≠ 0 := by
  unfold pdec at h
  split at h
  · rename_i e1 h1
    injection h with h
    subst h
    exact many_ne0 fP_ne0 _ _ _ h1
  · split at h
    · injection h with h
      subst h
      assumption
    · split at h
      · injection h with h
        omega
      · split at h
        · injection h with h
          omega
        · cases h
/-- Of sealed bytes Get tells an error, or a right message whose bytes they are. -/
theorem mget_seal (b : List Nat) (h8 : ∀ x ∈ b, x < 256) (hn : b.length ≤ 1000) : (∃ e, e ≠ 0 ∧ mget (b ++ be4 (crcN b)) = .error e) ∨ ∃ m, mget (b ++ be4 (crcN b)) = .ok m ∧ menc m = b ∧ MOk m ∧ mright m = true := by
  have hm : mget (b ++ be4 (crcN b)) = mdec b := by
    unfold mget
    rw [if_neg (by rw [List.length_append, be4_length]; omega), us_seal, if_neg (by simp)]
  rw [hm]
  cases hd : mdec b with
  | error e => exact .inl ⟨e, mdec_err hd, rfl⟩
  | ok m =>
    obtain ⟨h1, h2, h3, h4, h5, h6, h7⟩ := mdec_back h8 hd
    exact .inr ⟨m, rfl, h1, h2, mright_iff.2 ⟨h3, h4, h5, h6, h7, by rw [h1]; omega⟩⟩
theorem pget_seal (b : List Nat) (h8 : ∀ x ∈ b, x < 256) (hn : b.length ≤ 1000) : (∃ e, e ≠ 0 ∧ pget (b ++ be4 (crcN b)) = .error e) ∨ ∃ p, pget (b ++ be4 (crcN b)) = .ok p ∧ penc p = b ∧ pright p = true := by
  have hm : pget (b ++ be4 (crcN b)) = pdec b := by
    unfold pget
    rw [if_neg (by rw [List.length_append, be4_length]; omega), us_seal, if_neg (by simp)]
  rw [hm]
  cases hd : pdec b with
  | error e => exact .inl ⟨e, pdec_err hd, rfl⟩
  | ok p =>
    obtain ⟨h1, h2, -⟩ := pdec_back h8 hd
    exact .inr ⟨p, rfl, h1, h2⟩
theorem pint_of {p : Pk} (h : pright p = true) : pint p.f p.l p.s p.a p.d = true ∧ p.f ≤ 9223372036854775807 ∧ p.l ≤ 9223372036854775807 ∧ p.s ≤ 9223372036854775807 ∧ p.a ≤ 9223372036854775807 := by
  obtain ⟨h1, h2, h3, h4, h5, h6⟩ := pright_iff.1 h
  have hb : big = 4611686018427387904 := rfl
  refine ⟨?_, by omega, by omega, by omega, by omega⟩
  unfold pint
  simp only [Bool.and_eq_true, decide_eq_true_eq, Bool.or_eq_true, List.isEmpty_iff]
  refine ⟨⟨⟨⟨⟨⟨by omega, by omega⟩, by omega, by omega⟩, by omega, by omega⟩, by omega, by omega⟩, h5⟩, ?_⟩
  by_cases hs : p.s = 0
  · exact .inr (h6 hs)
  · exact .inl (by omega)
theorem pint_right {f l s a : Int} {d : List Nat} (h : pint f l s a d = true) : 0 ≤ f ∧ 0 ≤ l ∧ 0 ≤ s ∧ 0 ≤ a ∧ pright ⟨f.toNat, l.toNat, s.toNat, a.toNat, d⟩ = true := by
  unfold pint at h
  simp only [Bool.and_eq_true, decide_eq_true_eq, Bool.or_eq_true, List.isEmpty_iff] at h
  obtain ⟨⟨⟨⟨⟨h1, h2⟩, h3⟩, h4⟩, h5⟩, h6⟩ := h
  refine ⟨h1.1, h2.1, h3.1, h4.1, pright_iff.2 ⟨by dsimp only; omega, by dsimp only; omega, by dsimp only; omega, by dsimp only; omega, h5, fun h => ?_⟩⟩
  rcases h6 with h6 | h6
  · exact absurd (by dsimp only at h; omega) h6
  · exact h6
theorem penc_bound (p : Pk) : 1 ≤ (penc p).length ∧ (penc p).length ≤ 50 + p.d.length := by
  have n1 := varint_length p.f
  have n2 := varint_length p.l
  have n3 := varint_length p.s
  have n4 := varint_length p.a
  have n5 := varint_length p.d.length
  simp [penc, gB]
  omega
theorem samep_same (f l s a : Nat) (d : List Nat) (A A' : Option Addr) (c c' : Nat) (w : World) (hd : Bs w (.slice A d.length c) d) (hd' : Bs w (.slice A' d.length c') d) :
    Calls Try.prog 19 #[.agg #[.int .i64 (f : Int), .int .i64 (l : Int), .int .i64 (s : Int), .int .i64 (a : Int), .slice A d.length c], .agg #[.int .i64 (f : Int), .int .i64 (l : Int), .int .i64 (s : Int), .int .i64 (a : Int), .slice A' d.length c']] w fun e w' => e = .returned (.bool true) ∧ Below w.heap.size w w' := by
  refine (samep_any f l s a f l s a d d A A' c c' w hd hd').mono ?_
  rintro e w' ⟨rfl, h⟩
  exact ⟨congrArg Ending.returned (congrArg Value.bool (decide_eq_true ⟨rfl, rfl, rfl, rfl, rfl⟩)), h⟩
/-- Pack of a packet that Unpack told. -/
theorem pack_back (p : Pk) (A : Option Addr) (c : Nat) (w : World) (hd : Bs w (.slice A p.d.length c) p.d) (h : pright p = true) :
    Calls Try.prog 18 #[.agg #[.int .i64 (p.f : Int), .int .i64 (p.l : Int), .int .i64 (p.s : Int), .int .i64 (p.a : Int), .slice A p.d.length c]] w fun e w' => ∃ u, e = .returned (.tuple #[u, .int .i64 0]) ∧ Bs w' u (penc p ++ be4 (crcN (penc p))) ∧ Below w.heap.size w w' := by
  obtain ⟨h1, h2, h3, h4, h5⟩ := pint_of h
  refine (pack_any p.f p.l p.s p.a p.d A c w hd ⟨by omega, by omega⟩ ⟨by omega, by omega⟩ ⟨by omega, by omega⟩ ⟨by omega, by omega⟩).mono ?_
  rintro e w' ⟨hb, -, hyes⟩
  obtain ⟨u, e1, -, hu⟩ := hyes h1
  exact ⟨u, e1, by simpa using hu, hb⟩
theorem pget_12 (X : List Nat) (h1 : X.length ≤ 1048576) (h2 : us X = ([], 12)) : pget X = .error 12 := by
  unfold pget
  rw [if_neg (by omega), h2, if_pos (by simp)]
theorem xor_other (a t : Nat) (h : t ≠ 0) : a ^^^ t ≠ a := by
  intro e
  have h1 : a ^^^ (a ^^^ t) = a ^^^ a := by rw [e]
  rw [← Nat.xor_assoc, Nat.xor_self, Nat.zero_xor] at h1
  exact h h1
end Go.Proofs.Ytdgidjgdknkdlaa
