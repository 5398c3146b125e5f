/- Lists of what is got one behind the other. Plain mathematics. -/
import Derived.Test.YtjcefnlidophoaaGb
namespace Go.Proofs.Ytjcefnlidophoaa

section
variable {α : Type}
/-- So many of what f gets, one behind the other. -/
def many (f : Nat → Except Nat (α × Nat)) : Nat → Nat → Except Nat (List α × Nat)
  | 0, at_ => .ok ([], at_)
  | c + 1, at_ => match f at_ with
    | .error e => .error e
    | .ok (x, nx) => match many f c nx with
      | .error e => .error e
      | .ok (l, n2) => .ok (x :: l, n2)
/-- A list that tells how many there are, at most so many. -/
def lst (b : List Nat) (most : Nat) (f : Nat → Except Nat (α × Nat)) (at_ : Nat) : Except Nat (List α × Nat) :=
  if (gu b at_).2.2 ≠ 0 then .error (gu b at_).2.2 else if most < (gu b at_).1 then .error 14 else many f (gu b at_).1 (gu b at_).2.1
theorem many_put (b : List Nat) (f : Nat → Except Nat (α × Nat)) (g : α → List Nat) : ∀ (l : List α) (p q : List Nat), b = p ++ l.flatMap g ++ q →
    (∀ x ∈ l, ∀ p q : List Nat, b = p ++ g x ++ q → f p.length = .ok (x, p.length + (g x).length)) → many f l.length p.length = .ok (l, p.length + (l.flatMap g).length)
  | [], p, q, _, _ => rfl
  | x :: l, p, q, hb, hf => by
    have h1 := hf x (by simp) p (l.flatMap g ++ q) (by rw [hb]; simp)
    have h2 := many_put b f g l (p ++ g x) q (by rw [hb]; simp) (fun y hy => hf y (by simp [hy]))
    rw [List.length_append] at h2
    rw [List.length_cons, many, h1]
    dsimp only
    rw [h2, List.flatMap_cons, List.length_append, Nat.add_assoc]
theorem many_back (b : List Nat) (f : Nat → Except Nat (α × Nat)) (g : α → List Nat) (P : α → Prop)
    (hf : ∀ (at_ : Nat) (x : α) (nx : Nat), at_ ≤ b.length → f at_ = .ok (x, nx) → P x ∧ at_ ≤ nx ∧ nx ≤ b.length ∧ (b.drop at_).take (nx - at_) = g x) :
    ∀ (c at_ : Nat) (l : List α) (nx : Nat), at_ ≤ b.length → many f c at_ = .ok (l, nx) → l.length = c ∧ (∀ x ∈ l, P x) ∧ at_ ≤ nx ∧ nx ≤ b.length ∧ (b.drop at_).take (nx - at_) = l.flatMap g
  | 0, at_, l, nx, hat, h => by
    simp only [many, Except.ok.injEq, Prod.mk.injEq] at h
    obtain ⟨rfl, rfl⟩ := h
    refine ⟨rfl, by simp, Nat.le_refl _, hat, by simp⟩
  | c + 1, at_, l, nx, hat, h => by
    rw [many] at h
    split at h
    · cases h
    · rename_i x n1 h1
      obtain ⟨p1, p2, p3, p4⟩ := hf at_ x n1 hat h1
      split at h
      · cases h
      · rename_i l' n2 h2
        obtain ⟨q1, q2, q3, q4, q5⟩ := many_back b f g P hf c n1 l' n2 p3 h2
        simp only [Except.ok.injEq, Prod.mk.injEq] at h
        obtain ⟨rfl, rfl⟩ := h
        refine ⟨by simp [q1], fun y hy => ?_, by omega, q4, ?_⟩
        · rcases List.mem_cons.1 hy with rfl | hy
          · exact p1
          · exact q2 y hy
        · rw [mid_append b at_ n1 n2 p2 q3, p4, q5, List.flatMap_cons]
theorem lst_put (b : List Nat) (most : Nat) (f : Nat → Except Nat (α × Nat)) (g : α → List Nat) (l : List α) (p q : List Nat) (hl : l.length ≤ most) (hm : most < 18446744073709551616) (hb : b = p ++ varint l.length ++ l.flatMap g ++ q)
    (hf : ∀ x ∈ l, ∀ p q : List Nat, b = p ++ g x ++ q → f p.length = .ok (x, p.length + (g x).length)) : lst b most f p.length = .ok (l, (p ++ varint l.length ++ l.flatMap g).length) := by
  have hg := gu_at p l.length (l.flatMap g ++ q) (by omega) p.length rfl
  rw [show p ++ varint l.length ++ (l.flatMap g ++ q) = b by rw [hb]; simp] at hg
  unfold lst
  rw [hg]
  dsimp only
  rw [if_neg (by simp), if_neg (by omega)]
  have := many_put b f g l (p ++ varint l.length) q hb hf
  rw [List.length_append] at this
  rw [this]
  simp [Nat.add_assoc]
theorem lst_back (b : List Nat) (h8 : ∀ x ∈ b, x < 256) (most : Nat) (f : Nat → Except Nat (α × Nat)) (g : α → List Nat) (P : α → Prop)
    (hf : ∀ (at_ : Nat) (x : α) (nx : Nat), at_ ≤ b.length → f at_ = .ok (x, nx) → P x ∧ at_ ≤ nx ∧ nx ≤ b.length ∧ (b.drop at_).take (nx - at_) = g x)
    (at_ : Nat) (l : List α) (nx : Nat) (hat : at_ ≤ b.length) (h : lst b most f at_ = .ok (l, nx)) : l.length ≤ most ∧ (∀ x ∈ l, P x) ∧ at_ ≤ nx ∧ nx ≤ b.length ∧ (b.drop at_).take (nx - at_) = varint l.length ++ l.flatMap g := by
  unfold lst at h
  split at h
  · cases h
  · rename_i h0
    split at h
    · cases h
    · rename_i h1
      obtain ⟨m1, m2, m3, _⟩ := gu_mid b h8 at_ hat (by omega)
      obtain ⟨q1, q2, q3, q4, q5⟩ := many_back b f g P hf _ _ l nx m2 h
      refine ⟨by omega, q2, by omega, q4, ?_⟩
      rw [mid_append b at_ _ nx (by omega) q3, m3, q5, q1]
end

def gB (l : List Nat) : List Nat := varint l.length ++ l
end Go.Proofs.Ytjcefnlidophoaa
