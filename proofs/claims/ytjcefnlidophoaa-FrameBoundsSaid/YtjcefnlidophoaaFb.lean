/- Packets, and their bytes. Plain mathematics. -/
import Derived.Test.YtjcefnlidophoaaFa0
namespace Go.Proofs.Ytjcefnlidophoaa

/-- A packet: From, Life, Seq, Ack; Data. -/
structure Pk where
  f : Nat
  l : Nat
  s : Nat
  a : Nat
  d : List Nat
def big : Nat := 4611686018427387904
/-- Its bytes, ahead of their sum. -/
def penc (p : Pk) : List Nat := [p.f, p.l, p.s, p.a].flatMap varint ++ gB p.d
def pright (p : Pk) : Bool := decide (p.f ≤ big) && decide (p.l ≤ big) && decide (p.s ≤ big) && decide (p.a ≤ big) && decide (p.d.length ≤ 1048576) && (decide (p.s ≠ 0) || p.d.isEmpty)
theorem pright_iff {p : Pk} : pright p = true ↔ p.f ≤ big ∧ p.l ≤ big ∧ p.s ≤ big ∧ p.a ≤ big ∧ p.d.length ≤ 1048576 ∧ (p.s = 0 → p.d = []) := by
  unfold pright
  simp only [Bool.and_eq_true, Bool.or_eq_true, decide_eq_true_eq, List.isEmpty_iff]
  constructor
  · rintro ⟨⟨⟨⟨⟨h1, h2⟩, h3⟩, h4⟩, h5⟩, h6⟩
    exact ⟨h1, h2, h3, h4, h5, fun h => h6.resolve_left (fun h' => h' h)⟩
  · rintro ⟨h1, h2, h3, h4, h5, h6⟩
    refine ⟨⟨⟨⟨⟨h1, h2⟩, h3⟩, h4⟩, h5⟩, ?_⟩
    by_cases h : p.s = 0
    · exact .inr (h6 h)
    · exact .inl h
/-- A packet's number. -/
def fP (b : List Nat) (at_ : Nat) : Except Nat (Nat × Nat) := if (gu b at_).2.2 ≠ 0 then .error (gu b at_).2.2 else if big < (gu b at_).1 then .error 14 else .ok ((gu b at_).1, (gu b at_).2.1)
/-- The packet whose bytes b are, ahead of their sum. -/
def pdec (b : List Nat) : Except Nat Pk :=
  match many (fP b) 4 0 with
  | .error e => .error e
  | .ok (ns, at_) =>
    if (gb b at_ 1048576).2.2 ≠ 0 then .error (gb b at_ 1048576).2.2
    else if ns.getD 2 0 = 0 ∧ (gb b at_ 1048576).1 ≠ [] then .error 14
    else if (gb b at_ 1048576).2.1 < b.length then .error 10
    else .ok ⟨ns.getD 0 0, ns.getD 1 0, ns.getD 2 0, ns.getD 3 0, (gb b at_ 1048576).1⟩
theorem fP_put (b : List Nat) (n : Nat) (hn : n ≤ big) (p q : List Nat) (hb : b = p ++ varint n ++ q) : fP b p.length = .ok (n, p.length + (varint n).length) := by
  have hg := gu_at p n q (by unfold big at hn; omega) p.length rfl
  unfold fP
  rw [hb, hg]
  dsimp only
  rw [if_neg (by simp), if_neg (by omega)]
theorem fP_back (b : List Nat) (h8 : ∀ x ∈ b, x < 256) (at_ : Nat) (n : Nat) (nx : Nat) (hat : at_ ≤ b.length) (h : fP b at_ = .ok (n, nx)) : n ≤ big ∧ at_ ≤ nx ∧ nx ≤ b.length ∧ (b.drop at_).take (nx - at_) = varint n := by
  unfold fP at h
  split at h
  · cases h
  · rename_i h0
    split at h
    · cases h
    · rename_i h1
      simp only [Except.ok.injEq, Prod.mk.injEq] at h
      obtain ⟨rfl, rfl⟩ := h
      obtain ⟨m1, m2, m3, m4⟩ := gu_mid b h8 at_ hat (by omega)
      exact ⟨by omega, by omega, m2, m3⟩
/-- What is put is got. -/
theorem pdec_penc {p : Pk} (hr : pright p = true) : pdec (penc p) = .ok p := by
  obtain ⟨h1, h2, h3, h4, h5, h6⟩ := pright_iff.1 hr
  generalize hb : penc p = b
  unfold penc at hb
  have e1 := many_put b (fP b) varint [p.f, p.l, p.s, p.a] [] (gB p.d) (by rw [← hb]; simp) (fun n hn q r h => fP_put b n (by
    simp only [List.mem_cons, List.not_mem_nil, or_false] at hn
    rcases hn with rfl | rfl | rfl | rfl <;> assumption) q r h)
  have e2 := gb_at ([p.f, p.l, p.s, p.a].flatMap varint) p.d [] 1048576 (by omega) (by omega) _ rfl
  have e3 : [p.f, p.l, p.s, p.a].flatMap varint ++ varint p.d.length ++ p.d ++ [] = b := by rw [← hb]; unfold gB; simp
  rw [e3] at e2
  have hl : ([p.f, p.l, p.s, p.a].flatMap varint).length + (varint p.d.length).length + p.d.length = b.length := by rw [← hb]; unfold gB; simp [Nat.add_assoc]
  unfold pdec
  rw [show many (fP b) 4 0 = _ from e1]
  dsimp only
  rw [List.length_nil, Nat.zero_add, e2]
  dsimp only
  rw [if_neg (by simp), if_neg (fun h => h.2 (h6 h.1)), if_neg (by omega)]
  rfl
/-- What is got is right, and put again is the same bytes. -/
theorem pdec_back {b : List Nat} (h8 : ∀ x ∈ b, x < 256) {p : Pk} (h : pdec b = .ok p) : penc p = b ∧ pright p = true ∧ ∀ x ∈ p.d, x < 256 := by
  unfold pdec at h
  split at h
  · cases h
  · rename_i ns at_ e1
    obtain ⟨q1, q2, q3, q4, q5⟩ := many_back b (fP b) varint _ (fP_back b h8) 4 0 ns at_ (Nat.zero_le _) e1
    split at h
    · cases h
    · rename_i h0
      split at h
      · cases h
      · rename_i h1
        split at h
        · cases h
        · rename_i h2
          injection h with h
          subst h
          obtain ⟨m1, m2, m3, m4⟩ := gb_ok b h8 at_ q4 1048576 (by omega)
          match ns, q1 with
          | [n0, n1, n2, n3], _ =>
            have ha : (gb b at_ 1048576).2.1 = b.length := by omega
            have s1 := mid_append b 0 at_ b.length (by omega) q4
            rw [← ha] at s1
            have s0 : (b.drop 0).take ((gb b at_ 1048576).2.1 - 0) = b := by rw [ha]; simp
            have f0 : b = [n0, n1, n2, n3].flatMap varint ++ gB (gb b at_ 1048576).1 := by
              refine s0.symm.trans ?_
              rw [s1, q5, m3]
              rfl
            refine ⟨?_, ?_, ?_⟩
            · unfold penc
              exact f0.symm
            · rw [pright_iff]
              refine ⟨q2 n0 (by simp), q2 n1 (by simp), q2 n2 (by simp), q2 n3 (by simp), (by show (gb b at_ 1048576).1.length ≤ 1048576; omega), fun hs => ?_⟩
              by_cases hd : (gb b at_ 1048576).1 = []
              · exact hd
              · exact absurd ⟨hs, hd⟩ h1
            · intro x hx
              exact h8 x (by
                rw [f0]
                unfold gB
                exact List.mem_append_right _ (List.mem_append_right _ hx))
end Go.Proofs.Ytjcefnlidophoaa
