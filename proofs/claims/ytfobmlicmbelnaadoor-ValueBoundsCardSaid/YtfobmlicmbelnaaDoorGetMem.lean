/- drover/value.Get's closure: what the loop over the parts keeps. -/
import Derived.Test.YtfobmlicmbelnaaDoorGetLeaf
import Derived.Test.YtfobmlicmbelnaaDoorRight2
namespace Go.Proofs.YtfobmlicmbelnaaDoor
open Go.RowKit

theorem val_info : (Tryd.prog.info? 25).map (fun i => (i.zero, i.size, i.bytes)) = some (some zeroV, 4, 56) := by kernel_rfl

/-- Bytes below block B. -/
def BsB (w : World) (B : Nat) (v : Value) (l : List Nat) : Prop := (∃ A c, v = .slice A l.length c ∧ l.length ≤ c ∧ At w B A (bv l)) ∧ (∀ x ∈ l, x < 256)
theorem BsB.bs {w : World} {B : Nat} {v : Value} {l : List Nat} (h : BsB w B v l) (hB : B ≤ w.heap.size) : Bs w v l := by
  obtain ⟨⟨A, c, e, hc, ha⟩, h8⟩ := h
  exact ⟨⟨A, c, e, hc, ha.more hB⟩, h8⟩
theorem BsB.below {w w' : World} {B : Nat} {v : Value} {l : List Nat} (h : BsB w B v l) (hb : Below B w w') : BsB w' B v l := by
  obtain ⟨⟨A, c, e, hc, ha⟩, h8⟩ := h
  exact ⟨⟨A, c, e, hc, ha.below hb⟩, h8⟩

theorem decL_snoc {f : Nat → Nat → Except Nat (Va × Nat × Nat)} : ∀ (j at_ m : Nat) (ts : List Va) (nx m2 : Nat) (t : Va) (nx' m3 : Nat), decL f j at_ m = .ok (ts, nx, m2) → f nx m2 = .ok (t, nx', m3) → decL f (j + 1) at_ m = .ok (ts ++ [t], nx', m3)
  | 0, at_, m, ts, nx, m2, t, nx', m3, h, hf => by
    simp only [decL, Except.ok.injEq, Prod.mk.injEq] at h
    obtain ⟨rfl, rfl, rfl⟩ := h
    rw [decL, hf]
    simp [decL]
  | j + 1, at_, m, ts, nx, m2, t, nx', m3, h, hf => by
    rw [decL] at h
    cases hv : f at_ m with
    | error e => rw [hv] at h; simp at h
    | ok r =>
      obtain ⟨v, n1, m1⟩ := r
      rw [hv] at h
      dsimp only at h
      cases hr : decL f j n1 m1 with
      | error e => rw [hr] at h; simp at h
      | ok r =>
        obtain ⟨l', n2, m2'⟩ := r
        rw [hr] at h
        simp only [Except.ok.injEq, Prod.mk.injEq] at h
        obtain ⟨rfl, rfl, rfl⟩ := h
        have ih := decL_snoc j n1 m1 l' n2 m2' t nx' m3 hr hf
        rw [decL, hv]
        dsimp only
        rw [ih]
        simp
theorem decL_err {f : Nat → Nat → Except Nat (Va × Nat × Nat)} : ∀ (j at_ m c : Nat) (ts : List Va) (nx m2 e : Nat), decL f j at_ m = .ok (ts, nx, m2) → f nx m2 = .error e → j < c → decL f c at_ m = .error e
  | 0, at_, m, c, ts, nx, m2, e, h, hf, hc => by
    obtain ⟨c, rfl⟩ : ∃ c', c = c' + 1 := ⟨c - 1, by omega⟩
    simp only [decL, Except.ok.injEq, Prod.mk.injEq] at h
    obtain ⟨rfl, rfl, rfl⟩ := h
    rw [decL, hf]
  | j + 1, at_, m, c, ts, nx, m2, e, h, hf, hc => by
    obtain ⟨c, rfl⟩ : ∃ c', c = c' + 1 := ⟨c - 1, by omega⟩
    rw [decL] at h
    cases hv : f at_ m with
    | error e => rw [hv] at h; simp at h
    | ok r =>
      obtain ⟨v, n1, m1⟩ := r
      rw [hv] at h
      dsimp only at h
      cases hr : decL f j n1 m1 with
      | error e => rw [hr] at h; simp at h
      | ok r =>
        obtain ⟨l', n2, m2'⟩ := r
        rw [hr] at h
        simp only [Except.ok.injEq, Prod.mk.injEq] at h
        obtain ⟨rfl, rfl, rfl⟩ := h
        rw [decL, hv]
        dsimp only
        rw [decL_err j n1 m1 c l' n2 m2' e hr hf (by omega)]

/-- The cells cs are the values ts, one behind the other. -/
def Prt (w : World) (S : Nat → Prop) (cs : List Value) (ts : List Va) : Prop := cs.length = ts.length * 4 ∧
  ∀ i t, ts[i]? = some t → ∃ y0 y1 y2 y3, cs[i * 4]? = some y0 ∧ cs[i * 4 + 1]? = some y1 ∧ cs[i * 4 + 2]? = some y2 ∧ cs[i * 4 + 3]? = some y3 ∧ RepS w S (.agg #[y0, y1, y2, y3]) t
theorem Prt.nil (w : World) (S : Nat → Prop) : Prt w S [] [] := ⟨rfl, by simp⟩
theorem Prt.keep {w w' : World} {S S' : Nat → Prop} {cs : List Value} {ts : List Va} (h : Prt w S cs ts) (hk : ∀ p : Addr, S p.block → w'.cell? p = w.cell? p) (hS : ∀ b, S b → S' b) : Prt w' S' cs ts := by
  refine ⟨h.1, fun i t ht => ?_⟩
  obtain ⟨y0, y1, y2, y3, h0, h1, h2, h3, hr⟩ := h.2 i t ht
  exact ⟨y0, y1, y2, y3, h0, h1, h2, h3, (hr.keep hk).wider hS⟩
theorem Prt.snoc {w : World} {S : Nat → Prop} {cs : List Value} {ts : List Va} {y0 y1 y2 y3 : Value} {t : Va} (h : Prt w S cs ts) (hr : RepS w S (.agg #[y0, y1, y2, y3]) t) : Prt w S (cs ++ [y0, y1, y2, y3]) (ts ++ [t]) := by
  have hl := h.1
  refine ⟨by simp; omega, fun i u hu => ?_⟩
  by_cases hi : i < ts.length
  · rw [List.getElem?_append_left hi] at hu
    obtain ⟨z0, z1, z2, z3, h0, h1, h2, h3, hr⟩ := h.2 i u hu
    refine ⟨z0, z1, z2, z3, ?_, ?_, ?_, ?_, hr⟩
    · rw [List.getElem?_append_left (by omega)]; exact h0
    · rw [List.getElem?_append_left (by omega)]; exact h1
    · rw [List.getElem?_append_left (by omega)]; exact h2
    · rw [List.getElem?_append_left (by omega)]; exact h3
  · have hi2 : i = ts.length := by
      have := (List.getElem?_eq_some_iff.1 hu).1
      simp at this
      omega
    subst hi2
    rw [List.getElem?_append_right (Nat.le_refl _)] at hu
    simp at hu
    subst hu
    refine ⟨y0, y1, y2, y3, ?_, ?_, ?_, ?_, hr⟩
    · rw [List.getElem?_append_right (by omega), show ts.length * 4 - cs.length = 0 by omega]; rfl
    · rw [List.getElem?_append_right (by omega), show ts.length * 4 + 1 - cs.length = 1 by omega]; rfl
    · rw [List.getElem?_append_right (by omega), show ts.length * 4 + 2 - cs.length = 2 by omega]; rfl
    · rw [List.getElem?_append_right (by omega), show ts.length * 4 + 3 - cs.length = 3 by omega]; rfl
/-- A row of the call's own that holds them is a list of values. -/
theorem Prt.reps {w : World} {S S' : Nat → Prop} {base : Nat} {A : Option Addr} {n c : Nat} {cs : List Value} {ts : List Va} (h : Prt w S cs ts) (ho : w.ownsRow base 25 4 (.slice A n c) n cs) (hn : n = ts.length)
    (hS : ∀ b, S b → S' b) (hg : ∀ g, (Value.slice A n c).ownBlock = some g → S' g) : RepsS w S' A ts := by
  subst hn
  have hA := At.of_own ho
  have hX : ∀ i : Nat, ∃ x : Value, ∀ t, ts[i]? = some t → ∃ y0 y1 y2 y3, x = .agg #[y0, y1, y2, y3] ∧ cs[i * 4]? = some y0 ∧ cs[i * 4 + 1]? = some y1 ∧ cs[i * 4 + 2]? = some y2 ∧ cs[i * 4 + 3]? = some y3 ∧ RepS w S' x t := by
    intro i
    cases hi : ts[i]? with
    | none => exact ⟨.nilIface, by simp⟩
    | some t =>
      obtain ⟨y0, y1, y2, y3, h0, h1, h2, h3, hr⟩ := h.2 i t hi
      refine ⟨.agg #[y0, y1, y2, y3], fun t' ht' => ?_⟩
      obtain rfl := Option.some.inj ht'
      exact ⟨y0, y1, y2, y3, rfl, h0, h1, h2, h3, hr.wider hS⟩
  refine ⟨fun i => (hX i).choose, fun i hi => ?_, fun i t ht => ?_⟩
  · obtain ⟨y0, y1, y2, y3, e, h0, h1, h2, h3, _⟩ := (hX i).choose_spec ts[i] (List.getElem?_eq_getElem hi)
    have hne : cs ≠ [] := by
      intro h0
      have := h.1
      rw [h0, List.length_nil] at this
      omega
    obtain ⟨b, o, hb, _, hc⟩ := hA hne
    refine ⟨b, o, y0, y1, y2, y3, hb, ?_, e, ?_⟩
    · rcases ho.2 with ⟨e1, e2⟩ | ⟨g, cap, cur, e1, _⟩
      · omega
      · injection e1 with e1 _ _
        rw [hb] at e1
        have e2 : b = g := by
          have := Option.some.inj e1
          injection this
        subst e2
        exact hg b (by rw [hb]; injection e1 with e1; injection e1 with _ e4 _; subst e4; rfl)
    · intro j v hj
      match j, hj with
      | 0, hj => simp at hj; subst hj; exact hc _ _ h0
      | 1, hj => simp at hj; subst hj; rw [Nat.add_assoc]; exact hc _ _ h1
      | 2, hj => simp at hj; subst hj; rw [Nat.add_assoc]; exact hc _ _ h2
      | 3, hj => simp at hj; subst hj; rw [Nat.add_assoc]; exact hc _ _ h3
      | j + 4, hj => simp at hj
  · obtain ⟨_, _, _, _, _, _, _, _, _, hr⟩ := (hX i).choose_spec t ht
    exact hr
end Go.Proofs.YtfobmlicmbelnaaDoor
