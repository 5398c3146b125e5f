/- Lists of blobs in memory: of the call's own, and in blocks of a set. -/
import Derived.Test.YtcmopnkldplngaaBs
namespace Go.Proofs.Ytcmopnkldplngaa
open Go.RowKit

/-- The values vs are the blobs ll, each in memory of its own from block lo on. -/
def Blk (w : World) (lo : Nat) (vs : List Value) (ll : List (List Nat)) : Prop := vs.length = ll.length ∧ ∀ (i : Nat) (x : List Nat), ll[i]? = some x → ∃ v, vs[i]? = some v ∧ Own w lo v x ∧ ∀ y ∈ x, y < 256
theorem own_block {w : World} {base : Nat} {v : Value} {l : List Nat} (h : Own w base v l) {g : Nat} (hg : v.ownBlock = some g) : base ≤ g ∧ ∃ cur, w.heap[g]? = some (.cells cur 5 (0, 0)) := by
  rcases h.2 with ⟨rfl, _⟩ | ⟨k, cap, cur, rfl, h1, h2, _⟩
  · cases hg
  · obtain rfl := Option.some.inj (show some k = some g from hg)
    exact ⟨h1, cur, h2⟩
theorem row_block {w : World} {base size n : Nat} {e : TypeId} {v : Value} {xs : List Value} (h : w.ownsRow base e size v n xs) {g : Nat} (hg : v.ownBlock = some g) : base ≤ g ∧ ∃ cur, w.heap[g]? = some (.cells cur e (0, 0)) := by
  rcases h.2 with ⟨rfl, _⟩ | ⟨k, cap, cur, rfl, h1, h2, _⟩
  · cases hg
  · obtain rfl := Option.some.inj (show some k = some g from hg)
    exact ⟨h1, cur, h2⟩
section
variable {w w' : World} {lo : Nat} {vs : List Value} {ll : List (List Nat)}
theorem Blk.nil (w : World) (lo : Nat) : Blk w lo [] [] := ⟨rfl, by simp⟩
theorem Blk.below (h : Blk w lo vs ll) (hb : Below w.heap.size w w') : Blk w' lo vs ll := by
  refine ⟨h.1, fun i x hx => ?_⟩
  obtain ⟨v, h1, h2, h3⟩ := h.2 i x hx
  exact ⟨v, h1, h2.below hb (Nat.le_refl _), h3⟩
/-- A row of another type grows. -/
theorem Blk.grown (h : Blk w lo vs ll) {base size n : Nat} {e : TypeId} {u : Value} {xs : List Value} (ho : w.ownsRow base e size u n xs) (he : e ≠ 5) (hg : w.grownBy w' u.ownBlock) : Blk w' lo vs ll := by
  refine ⟨h.1, fun i x hx => ?_⟩
  obtain ⟨v, h1, h2, h3⟩ := h.2 i x hx
  refine ⟨v, h1, World.ownsRow.kept h2 hg ?_, h3⟩
  cases hv : v.ownBlock with
  | none => exact .inl rfl
  | some g =>
    refine .inr fun hu => ?_
    obtain ⟨_, c1, e1⟩ := own_block h2 hv
    obtain ⟨_, c2, e2⟩ := row_block ho hu.symm
    rw [e1] at e2
    simp at e2
    exact he e2.2.symm
theorem Blk.snoc (h : Blk w lo vs ll) {v : Value} {x : List Nat} (hv : Own w lo v x) (h8 : ∀ y ∈ x, y < 256) : Blk w lo (vs ++ [v]) (ll ++ [x]) := by
  have hl := h.1
  refine ⟨by simp [hl], fun i y hy => ?_⟩
  by_cases hi : i < ll.length
  · rw [List.getElem?_append_left hi] at hy
    obtain ⟨u, h1, h2⟩ := h.2 i y hy
    exact ⟨u, by rw [List.getElem?_append_left (by omega)]; exact h1, h2⟩
  · have hi2 : i = ll.length := by
      have := (List.getElem?_eq_some_iff.1 hy).1
      simp at this
      omega
    subst hi2
    rw [List.getElem?_append_right (Nat.le_refl _)] at hy
    simp at hy
    subst hy
    exact ⟨v, by rw [List.getElem?_append_right (by omega), hl]; simp, hv, h8⟩
theorem Blk.mono (h : Blk w lo vs ll) {lo' : Nat} (hl : lo' ≤ lo) : Blk w lo' vs ll := by
  refine ⟨h.1, fun i x hx => ?_⟩
  obtain ⟨v, h1, h2, h3⟩ := h.2 i x hx
  exact ⟨v, h1, h2.mono hl, h3⟩
end
/-- From A on, the cells xs stand in w, in a block of S. -/
def AtS (w : World) (S : Nat → Prop) (A : Option Addr) (xs : List Value) : Prop := xs ≠ [] → ∃ b o, A = some ⟨b, o, none⟩ ∧ S b ∧ ∀ (i : Nat) (x : Value), xs[i]? = some x → w.cell? ⟨b, o + i, none⟩ = some x
/-- A list of blobs. -/
def BlkS (w : World) (S : Nat → Prop) (A : Option Addr) (ll : List (List Nat)) : Prop := ∀ (i : Nat) (x : List Nat), ll[i]? = some x → ∃ b o A' c', A = some ⟨b, o, none⟩ ∧ S b ∧ w.cell? ⟨b, o + i, none⟩ = some (.slice A' x.length c') ∧ x.length ≤ c' ∧ AtS w S A' (bv x) ∧ ∀ y ∈ x, y < 256
section
variable {w w' : World} {S S' : Nat → Prop} {A : Option Addr} {xs : List Value} {ll : List (List Nat)}
theorem AtS.keep (h : AtS w S A xs) (hk : ∀ p : Addr, S p.block → w'.cell? p = w.cell? p) (hS : ∀ b, S b → S' b) : AtS w' S' A xs := fun hn => by
  obtain ⟨b, o, e, hb, hc⟩ := h hn
  exact ⟨b, o, e, hS b hb, fun i x hx => (hk _ hb).trans (hc i x hx)⟩
theorem BlkS.keep (h : BlkS w S A ll) (hk : ∀ p : Addr, S p.block → w'.cell? p = w.cell? p) (hS : ∀ b, S b → S' b) : BlkS w' S' A ll := fun i x hx => by
  obtain ⟨b, o, A', c', e, hb, hc, hl, ha, h8⟩ := h i x hx
  exact ⟨b, o, A', c', e, hS b hb, (hk _ hb).trans hc, hl, ha.keep hk hS, h8⟩
theorem AtS.at_ (h : AtS w S A xs) {B : Nat} (hS : ∀ b, S b → b < B) : At w B A xs := fun hn => by
  obtain ⟨b, o, e, hb, hc⟩ := h hn
  exact ⟨b, o, e, hS b hb, hc⟩
theorem AtS.of_own {base size n : Nat} {e : TypeId} {c : Nat} (h : w.ownsRow base e size (.slice A n c) n xs) : AtS w (fun b => base ≤ b ∧ b < w.heap.size) A xs := fun hn => by
  obtain ⟨b, o, e1, hb, hc⟩ := At.of_own h hn
  refine ⟨b, o, e1, ⟨?_, hb⟩, hc⟩
  subst e1
  exact (row_block h (show (Value.slice (some ⟨b, o, none⟩) n c).ownBlock = some b from rfl)).1
theorem BlkS.of_own {lo n c : Nat} {vs : List Value} (h : w.ownsRow lo 22 1 (.slice A n c) n vs) (hb : Blk w lo vs ll) : BlkS w (fun b => lo ≤ b ∧ b < w.heap.size) A ll := fun i x hx => by
  obtain ⟨v, h1, h2, h3⟩ := hb.2 i x hx
  obtain ⟨b, o, e, hS, hc⟩ := AtS.of_own h (by intro h0; rw [h0] at h1; simp at h1)
  obtain ⟨A', c', rfl, hl, -, -, -, -⟩ := h2.form
  exact ⟨b, o, A', c', e, hS, hc i _ h1, hl, AtS.of_own h2, h3⟩
end
end Go.Proofs.Ytcmopnkldplngaa
