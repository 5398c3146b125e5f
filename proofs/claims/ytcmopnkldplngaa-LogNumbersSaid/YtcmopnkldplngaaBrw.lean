/- A list of blobs, and a list of numbers, among a law's arguments. -/
import Derived.Test.YtcmopnkldplngaaRow
import Derived.Deep.Matrix
namespace Go.Proofs.Ytcmopnkldplngaa
open Go.RowKit Go.ChangeShapes Go.WideShapes

theorem ints_bs {w : World} {a : Option Addr} {n c : Nat} {zs : List Int} (h : Ints .u8 w a n c zs) : Bs w (.slice a n c) (zs.map Int.toNat) := by
  have hb : ∀ z ∈ zs, ∃ m : Nat, z = m ∧ m < 256 := fun z hz => wf_u8 (h.wf z hz)
  refine Bs.of_at ?_ (by simp [h.len]) h.cap ?_
  · have e : bv (zs.map Int.toNat) = zs.map (Value.int .u8) := by
      unfold bv
      rw [List.map_map]
      apply List.map_congr_left
      intro z hz
      obtain ⟨m, rfl, _⟩ := hb z hz
      simp
    rw [e]
    exact h.at_
  · intro x hx
    obtain ⟨z, hz, rfl⟩ := List.mem_map.1 hx
    obtain ⟨m, rfl, hm⟩ := hb z hz
    simpa using hm
/-- A list of blobs that came in. -/
structure BRows (w : World) (a : Option Addr) (n c : Nat) (ll : List (List Nat)) : Prop where
  len : ll.length = n
  cap : n ≤ c
  row : 0 < n → ∃ b o, a = some ⟨b, o, none⟩ ∧ b < w.heap.size ∧ ∀ r, r < n → ∃ A k, w.cell? ⟨b, o + r, none⟩ = some (.slice A (ll.getD r []).length k) ∧ Bs w (.slice A (ll.getD r []).length k) (ll.getD r [])
theorem brows_open {H : Type} {enc : TypeId × Value → H} {W : World} {a : Option Addr} {n c : Nat} {d : DataW H} {p : List MemPlace}
    (h : DataW.Trod enc Try.prog W 0 (fun _ => true) true 30 (.slice a n c) d p) : ∃ ll : List (List Nat), BRows W a n c ll := by
  obtain ⟨fuel, hf⟩ := h
  rcases Deep.open_int_rows Try.underlying30 Try.underlying22 Try.underlying5 (by kernel_rfl) (by kernel_rfl) hf with ⟨hcs, _⟩ | ⟨x, len, cap, A, L, C, Z, hcs, _, hl, hm, _, hrow⟩
  · simp [Value.cells] at hcs
    obtain ⟨rfl, rfl, rfl⟩ := hcs
    exact ⟨[], rfl, Nat.le_refl _, fun h => absurd h (by omega)⟩
  · simp [Value.cells] at hcs
    obtain ⟨rfl, rfl, rfl⟩ := hcs
    refine ⟨(List.range n).map fun r => ((Z r).take (L r)).map Int.toNat, by simp, hl, fun hn => ?_⟩
    obtain ⟨hc0, _⟩ := hrow 0 (by omega)
    obtain ⟨b, o, s⟩ := x
    have hs : s = none := by simpa [Addr.add] using World.cell?_spot hc0
    subst hs
    refine ⟨b, o, rfl, ?_, fun r hr => ?_⟩
    · have := World.block_lt_of_cell? W _ hc0
      simpa [Addr.add] using this
    · obtain ⟨h1, h2, h3, h4, h5, h6, h7⟩ := hrow r (by omega)
      rw [Addr.add_lit] at h1
      have e : ((List.range n).map fun r => ((Z r).take (L r)).map Int.toNat).getD r [] = ((Z r).take (L r)).map Int.toNat := by simp [hr]
      rw [e]
      have hlen : (((Z r).take (L r)).map Int.toNat).length = L r := by simp; omega
      rw [hlen]
      refine ⟨A r, C r, h1, ?_⟩
      cases hA : A r with
      | none =>
        have hC := h6 hA
        have hL : L r = 0 := by omega
        rw [hC, hL]
        simp
        exact Bs.nil W
      | some a' => exact ints_bs (ints_some .u8 W a' (L r) (C r) (Z r) h2 h3 h4 (fun i hi => (h7 a' hA).2 i (by omega)) h5)
theorem BRows.below {w w' : World} {a : Option Addr} {n c : Nat} {ll : List (List Nat)} (h : BRows w a n c ll) (hb : Below w.heap.size w w') : BRows w' a n c ll := by
  refine ⟨h.len, h.cap, fun hn => ?_⟩
  obtain ⟨b, o, e, hlt, hr⟩ := h.row hn
  refine ⟨b, o, e, Nat.lt_of_lt_of_le hlt hb.size, fun r hrn => ?_⟩
  obtain ⟨A, k, hc, hbs⟩ := hr r hrn
  exact ⟨A, k, (hb.cell (p := ⟨b, o + r, none⟩) hlt).trans hc, hbs.below hb⟩
theorem ints_cell {w : World} {a : Option Addr} {n c : Nat} {zs : List Int} (h : Ints .i64 w a n c zs) (hn : 0 < n) :
    ∃ b o, a = some ⟨b, o, none⟩ ∧ b < w.heap.size ∧ ∀ r, r < n → w.cell? ⟨b, o + r, none⟩ = some (.int .i64 (zs.getD r 0)) := by
  have hl := h.len
  obtain ⟨b, o, e, hb, hc⟩ := h.at_ (by intro h0; have := congrArg List.length h0; rw [List.length_map, List.length_nil] at this; omega)
  exact ⟨b, o, e, hb, fun r hr => hc r _ (by simp [show r < zs.length by omega])⟩
/-- The piece at place j, in a later world. -/
theorem BRows.at {w w' : World} {a : Option Addr} {n c : Nat} {ll : List (List Nat)} (h : BRows w a n c ll) (hb : Below w.heap.size w w') (j : Nat) (hj : j < n) :
    ∃ b o A k, a = some ⟨b, o, none⟩ ∧ w'.cell? ⟨b, o + j, none⟩ = some (.slice A (ll.getD j []).length k) ∧ Bs w' (.slice A (ll.getD j []).length k) (ll.getD j []) := by
  obtain ⟨b, o, e, hlt, hr⟩ := h.row (by omega)
  obtain ⟨A, k, hc, hbs⟩ := hr j hj
  exact ⟨b, o, A, k, e, (hb.cell (p := ⟨b, o + j, none⟩) hlt).trans hc, hbs.below hb⟩
end Go.Proofs.Ytcmopnkldplngaa
