/- droverlaw05.built: the walk. -/
import Derived.Test.YtcmopnkldplngaaLk
import Derived.Test.YtcmopnkldplngaaBrw
import Derived.Test.YtcmopnkldplngaaAwake05
namespace Go.Proofs.Ytcmopnkldplngaa
open Go.RowKit

/-- The disk of a log of records, as 'built' leaves it. -/
def dOf (all : List (List Nat)) : Pd := ⟨1048576, lrecs all, (lrecs all).length, false, 0, false⟩
theorem addL_dOf (all : List (List Nat)) (x : List Nat) (hx : 1 ≤ x.length ∧ x.length ≤ 1048576) (h : ¬ 1048576 - (lrecs all).length < (lrec x).length) : addL (plOf all) (dOf all) x = (plOf (all ++ [x]), dOf (all ++ [x]), 0) := by
  rw [addL_ok _ _ _ hx rfl rfl rfl h]
  simp [plOf, dOf, lrecs_snoc]
/-- Which of the records 'built' takes. -/
def lok (x : List Nat) : Bool := decide (1 ≤ x.length ∧ x.length ≤ 100)
def ltake (ll : List (List Nat)) : List (List Nat) := (ll.take 30).filter lok
theorem ltake_snoc (ll : List (List Nat)) (j : Nat) (hj : j < ll.length) : (ll.take (j + 1)).filter lok = (ll.take j).filter lok ++ (if lok (ll.getD j []) = true then [ll.getD j []] else []) := by
  rw [List.take_succ_eq_append_getElem hj, List.filter_append]
  congr 1
  rw [List.filter_cons, List.filter_nil]
  simp [hj]
theorem lrecs_small (ll : List (List Nat)) (h : ∀ x ∈ ll, x.length ≤ 100) : (lrecs ll).length ≤ 108 * ll.length := by
  induction ll with
  | nil => simp [lrecs]
  | cons x l ih =>
    have h1 := h x (by simp)
    have h2 := ih (fun y hy => h y (List.mem_cons_of_mem _ hy))
    rw [lrecs_cons, List.length_append, lrec_length, List.length_cons]
    omega
/-- What is there of a log of records that were added. -/
structure Bt (w : World) (base p q : Nat) (r : Option Nat) (v : Value) (vs : List Value) (all : List (List Nat)) : Prop where
  lg : Lg w base p q r (dOf all) (plOf all)
  row : RowS w base r v vs all
theorem AtS.sxb {w w' : World} {base : Nat} {r : Option Nat} {A : Option Addr} {xs : List Value} (h : AtS w (Sx w base r) A xs) (hb : Below w.heap.size w w') : AtS w' (Sx w' base r) A xs :=
  h.keep (fun _ hz => hb.cell hz.lt) (fun b k => by
    rcases k with ⟨k1, k2⟩ | ⟨k1, k2, cur, fr, k3⟩
    · exact .inl ⟨k1, Nat.lt_of_lt_of_le k2 hb.size⟩
    · exact .inr ⟨k1, k2, cur, fr, heap_below k3 hb⟩)
/-- The piece at place j of an argument, in a later world. -/
theorem BRows.atx {w w' : World} {a : Option Addr} {n c : Nat} {ll : List (List Nat)} (h : BRows w a n c ll) (hb : Below w.heap.size w w') (base : Nat) (hbase : w.heap.size ≤ base) (j : Nat) (hj : j < n) :
    ∃ b o A k, a = some ⟨b, o, none⟩ ∧ w'.cell? ⟨b, o + j, none⟩ = some (.slice A (ll.getD j []).length k) ∧ Bs w' (.slice A (ll.getD j []).length k) (ll.getD j []) ∧ (ll.getD j []).length ≤ k ∧ ∀ r, AtS w' (Sx w' base r) A (bv (ll.getD j [])) := by
  obtain ⟨b, o, e, hlt, hr⟩ := h.row (by omega)
  obtain ⟨A, k, hc, hbs⟩ := hr j hj
  obtain ⟨-, hk, hat, -⟩ := id hbs.parts
  refine ⟨b, o, A, k, e, (hb.cell (p := ⟨b, o + j, none⟩) hlt).trans hc, hbs.below hb, hk, fun r hn => ?_⟩
  obtain ⟨b', o', e', hlt', hcell⟩ := (hat.below hb) hn
  exact ⟨b', o', e', .inl ⟨by omega, by have := hb.size; omega⟩, hcell⟩
end Go.Proofs.Ytcmopnkldplngaa
