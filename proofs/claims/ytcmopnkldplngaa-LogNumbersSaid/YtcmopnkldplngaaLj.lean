/- Lists that Open told, and rows of the call's own, beside a disk and its logs. -/
import Derived.Test.YtcmopnkldplngaaLi
import Derived.Test.YtcmopnkldplngaaDl
namespace Go.Proofs.Ytcmopnkldplngaa
open Go.RowKit

section
variable {w w' : World} {base p q lo m : Nat} {r r2 : Option Nat} {d d2 : Pd} {v : Value} {l : List Nat} {A : Option Addr} {ll : List (List Nat)}
theorem dk_beside (h : Dk w base p r d) (hb : Below w.heap.size w w') (ho : Own w' w.heap.size v l) : Beside w' base p r d v l :=
  ⟨h.below hb, ho.mono h.base_le, fun g e e' => by
    have h1 := (own_row ho e).1
    have h2 := (h.row_lt e').2
    omega⟩
theorem Beside.to (h : Beside w base p r d v l) (h1 : Dk w' base p r2 d2) (h2 : Kr p r w w') (h3 : Rw w r r2) : Beside w' base p r2 d2 v l := by
  refine ⟨h1, own_kr h.own h2 h.row_ne h.sep, fun g hg => ?_⟩
  rcases h3 with rfl | ⟨k, rfl, hk⟩
  · exact h.sep g hg
  · intro e
    obtain ⟨_, cur, hc⟩ := own_row h.own hg
    have := lt_heap hc
    have := Option.some.inj e
    omega
/-- A row stays off the blocks from lo on below m. -/
def Off (r : Option Nat) (lo m : Nat) : Prop := ∀ b, lo ≤ b → b < m → r ≠ some b
theorem Off.rw (h : Off r lo m) (hr : Rw w r r2) (hm : m ≤ w.heap.size) : Off r2 lo m := by
  rcases hr with rfl | ⟨g, rfl, hg⟩
  · exact h
  · intro b _ h2 e
    have := Option.some.inj e
    omega
theorem Off.opened (h : ∀ g, r = some g → g < lo) (hr : r2 = r ∨ ∃ g, r2 = some g ∧ m ≤ g) : Off r2 lo m := by
  intro b h1 h2 e
  rcases hr with rfl | ⟨g, rfl, hg⟩
  · have := h b e
    omega
  · have := Option.some.inj e
    omega
theorem BlkS.kr (h : BlkS w (fun b => lo ≤ b ∧ b < m) A ll) (hk : Kr p r w w') (hp : p < lo) (hm : m ≤ w.heap.size) (hr : Off r lo m) : BlkS w' (fun b => lo ≤ b ∧ b < m) A ll :=
  h.keep (fun z hz => cell_same (hk.block z.block (by have := hz.2; omega) (by have := hz.1; omega) (hr _ hz.1 hz.2))) (fun _ h => h)
theorem BlkS.kl (h : BlkS w (fun b => lo ≤ b ∧ b < m) A ll) (hk : Kl p q r w w') (hp : p < lo) (hq : q < lo ∨ m ≤ q) (hm : m ≤ w.heap.size) (hr : Off r lo m) : BlkS w' (fun b => lo ≤ b ∧ b < m) A ll :=
  h.keep (fun z hz => cell_same (hk.block z.block (by have := hz.2; omega) (by have := hz.1; omega) (by have := hz.1; have := hz.2; omega) (hr _ hz.1 hz.2))) (fun _ h => h)
theorem BlkS.low (h : BlkS w (fun b => lo ≤ b ∧ b < m) A ll) (hb : Below w.heap.size w w') (hm : m ≤ w.heap.size) : BlkS w' (fun b => lo ≤ b ∧ b < m) A ll :=
  h.keep (fun z hz => hb.cell (by have := hz.2; omega)) (fun _ h => h)
theorem BlkS.one {c : Nat} (h : Bs w (.slice A l.length c) l) (T : TypeId) (g : Nat) (hg : g = w.heap.size) : BlkS (w.alloc (.cells #[.slice A l.length c] T)) (fun b => b < (w.alloc (.cells #[.slice A l.length c] T)).heap.size) (some ⟨g, 0, none⟩) [l] := by
  intro i x hx
  have hi : i = 0 := by
    have := (List.getElem?_eq_some_iff.1 hx).1
    simp at this
    omega
  subst hi
  simp at hx
  subst hx
  obtain ⟨-, h2, h3, h4⟩ := (h.alloc (.cells #[.slice A l.length c] T)).parts
  exact ⟨g, 0, A, c, rfl, by subst hg; simp, cell_block (heap_new' w _ g hg) 0, h2, h3, h4⟩
end
end Go.Proofs.Ytcmopnkldplngaa
