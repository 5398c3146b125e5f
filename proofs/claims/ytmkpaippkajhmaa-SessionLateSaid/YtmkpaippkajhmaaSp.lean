/- Receive told apart by what it tells; plain facts for the laws of layer 7. -/
import Derived.Test.YtmkpaippkajhmaaSo
namespace Go.Proofs.Ytmkpaippkajhmaa
open Go.RowKit
set_option linter.unusedVariables false

section
variable {w w' : World} {base q : Nat} {r r' : Option Nat} {p p' : Se}
theorem recvn_any (h : SeAt w base q r p) (v : Value) (b : List Nat) (hv : Bs w v b) (hn : b.length ≤ 1099511627776) (hbase : base ≤ w.heap.size) {er : Nat} (hr : p.recv b = (p', none, er)) :
    Calls Try.prog 13 #[.pointer (some ⟨q, 0, none⟩), v] w fun e w' => e = .returned (.tuple #[.agg #[.int .i64 0, .slice none 0 0], .bool false, .int .i64 (er : Int)]) ∧ AfterS w base q r p' w' := by
  refine (receive_any h v b hv hn hbase).mono ?_
  intro e w1 hO
  unfold RecvP at hO
  rw [hr] at hO
  exact ⟨hO.2, hO.1⟩
def SomeP (s : Nat) (d : List Nat) (w : World) (e : Ending) (w' : World) : Prop := ∃ A c, e = .returned (.tuple #[.agg #[.int .i64 (s : Int), .slice A d.length c], .bool true, .int .i64 0]) ∧ Bx w' 0 (.slice A d.length c) d
theorem recvs_any (h : SeAt w base q r p) (v : Value) (b : List Nat) (hv : Bs w v b) (hn : b.length ≤ 1099511627776) (hbase : base ≤ w.heap.size) {s : Nat} {d : List Nat} {er : Nat} (hr : p.recv b = (p', some (s, d), er)) :
    Calls Try.prog 13 #[.pointer (some ⟨q, 0, none⟩), v] w fun e w' => SomeP s d w e w' ∧ AfterS w base q r p' w' := by
  refine (receive_any h v b hv hn hbase).mono ?_
  intro e w1 hO
  unfold RecvP at hO
  rw [hr] at hO
  obtain ⟨h1, A, c, h2, h3, h4⟩ := hO
  exact ⟨⟨A, c, h2, Bx.of_own h3 h4.2⟩, h1⟩
end
/-- Two lists of items that say the same. -/
theorem its_eq {w w' : World} {first : Nat} {ds : List (List Nat)} {L L' : List It} (h : Its w first ds L) (h' : Its w' first ds L') : L.map It.p = L'.map It.p := by
  apply List.ext_getElem?
  intro i
  have hd : L.map (·.d) = L'.map (·.d) := h.ds.trans h'.ds.symm
  have hi := congrArg (fun l => l[i]?) hd
  simp only [List.getElem?_map] at hi ⊢
  cases hx : L[i]? with
  | none =>
    rw [hx] at hi
    cases hy : L'[i]? with
    | none => rfl
    | some y => rw [hy] at hi; simp at hi
  | some x =>
    rw [hx] at hi
    cases hy : L'[i]? with
    | none => rw [hy] at hi; simp at hi
    | some y =>
      rw [hy] at hi
      simp at hi
      simp [It.p, hi, h.num i x hx, h'.num i y hy]
section
variable {w w' : World} {base q lo : Nat} {r : Option Nat} {p : Se}
/-- A row of items made later, and its items, stay beside a session's call. -/
theorem irow_other {v : Value} {L : List It} (h : SeAt w base q r p) (k : Kr q r w w') (ho : w.ownsRow lo 27 2 v L.length (iCs L)) (hq : q < lo) (hr : ∀ g, r = some g → g < lo) : w'.ownsRow lo 27 2 v L.length (iCs L) :=
  irow_kept ho (fun g hg => by
    obtain ⟨h1, _, h2⟩ := irow_blk ho hg
    exact k.block g (lt_heap h2) (by omega) (fun e => by have := hr g e; omega))
theorem its_other {first : Nat} {ds : List (List Nat)} {L : List It} (h : SeAt w base q r p) (k : Kr q r w w') (hi : Its w first ds L) : Its w' first ds L :=
  hi.keep k.size (fun b cur fr hb => k.block b (lt_heap hb) (h.q_ne hb (by decide)) (h.row_ne hb (by decide)))
end
theorem pkt1_ok {l s a : Nat} {d : List Nat} (h2 : l ≤ 100000) (h3 : s ≤ 100000) (h4 : a ≤ 100000) (h5 : d.length ≤ 1048576) (h6 : s = 0 → d = []) : pright ⟨1, l, s, a, d⟩ = true := pkt_ok (by show 1 ≤ 100; omega) h2 h3 h4 h5 h6
theorem pkb_short {k : Pk} (h : k.d.length ≤ 1048576) : (pkb k).length ≤ 1099511627776 := by
  have := pkb_len k
  omega
end Go.Proofs.Ytmkpaippkajhmaa
