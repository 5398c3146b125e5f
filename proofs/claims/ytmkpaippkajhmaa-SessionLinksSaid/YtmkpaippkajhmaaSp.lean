/- Receive told apart by what it tells; plain facts for the laws of layer 7. -/
import Derived.Test.YtmkpaippkajhmaaSo
namespace Go.Proofs.Ytmkpaippkajhmaa
open Go.RowKit
set_option linter.unusedVariables false

section
variable {w w' : World} {base q : Nat} {r r' : Option Nat} {p p' : Se}
theorem recvn_any (h : SeAt w base q r p) (v : Value) (b : List Nat) (hv : Bs w v b) (hn : b.length ≤ 1099511627776) (hbase : base ≤ w.heap.size) {er : Nat} (hr : p.recv b = (p', none, er)) :
    Calls Try.prog 13 #[.pointer (some ⟨q, 0, none⟩), v] w fun e w' => e = .returned (.tuple #[.agg #[.int .i64 0, .slice none 0 0], .bool false, .int .i64 (er : Int)]) ∧ AfterS w base q r p' w' := by
  refine (receive_any h v b hv hn hbase).mono ?_
  intro e w1 hO
  unfold RecvP at hO
  rw [hr] at hO
  exact ⟨hO.2, hO.1⟩
def SomeP (s : Nat) (d : List Nat) (w : World) (e : Ending) (w' : World) : Prop := ∃ A c, e = .returned (.tuple #[.agg #[.int .i64 (s : Int), .slice A d.length c], .bool true, .int .i64 0]) ∧ Bx w' 0 (.slice A d.length c) d
theorem recvs_any (h : SeAt w base q r p) (v : Value) (b : List Nat) (hv : Bs w v b) (hn : b.length ≤ 1099511627776) (hbase : base ≤ w.heap.size) {s : Nat} {d : List Nat} {er : Nat} (hr : p.recv b = (p', some (s, d), er)) :
    Calls Try.prog 13 #[.pointer (some ⟨q, 0, none⟩), v] w fun e w' => SomeP s d w e w' ∧ AfterS w base q r p' w' := by
  refine (receive_any h v b hv hn hbase).mono ?_
  intro e w1 hO
  unfold RecvP at hO
  rw [hr] at hO
  obtain ⟨h1, A, c, h2, h3, h4⟩ := hO
  exact ⟨⟨A, c, h2, Bx.of_own h3 h4.2⟩, h1⟩
end
/-- Two lists of items that say the same. -/
theorem its_eq {w w' : World} {first : Nat} {ds : List (List Nat)} {L L' : List It} (h : Its w first ds L) (h' : Its w' first ds L') : L.map It.p = L'.map It.p := by
  apply List.ext_getElem?
  intro i
  have hd : L.map (·.d) = L'.map (·.d) := h.ds.trans h'.ds.symm
  have hi := congrArg (fun l => l[i]?) hd
  simp only [List.getElem?_map] at hi ⊢
  cases hx : L[i]? with
  | none =>
    rw [hx] at hi
    cases hy : L'[i]? with
    | none => rfl
    | some y => rw [hy] at hi; simp at hi
  | some x =>
    rw [hx] at hi
    cases hy : L'[i]? with
    | none => rw [hy] at hi; simp at hi
    | some y =>
      rw [hy] at hi
      simp at hi
      simp [It.p, hi, h.num i x hx, h'.num i y hy]
section
variable {w w' : World} {base q lo : Nat} {r : Option Nat} {p : Se}
/-- A row of items made later, and its items, stay beside a session's call. -/
theorem irow_other {v : Value} {L : List It} (h : SeAt w base q r p) (k : Kr q r w w') (ho : w.ownsRow lo 27 2 v L.length (iCs L)) (hq : q < lo) (hr : ∀ g, r = some g → g < lo) : w'.ownsRow lo 27 2 v L.length (iCs L) :=
  irow_kept ho (fun g hg => by
    obtain ⟨h1, _, h2⟩ := irow_blk ho hg
    exact k.block g (lt_heap h2) (by omega) (fun e => by have := hr g e; omega))
theorem its_other {first : Nat} {ds : List (List Nat)} {L : List It} (h : SeAt w base q r p) (k : Kr q r w w') (hi : Its w first ds L) : Its w' first ds L :=
  hi.keep k.size (fun b cur fr hb => k.block b (lt_heap hb) (h.q_ne hb (by decide)) (h.row_ne hb (by decide)))
end
theorem pkt1_ok {l s a : Nat} {d : List Nat} (h2 : l ≤ 100000) (h3 : s ≤ 100000) (h4 : a ≤ 100000) (h5 : d.length ≤ 1048576) (h6 : s = 0 → d = []) : pright ⟨1, l, s, a, d⟩ = true := pkt_ok (by show 1 ≤ 100; omega) h2 h3 h4 h5 h6
theorem pkb_short {k : Pk} (h : k.d.length ≤ 1048576) : (pkb k).length ≤ 1099511627776 := by
  have := pkb_len k
  omega
theorem Bx.nil {w : World} {base : Nat} : Bx w base (.slice none 0 0) [] := ⟨⟨none, 0, rfl, by simp, fun h => absurd rfl h⟩, by simp⟩
/-- Bytes in blocks of bytes stay where another block is written. -/
theorem Bx.kp {w w' : World} {v : Value} {x : List Nat} {g : Nat} {c : Array Value} {T : TypeId} {fr : Nat × Nat} (h : Bx w 0 v x) (k : Kp g w w') (hg : w.heap[g]? = some (.cells c T fr)) (hT : T ≠ 5) : Bx w' 0 v x :=
  h.keep k.size (fun b hb _ => absurd hb (Nat.not_lt_zero _)) (fun b cur fr hb => k.block b (lt_heap hb) (fun e => by
    obtain rfl := Option.some.inj e
    rw [hg] at hb
    simp at hb
    exact hT hb.2.1))
/-- Unpack of a packet's bytes. -/
def UnpkP (k : Pk) (w : World) (e : Ending) (w' : World) : Prop := ∃ A c, e = .returned (.tuple #[.agg #[.int .i64 (k.f : Int), .int .i64 (k.l : Int), .int .i64 (k.s : Int), .int .i64 (k.a : Int), .slice A k.d.length c], .int .i64 0]) ∧ Bx w' 0 (.slice A k.d.length c) k.d ∧ Below w.heap.size w w'
theorem unpk_any (v : Value) (k : Pk) (w : World) (h : Bs w v (pkb k)) (hk : pright k = true) : Calls Try.prog 43 #[v] w fun e w' => UnpkP k w e w' := by
  refine (unpack_any v (pkb k) w h (pkb_short (pright_iff.1 hk).2.2.2.2.1)).mono ?_
  intro e w' hO
  rw [pget_pk hk] at hO
  obtain ⟨hb, A, c, h1, h2, h3⟩ := hO
  exact ⟨A, c, h1, Bx.of_own h2 h3.2, hb⟩
/-- The items of a session's packets. -/
def Se.items (p : Se) : List (Nat × List Nat) := if p.ds = [] then [(0, [])] else (p.ds.take 8).mapIdx fun i d => (p.first + 1 + i, d)
theorem Se.packets_items (p : Se) : p.packets = p.items.map fun x => pkb (p.pkt x.1 x.2) := by
  unfold Se.packets Se.items
  split
  · rfl
  · apply List.ext_getElem?
    intro i
    rw [List.getElem?_map, List.getElem?_mapIdx, List.getElem?_mapIdx, Option.map_map]
    rfl
theorem Se.items_len (p : Se) : p.items.length = max (min p.ds.length 8) 1 := by
  unfold Se.items
  split
  · rename_i h
    rw [h]
    rfl
  · rename_i h
    have := List.length_pos_iff.2 h
    rw [List.length_mapIdx, List.length_take]
    omega
theorem Se.items_at {p : Se} {i : Nat} {x : Nat × List Nat} (hx : p.items[i]? = some x) : (p.ds = [] ∧ i = 0 ∧ x = (0, [])) ∨ (i < 8 ∧ x.1 = p.first + 1 + i ∧ p.ds[i]? = some x.2) := by
  unfold Se.items at hx
  split at hx
  · rename_i h
    cases i with
    | zero =>
      simp at hx
      exact .inl ⟨h, rfl, hx.symm⟩
    | succ i => simp at hx
  · rename_i h
    rw [List.getElem?_mapIdx] at hx
    by_cases hi : i < 8
    · rw [List.getElem?_take_of_lt hi] at hx
      cases hd : p.ds[i]? with
      | none => rw [hd] at hx; simp at hx
      | some d =>
        rw [hd] at hx
        simp at hx
        subst hx
        exact .inr ⟨hi, rfl, rfl⟩
    · rw [List.getElem?_eq_none (by rw [List.length_take]; omega)] at hx
      simp at hx
set_option maxHeartbeats 800000 in
theorem packed_bad (life ack : Nat) (x z : Int) (hx : x = life) (hz : z = ack) (v : Value) (d : List Nat) (w : World) (hd : Bs w v d) (hl : life ≤ 100000) (ha : ack ≤ 100000) (h0 : d ≠ []) :
    Calls Try.prog 44 #[.int .i64 x, .int .i64 0, .int .i64 z, v] w fun e w' => e = .returned (.slice none 0 0) ∧ Below w.heap.size w w' := by
  subst hx hz
  obtain ⟨⟨A, c, rfl, hc, -⟩, -⟩ := id hd
  have HP := Lib.hid (pack_any (1 : Int) (life : Int) 0 (ack : Int) d A c w hd (by omega) (by omega) (by omega) (by omega))
  have hpi : pint (1 : Int) (life : Int) 0 (ack : Int) d = false := by
    unfold pint
    cases d with
    | nil => exact absurd rfl h0
    | cons y d => simp
  rw [hpi] at HP
  clear hd hpi h0
  go_enter Try.func44, Try.ntmps44
  go_wp2_with fail
  refine HP.out.mono ?_
  rintro e w2 ⟨hb2, hB, -⟩
  obtain rfl := hB rfl
  clear hB
  go_wp2_with fail
  go_ret
  exact ⟨rfl, hb2⟩
end Go.Proofs.Ytmkpaippkajhmaa
