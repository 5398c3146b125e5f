/- Texts So, Sp of this seat in one: see each part. -/
import Derived.Test.YtjhopajhcmkllaaSm
import Derived.Test.YtjhopajhcmkllaaBrw
namespace Go.Proofs.Ytjhopajhcmkllaa
open Go.RowKit
set_option linter.unusedVariables false

/-- What filled takes of the items: the first forty, of at most twenty bytes. -/
def flt (ll : List (List Nat)) : List (List Nat) := (ll.take 40).filter fun x => decide (x.length ≤ 20)
theorem flt_snoc (ll : List (List Nat)) (j : Nat) (hj : j < 40) (x : List Nat) (hx : ll[j]? = some x) : flt (ll.take (j + 1)) = if x.length ≤ 20 then flt (ll.take j) ++ [x] else flt (ll.take j) := by
  have h0 := List.getElem?_eq_some_iff.1 hx
  unfold flt
  rw [List.take_take, List.take_take, Nat.min_eq_right (by omega), Nat.min_eq_right (by omega), List.take_succ_eq_append_getElem h0.1, List.filter_append, h0.2]
  by_cases h : x.length ≤ 20 <;> simp [h]
theorem flt_len (ll : List (List Nat)) : (flt ll).length ≤ 40 := by
  unfold flt
  refine Nat.le_trans (List.length_filter_le _ _) ?_
  rw [List.length_take]
  omega
theorem flt_short (ll : List (List Nat)) : ∀ x ∈ flt ll, x.length ≤ 20 := by
  intro x hx
  unfold flt at hx
  simpa using (List.mem_filter.1 hx).2
/-- The session that filled makes. -/
def stF (life : Nat) (F : List (List Nat)) : Se := ⟨0, 1, life, F.length, 0, 0, 0, F⟩
theorem stF_send (life : Nat) (F : List (List Nat)) (x : List Nat) (hF : F.length ≤ 40) (hx : x.length ≤ 20) : (stF life F).sendE x = 0 ∧ (stF life F).send x = stF life (F ++ [x]) ∧ (stF life F).sendN x = F.length + 1 := by
  have h0 : (stF life F).sendE x = 0 := by
    unfold Se.sendE stF
    rw [if_neg (by omega), if_neg (by show ¬ 1024 ≤ F.length; omega)]
  refine ⟨h0, ?_, ?_⟩
  · unfold Se.send
    rw [if_pos h0]
    unfold stF
    simp
  · unfold Se.sendN
    rw [if_pos h0]
    rfl
def FilledP (life : Nat) (F : List (List Nat)) (w : World) (e : Ending) (w' : World) : Prop := ∃ q r A c, e = .returned (.tuple #[.pointer (some ⟨q, 0, none⟩), .slice A F.length c, .bool true]) ∧ SeAt w' w.heap.size q r (stF life F) ∧ RB w' w.heap.size (.slice A F.length c) F ∧ Below w.heap.size w w'
theorem SeAt.grownRB {w w' : World} {base base' q : Nat} {r : Option Nat} {p : Se} {u : Value} {ll : List (List Nat)} (h : SeAt w base q r p) (hu : RB w base' u ll) (hg : w.grownBy w' u.ownBlock) : SeAt w' base q r p := by
  obtain ⟨v, L, h0, -, ho, hh, -⟩ := id h
  refine h.keep hg.size (hg.block q h.lt (fun e => hu.ne hh (by decide) e.symm)) (fun g hg' => hg.block g (h.row_lt hg').2 (fun e => ?_)) (fun b cur fr hb => hg.block b (lt_heap hb) (fun e => hu.ne hb (by decide) e.symm))
  obtain ⟨_, cur, hc⟩ := irow_blk ho (h0.trans hg')
  exact hu.ne hc (by decide) e.symm
theorem BRows.bx {w : World} {a : Option Addr} {n c j : Nat} {ll : List (List Nat)} (h : BRows w a n c ll) (hj : j < n) : ∃ b o A k, a = some ⟨b, o, none⟩ ∧ b < w.heap.size ∧ w.cell? ⟨b, o + j, none⟩ = some (.slice A (ll.getD j []).length k) ∧ Bx w w.heap.size (.slice A (ll.getD j []).length k) (ll.getD j []) := by
  obtain ⟨b, o, h1, h2, h3⟩ := h.row (by omega)
  obtain ⟨A, k, h4, h5⟩ := h3 j hj
  exact ⟨b, o, A, k, h1, h2, h4, Bx.of_bs h5 (Nat.le_refl _)⟩
end Go.Proofs.Ytjhopajhcmkllaa
namespace Go.Proofs.Ytjhopajhcmkllaa
open Go.RowKit
set_option linter.unusedVariables false

section
variable {w w' : World} {base q : Nat} {r r' : Option Nat} {p p' : Se}
theorem recvn_any (h : SeAt w base q r p) (v : Value) (b : List Nat) (hv : Bs w v b) (hn : b.length ≤ 1099511627776) (hbase : base ≤ w.heap.size) {er : Nat} (hr : p.recv b = (p', none, er)) :
    Calls Try.prog 8 #[.pointer (some ⟨q, 0, none⟩), v] w fun e w' => e = .returned (.tuple #[.agg #[.int .i64 0, .slice none 0 0], .bool false, .int .i64 (er : Int)]) ∧ AfterS w base q r p' w' := by
  refine (receive_any h v b hv hn hbase).mono ?_
  intro e w1 hO
  unfold RecvP at hO
  rw [hr] at hO
  exact ⟨hO.2, hO.1⟩
def SomeP (s : Nat) (d : List Nat) (w : World) (e : Ending) (w' : World) : Prop := ∃ A c, e = .returned (.tuple #[.agg #[.int .i64 (s : Int), .slice A d.length c], .bool true, .int .i64 0]) ∧ Bx w' 0 (.slice A d.length c) d
theorem recvs_any (h : SeAt w base q r p) (v : Value) (b : List Nat) (hv : Bs w v b) (hn : b.length ≤ 1099511627776) (hbase : base ≤ w.heap.size) {s : Nat} {d : List Nat} {er : Nat} (hr : p.recv b = (p', some (s, d), er)) :
    Calls Try.prog 8 #[.pointer (some ⟨q, 0, none⟩), v] w fun e w' => SomeP s d w e w' ∧ AfterS w base q r p' w' := by
  refine (receive_any h v b hv hn hbase).mono ?_
  intro e w1 hO
  unfold RecvP at hO
  rw [hr] at hO
  obtain ⟨h1, A, c, h2, h3, h4⟩ := hO
  exact ⟨⟨A, c, h2, Bx.of_own h3 h4.2⟩, h1⟩
end
/-- Two lists of items that say the same. -/
theorem its_eq {w w' : World} {first : Nat} {ds : List (List Nat)} {L L' : List It} (h : Its w first ds L) (h' : Its w' first ds L') : L.map It.p = L'.map It.p := by
  apply List.ext_getElem?
  intro i
  have hd : L.map (·.d) = L'.map (·.d) := h.ds.trans h'.ds.symm
  have hi := congrArg (fun l => l[i]?) hd
  simp only [List.getElem?_map] at hi ⊢
  cases hx : L[i]? with
  | none =>
    rw [hx] at hi
    cases hy : L'[i]? with
    | none => rfl
    | some y => rw [hy] at hi; simp at hi
  | some x =>
    rw [hx] at hi
    cases hy : L'[i]? with
    | none => rw [hy] at hi; simp at hi
    | some y =>
      rw [hy] at hi
      simp at hi
      simp [It.p, hi, h.num i x hx, h'.num i y hy]
section
variable {w w' : World} {base q lo : Nat} {r : Option Nat} {p : Se}
/-- A row of items made later, and its items, stay beside a session's call. -/
theorem irow_other {v : Value} {L : List It} (h : SeAt w base q r p) (k : Kr q r w w') (ho : w.ownsRow lo 27 2 v L.length (iCs L)) (hq : q < lo) (hr : ∀ g, r = some g → g < lo) : w'.ownsRow lo 27 2 v L.length (iCs L) :=
  irow_kept ho (fun g hg => by
    obtain ⟨h1, _, h2⟩ := irow_blk ho hg
    exact k.block g (lt_heap h2) (by omega) (fun e => by have := hr g e; omega))
theorem its_other {first : Nat} {ds : List (List Nat)} {L : List It} (h : SeAt w base q r p) (k : Kr q r w w') (hi : Its w first ds L) : Its w' first ds L :=
  hi.keep k.size (fun b cur fr hb => k.block b (lt_heap hb) (h.q_ne hb (by decide)) (h.row_ne hb (by decide)))
end
theorem pkt1_ok {l s a : Nat} {d : List Nat} (h2 : l ≤ 100000) (h3 : s ≤ 100000) (h4 : a ≤ 100000) (h5 : d.length ≤ 1048576) (h6 : s = 0 → d = []) : pright ⟨1, l, s, a, d⟩ = true := pkt_ok (by show 1 ≤ 100; omega) h2 h3 h4 h5 h6
theorem pkb_short {k : Pk} (h : k.d.length ≤ 1048576) : (pkb k).length ≤ 1099511627776 := by
  have := pkb_len k
  omega
theorem Bx.nil {w : World} {base : Nat} : Bx w base (.slice none 0 0) [] := ⟨⟨none, 0, rfl, by simp, fun h => absurd rfl h⟩, by simp⟩
/-- Bytes in blocks of bytes stay where another block is written. -/
theorem Bx.kp {w w' : World} {v : Value} {x : List Nat} {g : Nat} {c : Array Value} {T : TypeId} {fr : Nat × Nat} (h : Bx w 0 v x) (k : Kp g w w') (hg : w.heap[g]? = some (.cells c T fr)) (hT : T ≠ 5) : Bx w' 0 v x :=
  h.keep k.size (fun b hb _ => absurd hb (Nat.not_lt_zero _)) (fun b cur fr hb => k.block b (lt_heap hb) (fun e => by
    obtain rfl := Option.some.inj e
    rw [hg] at hb
    simp at hb
    exact hT hb.2.1))
/-- Unpack of a packet's bytes. -/
def UnpkP (k : Pk) (w : World) (e : Ending) (w' : World) : Prop := ∃ A c, e = .returned (.tuple #[.agg #[.int .i64 (k.f : Int), .int .i64 (k.l : Int), .int .i64 (k.s : Int), .int .i64 (k.a : Int), .slice A k.d.length c], .int .i64 0]) ∧ Bx w' 0 (.slice A k.d.length c) k.d ∧ Below w.heap.size w w'
theorem unpk_any (v : Value) (k : Pk) (w : World) (h : Bs w v (pkb k)) (hk : pright k = true) : Calls Try.prog 44 #[v] w fun e w' => UnpkP k w e w' := by
  refine (unpack_any v (pkb k) w h (pkb_short (pright_iff.1 hk).2.2.2.2.1)).mono ?_
  intro e w' hO
  rw [pget_pk hk] at hO
  obtain ⟨hb, A, c, h1, h2, h3⟩ := hO
  exact ⟨A, c, h1, Bx.of_own h2 h3.2, hb⟩
/-- The items of a session's packets. -/
def Se.items (p : Se) : List (Nat × List Nat) := if p.ds = [] then [(0, [])] else (p.ds.take 8).mapIdx fun i d => (p.first + 1 + i, d)
theorem Se.packets_items (p : Se) : p.packets = p.items.map fun x => pkb (p.pkt x.1 x.2) := by
  unfold Se.packets Se.items
  split
  · rfl
  · apply List.ext_getElem?
    intro i
    rw [List.getElem?_map, List.getElem?_mapIdx, List.getElem?_mapIdx, Option.map_map]
    rfl
theorem Se.items_len (p : Se) : p.items.length = max (min p.ds.length 8) 1 := by
  unfold Se.items
  split
  · rename_i h
    rw [h]
    rfl
  · rename_i h
    have := List.length_pos_iff.2 h
    rw [List.length_mapIdx, List.length_take]
    omega
theorem Se.items_at {p : Se} {i : Nat} {x : Nat × List Nat} (hx : p.items[i]? = some x) : (p.ds = [] ∧ i = 0 ∧ x = (0, [])) ∨ (i < 8 ∧ x.1 = p.first + 1 + i ∧ p.ds[i]? = some x.2) := by
  unfold Se.items at hx
  split at hx
  · rename_i h
    cases i with
    | zero =>
      simp at hx
      exact .inl ⟨h, rfl, hx.symm⟩
    | succ i => simp at hx
  · rename_i h
    rw [List.getElem?_mapIdx] at hx
    by_cases hi : i < 8
    · rw [List.getElem?_take_of_lt hi] at hx
      cases hd : p.ds[i]? with
      | none => rw [hd] at hx; simp at hx
      | some d =>
        rw [hd] at hx
        simp at hx
        subst hx
        exact .inr ⟨hi, rfl, rfl⟩
    · rw [List.getElem?_eq_none (by rw [List.length_take]; omega)] at hx
      simp at hx
end Go.Proofs.Ytjhopajhcmkllaa
