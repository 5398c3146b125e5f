/- drover/droverlow.SameItem, SameLink; droverlaw07.nothing, got, packets: the walks. Sessions beside each other. -/
import Derived.Test.YtjhopajhcmkllaaSj
namespace Go.Proofs.Ytjhopajhcmkllaa
open Go.RowKit
set_option linter.unusedVariables false

/-- What Receive makes of a session, and tells, of a packet. -/
def Se.recvK (p : Se) (k : Pk) : Se × Option (Nat × List Nat) × Nat := if k.f ≠ p.peer then (p, none, 2) else if k.l < p.pl then (p, none, 0) else if p.last < k.a then (p, none, 16)
    else ({ p with pl := k.l, ds := p.ds.drop (k.a - p.first) }, if k.s = p.acc + 1 then some (k.s, k.d) else none, 0)
theorem Se.recv_pkb (p : Se) {k : Pk} (h : pright k = true) : p.recv (pkb k) = p.recvK k := by
  unfold Se.recv Se.recvK
  rw [pget_pk h]
/-- The packet that a session sends of an item. -/
def Se.pkt (p : Se) (s : Nat) (d : List Nat) : Pk := ⟨p.node, p.life, s, p.done, d⟩
theorem Se.pk_eq (p : Se) (s : Nat) (d : List Nat) : p.pk s d = pkb (p.pkt s d) := rfl
theorem Se.pkt_right {p : Se} (h : p.Ok) {s : Nat} {d : List Nat} (hs : s ≤ 4611686018427387904) (hd : d.length ≤ 1048576) (h0 : s = 0 → d = []) : pright (p.pkt s d) = true := by
  rw [pright_iff]
  have h1 := h.node
  have h2 := h.life
  have h3 := h.done
  have h4 := h.acc
  exact ⟨by show p.node ≤ big; unfold big; omega, by show p.life ≤ big; unfold big; omega, hs, by show p.done ≤ big; unfold big; omega, hd, h0⟩
section
variable {w w' : World} {base base' q q' : Nat} {r r' r1 : Option Nat} {p p' : Se}
/-- Two rows are apart. -/
def Apart (r r' : Option Nat) : Prop := ∀ g, r = some g → r' ≠ some g
theorem Apart.symm (h : Apart r r') : Apart r' r := fun g h1 h2 => h g h2 h1
theorem Apart.none : Apart none r := fun g h => by cases h
/-- Another session stays. -/
theorem SeAt.other (h' : SeAt w base' q' r' p') (h : SeAt w base q r p) (hq : q' ≠ q) (hr : Apart r r') (k : Kr q r w w') : SeAt w' base' q' r' p' := by
  obtain ⟨v', _, _, _, _, hh', _⟩ := id h'
  refine h'.keep k.size (k.block q' h'.lt hq (h.row_ne hh' (by decide))) (fun g hg => k.block g (h'.row_lt hg).2 (fun e => ?_) (fun e => hr g e hg)) (fun b cur fr hb => k.block b (lt_heap hb) (h.q_ne hb (by decide)) (h.row_ne hb (by decide)))
  obtain ⟨v, _, _, _, _, hh, _⟩ := id h
  exact h'.row_ne hh (by decide) (by rw [hg, e])
theorem Apart.after (h : Apart r r') (h' : SeAt w base' q' r' p') (k : Rw w r r1) : Apart r1 r' := by
  rcases k with rfl | ⟨g, rfl, hg⟩
  · exact h
  · intro j hj e
    have := (h'.row_lt e).2
    have := Option.some.inj hj
    omega
theorem RB.other {v : Value} {ll : List (List Nat)} (h' : RB w base' v ll) (h : SeAt w base q r p) (k : Kr q r w w') : RB w' base' v ll :=
  h'.keep k.size (fun g hg => by obtain ⟨_, cur, hc⟩ := h'.blk hg; exact k.block g (lt_heap hc) (h.q_ne hc (by decide)) (h.row_ne hc (by decide)))
    (fun b cur fr hb => k.block b (lt_heap hb) (h.q_ne hb (by decide)) (h.row_ne hb (by decide)))
theorem Bx.other {v : Value} {x : List Nat} (h' : Bx w base v x) (h : SeAt w base q r p) (k : Kr q r w w') : Bx w' base v x := by
  have h1 := h.low
  exact h'.keep k.size (fun b k1 k2 => k.block b k2 (by omega) (fun e => by have := (h.row_lt e).1; omega)) (fun b cur fr hb => k.block b (lt_heap hb) (h.q_ne hb (by decide)) (h.row_ne hb (by decide)))
theorem Bx.zero {v : Value} {x : List Nat} (h : Bx w 0 v x) : Bx w base v x := by
  obtain ⟨⟨A, c, h1, h2, h3⟩, h8⟩ := h
  refine ⟨⟨A, c, h1, h2, fun hn => ?_⟩, h8⟩
  obtain ⟨b, o, k1, k2, k3⟩ := h3 hn
  exact ⟨b, o, k1, k2.imp (fun h => absurd h.1 (Nat.not_lt_zero _)) id, k3⟩
theorem heap_other {k : Nat} {C : Array Value} {T : TypeId} {fr : Nat × Nat} (h : SeAt w base q r p) (kr : Kr q r w w') (hk : w.heap[k]? = some (.cells C T fr)) (h1 : T ≠ 77) (h2 : T ≠ 27) : w'.heap[k]? = some (.cells C T fr) :=
  kr.heap hk (h.q_ne hk h1) (h.row_ne hk h2)
end
set_option maxHeartbeats 800000 in
theorem sameitem_any (s s' : Int) (u u' : Value) (d d' : List Nat) (w : World) (hu : Bs w u d) (hu' : Bs w u' d') (b : Bool) (hb : decide (s = s' ∧ d = d') = b) : Calls Try.prog 48 #[.agg #[.int .i64 s, u], .agg #[.int .i64 s', u']] w fun e w' => e = .returned (.bool b) ∧ Below w.heap.size w w' := by
  have hW := two w (.cells #[.int .i64 s, u] 27) (.cells #[.int .i64 s', u'] 27)
  have q0 := heap_old (heap_new w (.cells #[.int .i64 s, u] 27)) (.cells #[.int .i64 s', u'] 27)
  have q1 := heap_new' (w.alloc (.cells #[.int .i64 s, u] 27)) (.cells #[.int .i64 s', u'] 27) (w.heap.size + 1) (by simp)
  have c0 := cell_block q0 0
  have c1 := cell_block q0 1
  have d0 := cell_block q1 0
  have d1 := cell_block q1 1
  have v1 := hu.below hW
  have v2 := hu'.below hW
  clear hu hu' q0 q1
  by_cases h1 : s = s'
  · subst h1
    obtain ⟨b2, hb2⟩ : ∃ b2, decide (d = d') = b2 := ⟨_, rfl⟩
    have HS := Lib.hid (same_bs u u' d d' b2 _ v1 v2 hb2)
    have hbb : Hid (b2 = b) := Lib.hid (by rw [← hb, ← hb2]; simp)
    clear hb hb2 v1 v2
    go_enter Try.func48, Try.ntmps48
    go_wp2_with fail
    refine HS.out.mono ?_
    rintro e w3 ⟨rfl, rfl⟩
    go_wp2_with fail
    go_ret
    exact ⟨by rw [hbb.out]; rfl, hW⟩
  · have g : (s == s') = false := beq_eq_false_iff_ne.2 h1
    have hbb : Hid (false = b) := Lib.hid (by rw [← hb]; exact (decide_eq_false (fun h => h1 h.1)).symm)
    clear hb h1 v1 v2
    go_enter Try.func48, Try.ntmps48
    go_wp2_with fail
    go_ret
    exact ⟨by rw [← hbb.out]; rfl, hW⟩
theorem it_p {L L' : List It} (h : L.map It.p = L'.map It.p) {j : Nat} {x y : It} (hx : L[j]? = some x) (hy : L'[j]? = some y) : x.s = y.s ∧ x.d = y.d := by
  have := congrArg (fun l => l[j]?) h
  simp only [List.getElem?_map, hx, hy, Option.map_some, Option.some.injEq, It.p, Prod.mk.injEq] at this
  exact this
set_option maxRecDepth 100000 in
set_option maxHeartbeats 1600000 in
/-- Two links that say the same. -/
theorem samelink_any (last done : Int) (A A' : Option Addr) (n c c' : Nat) (L L' : List It) (w : World) (hl : L.length = n) (hn : n ≤ 100000) (hp : L.map It.p = L'.map It.p) (ha : LAt w A L) (ha' : LAt w A' L') (hb : ∀ x ∈ L, Bs w (.slice x.A x.d.length x.c) x.d) (hb' : ∀ x ∈ L', Bs w (.slice x.A x.d.length x.c) x.d) :
    Calls Try.prog 15 #[.agg #[.int .i64 last, .slice A n c, .int .i64 done], .agg #[.int .i64 last, .slice A' n c', .int .i64 done]] w fun e w' => e = .returned (.bool true) ∧ Below w.heap.size w w' := by
  have hW := two w (.cells #[.int .i64 last, .slice A n c, .int .i64 done] 24) (.cells #[.int .i64 last, .slice A' n c', .int .i64 done] 24)
  have q0 := heap_old (heap_new w (.cells #[.int .i64 last, .slice A n c, .int .i64 done] 24)) (.cells #[.int .i64 last, .slice A' n c', .int .i64 done] 24)
  have q1 := heap_new' (w.alloc (.cells #[.int .i64 last, .slice A n c, .int .i64 done] 24)) (.cells #[.int .i64 last, .slice A' n c', .int .i64 done] 24) (w.heap.size + 1) (by simp)
  obtain ⟨W, hWW⟩ : ∃ W, W = (w.alloc (.cells #[.int .i64 last, .slice A n c, .int .i64 done] 24)).alloc (.cells #[.int .i64 last, .slice A' n c', .int .i64 done] 24) := ⟨_, rfl⟩
  rw [← hWW] at hW q0 q1
  have hl' : L'.length = n := by have := congrArg List.length hp; simp at this; omega
  have HL := Lib.hid hl
  have HL' := Lib.hid hl'
  have HP := Lib.hid hp
  have HA := Lib.hid (ha.below hW)
  have HA' := Lib.hid (ha'.below hW)
  have HB : Hid (∀ x ∈ L, Bs W (.slice x.A x.d.length x.c) x.d) := Lib.hid fun x hx => (hb x hx).below hW
  have HB' : Hid (∀ x ∈ L', Bs W (.slice x.A x.d.length x.c) x.d) := Lib.hid fun x hx => (hb' x hx).below hW
  have Q0 := Lib.hid q0
  have Q1 := Lib.hid q1
  have HW := Lib.hid hWW
  have HWb := Lib.hid hW
  have hs0 := lt_heap q0
  have hs1 := lt_heap q1
  obtain ⟨⟨c0, c1, c2⟩, -⟩ := box3 q0
  obtain ⟨⟨d0, d1, d2⟩, -⟩ := box3 q1
  have k1 : (last != last) = false := by simp
  have k2 : (done != done) = false := by simp
  have k3 : ((n : Int) != (n : Int)) = false := by simp
  clear hl hl' hp ha ha' hb hb' q0 q1 hWW hW
  go_enter Try.func15, Try.ntmps15
  go_wp2_with fail
  rw [← HW.out]
  clear c0 c1 c2 d0 d1 d2 k1 k2 k3
  go_loopw [5] (fun i wr => ∃ j : Nat, j ≤ n ∧ i = .int .i64 (j : Int) ∧ Below W.heap.size W wr) (fun i _ => n - (intOf i).toNat)
  case atStart => exact ⟨0, by omega, rfl, Below.refl _ _⟩
  case round =>
    obtain ⟨j, hj, rfl, hbr⟩ := hrel
    have q2 := heap_below Q0.out hbr
    have q3 := heap_below Q1.out hbr
    obtain ⟨⟨c0, c1, c2⟩, -⟩ := box3 q2
    obtain ⟨⟨d0, d1, d2⟩, -⟩ := box3 q3
    clear c0 c2 d0 d2
    by_cases hlt : j < n
    · have hjl : j < L.length := by have := HL.out; omega
      have hjl' : j < L'.length := by have := HL'.out; omega
      obtain ⟨x, hx⟩ : ∃ x, Hid (L[j]? = some x) := ⟨L[j], Lib.hid (List.getElem?_eq_getElem hjl)⟩
      obtain ⟨y, hy⟩ : ∃ y, Hid (L'[j]? = some y) := ⟨L'[j], Lib.hid (List.getElem?_eq_getElem hjl')⟩
      have hxm : x ∈ L := List.mem_of_getElem? hx.out
      have hym : y ∈ L' := List.mem_of_getElem? hy.out
      have hxb := (HB.out x hxm).below hbr
      have hyb := (HB'.out y hym).below hbr
      obtain ⟨g, hAg, hgl, hcell⟩ := (HA.out.below hbr) (fun h => by rw [h] at hxm; simp at hxm)
      obtain ⟨g', hAg', hgl', hcell'⟩ := (HA'.out.below hbr) (fun h => by rw [h] at hym; simp at hym)
      obtain ⟨x0, x1⟩ := hcell j x hx.out
      obtain ⟨y0, y1⟩ := hcell' j y hy.out
      have hpp := it_p HP.out hx.out hy.out
      have hdd : decide (x.s = y.s ∧ x.d = y.d) = true := decide_eq_true hpp
      have HC := Lib.hid (fun (w : World) hu hu' => sameitem_any x.s y.s (.slice x.A x.d.length x.c) (.slice y.A y.d.length y.c) x.d y.d w hu hu' true hdd)
      clear hdd hpp hcell hcell' hxm hym hjl hjl'
      rw [hAg] at c1
      rw [hAg'] at d1
      have HG := Lib.hid hAg
      have HG' := Lib.hid hAg'
      clear hAg hAg'
      go_wp2_with fail
      have hsz1 := hbr.size
      go_region_held3 (fun w' => w'.cell? ⟨w.heap.size, 1, none⟩ = some (.slice (some ⟨g, 0, none⟩) n c) ∧ w'.cell? ⟨w.heap.size + 1, 1, none⟩ = some (.slice (some ⟨g', 0, none⟩) n c') ∧ w'.cell? ⟨g, j * 2, none⟩ = some (.int .i64 x.s) ∧ w'.cell? ⟨g, j * 2 + 1, none⟩ = some (.slice x.A x.d.length x.c) ∧ w'.cell? ⟨g', j * 2, none⟩ = some (.int .i64 y.s) ∧ w'.cell? ⟨g', j * 2 + 1, none⟩ = some (.slice y.A y.d.length y.c)) (go_keep)
        (first
          | (go_at_call 48
             refine (HC.out _ hxb.drew hyb.drew).mono ?_
             rintro e w2 ⟨rfl, hb2'⟩
             have hb2 := of_drew6' hb2'
             have e1 := (hb2.cell (p := ⟨w.heap.size, 1, none⟩) (by show w.heap.size < _; omega)).trans c1
             have e2 := (hb2.cell (p := ⟨w.heap.size + 1, 1, none⟩) (by show w.heap.size + 1 < _; omega)).trans d1
             have e3 := (hb2.cell (p := ⟨g, j * 2, none⟩) hgl).trans x0
             have e4 := (hb2.cell (p := ⟨g, j * 2 + 1, none⟩) hgl).trans x1
             have e5 := (hb2.cell (p := ⟨g', j * 2, none⟩) hgl').trans y0
             have e6 := (hb2.cell (p := ⟨g', j * 2 + 1, none⟩) hgl').trans y1)
          | (fail))
      all_goals
        clear c1 d1 x0 x1 y0 y1 e1 e2 e3 e4 e5 e6
        go_wp2_with fail
        go_roundw
        case rel => exact ⟨j + 1, by omega, by go_num, nxt hbr hb2⟩
        case measure => simp [intOf]; omega
    · obtain rfl : j = n := by omega
      go_wp2_with fail
      go_ret
      exact ⟨rfl, nxt HWb.out hbr⟩
end Go.Proofs.Ytjhopajhcmkllaa
