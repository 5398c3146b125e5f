/- drover/session.packet, Packets: the walks. -/
import Derived.Test.YtjhopajhcmkllaaSf
import Derived.Test.YtjhopajhcmkllaaPack
import Derived.Lib.MinMax
namespace Go.Proofs.Ytjhopajhcmkllaa
open Go.RowKit
set_option linter.unusedVariables false

/-- A packet's bytes. -/
def Se.pk (p : Se) (s : Nat) (d : List Nat) : List Nat := penc ⟨p.node, p.life, s, p.done, d⟩ ++ be4 (crcN (penc ⟨p.node, p.life, s, p.done, d⟩))
def BlobP (l : List Nat) (w : World) (e : Ending) (w' : World) : Prop := ∃ A c, e = .returned (.slice A l.length c) ∧ Own w' w.heap.size (.slice A l.length c) l ∧ Bs w' (.slice A l.length c) l ∧ Below w.heap.size w w'
theorem bl_info : (Try.prog.info? 25).map (fun i => (i.zero, i.size, i.bytes)) = some (some (.slice none 0 0), 1, 24) := by kernel_rfl
/-- Cells of blobs. -/
def Bcs (w : World) (vs : List Value) (ll : List (List Nat)) : Prop := ∀ (i : Nat) (x : List Nat), ll[i]? = some x → ∃ A c, vs[i]? = some (.slice A x.length c) ∧ Bx w 0 (.slice A x.length c) x
/-- A row of blobs of the call's own, whose bytes lie in blocks of bytes. -/
def RB (w : World) (base : Nat) (v : Value) (ll : List (List Nat)) : Prop := ∃ vs, w.ownsRow base 25 1 v ll.length vs ∧ Bcs w vs ll ∧ ∀ u ∈ vs, u.oneCell' = true
section
variable {w w' : World} {base q : Nat} {r r' : Option Nat} {p : Se} {v : Value} {ll : List (List Nat)}
theorem RB.nil (w : World) (base : Nat) : RB w base (.slice none 0 0) [] := ⟨[], World.ownsRow_nil _ _ _ _, fun i x h => by simp at h, by simp⟩
theorem RB.slice (h : RB w base v ll) : ∃ A c, v = .slice A ll.length c ∧ ll.length ≤ c ∧ c ≤ maxLen := by
  obtain ⟨vs, ho, _⟩ := h
  rcases ho.2 with ⟨h1, h2⟩ | ⟨g, cap, cur, he, _, _, h3, h4, _⟩
  · exact ⟨none, 0, by rw [h1, h2], by omega, by unfold maxLen; omega⟩
  · exact ⟨_, cap, he, h3, h4⟩
theorem RB.blk (h : RB w base v ll) {g : Nat} (hg : v.ownBlock = some g) : base ≤ g ∧ ∃ cur, w.heap[g]? = some (.cells cur 25 (0, 0)) := by
  obtain ⟨vs, ho, _⟩ := h
  rcases ho.2 with ⟨rfl, _⟩ | ⟨k, cap, cur, rfl, h1, h2, _⟩
  · cases hg
  · obtain rfl := Option.some.inj (show some k = some g from hg)
    exact ⟨h1, cur, h2⟩
theorem RB.ne (h : RB w base v ll) {k : Nat} {c : Array Value} {T : TypeId} {fr : Nat × Nat} (hk : w.heap[k]? = some (.cells c T fr)) (hT : T ≠ 25) : v.ownBlock ≠ some k := by
  intro e
  obtain ⟨_, cur, hc⟩ := h.blk e
  rw [hk] at hc
  simp at hc
  exact hT hc.2.1
theorem RB.keep (h : RB w base v ll) (hs : w.heap.size ≤ w'.heap.size) (hr : ∀ g, v.ownBlock = some g → w'.heap[g]? = w.heap[g]?) (hu : ∀ (b : Nat) (cur : Array Value) (fr : Nat × Nat), w.heap[b]? = some (.cells cur 5 fr) → w'.heap[b]? = w.heap[b]?) : RB w' base v ll := by
  obtain ⟨vs, ho, hc, h1⟩ := h
  refine ⟨vs, ⟨ho.1, ?_⟩, fun i x hx => ?_, h1⟩
  · rcases ho.2 with h0 | ⟨g, cap, cur, rfl, k1, k2, k3⟩
    · exact .inl h0
    · exact .inr ⟨g, cap, cur, rfl, k1, (hr g rfl).trans k2, k3⟩
  · obtain ⟨A, c, k3, k4⟩ := hc i x hx
    exact ⟨A, c, k3, k4.keep hs (fun b hb _ => absurd hb (Nat.not_lt_zero _)) hu⟩
theorem RB.below (h : RB w base v ll) (hb : Below w.heap.size w w') : RB w' base v ll := h.keep hb.size (fun g hg => hb.block g (by obtain ⟨_, _, k⟩ := h.blk hg; exact lt_heap k)) (fun b _ _ h => hb.block b (lt_heap h))
theorem RB.mono (h : RB w base v ll) {base' : Nat} (hb : base' ≤ base) : RB w base' v ll := by
  obtain ⟨vs, ho, hc, h1⟩ := h
  refine ⟨vs, ⟨ho.1, ?_⟩, hc, h1⟩
  rcases ho.2 with k0 | ⟨g, cap, cur, k1, k2, k3⟩
  · exact .inl k0
  · exact .inr ⟨g, cap, cur, k1, by omega, k3⟩
/-- The cells of an element. -/
theorem RB.cell {A : Option Addr} {n c : Nat} (h : RB w base (.slice A n c) ll) {i : Nat} {x : List Nat} (hx : ll[i]? = some x) : ∃ g A' c', A = some ⟨g, 0, none⟩ ∧ g < w.heap.size ∧ w.cell? ⟨g, i, none⟩ = some (.slice A' x.length c') ∧ Bx w 0 (.slice A' x.length c') x := by
  obtain ⟨vs, ho, hc, -⟩ := h
  have hi := (List.getElem?_eq_some_iff.1 hx).1
  rcases id ho.2 with ⟨h1, h2⟩ | ⟨g, cap, cur, he, k1, k2, k3, k4, k5, k6⟩
  · omega
  · injection he with he _ _
    subst he
    obtain ⟨A', c', h3, h4⟩ := hc i x hx
    refine ⟨g, A', c', rfl, lt_heap k2, ?_, h4⟩
    rw [cell_block k2, ← h3, ← k6, List.getElem?_take_of_lt (by omega), Array.getElem?_toList]
/-- append of one blob onto a row of blobs. -/
theorem wpList_bapp {ops : Array Oper} {rest : List Oper} {o : Oper} {a : Act} {Q : Exit → Act → World → Prop} (hgd : o.guard = none) (s x : Operand)
    (ho : o.op = .call { callee := .builtin .append, args := #[s, x], argTypes := #[48, 48] })
    (hs : a.eval s = v) (hown : RB w base v ll) {B : Nat} {A A' : Option Addr} {c c' : Nat} {y : List Nat} (hx : a.eval x = .slice A 1 c)
    (hr : At w B A [.slice A' y.length c']) (hy : Bx w 0 (.slice A' y.length c') y) (hn : ll.length ≤ 100000) (hbase : base ≤ w.heap.size)
    (h : ∀ v' w', RB w' base v' (ll ++ [y]) → Below base w w' → w.grownBy w' v.ownBlock → (v'.ownBlock = v.ownBlock ∨ v'.ownBlock = some w.heap.size) → wpList Try.prog ops Q rest (a.put o.dst v') w') :
    wpList Try.prog ops Q (o :: rest) a w := by
  obtain ⟨i0, hi0, hz0, hz1, hz2⟩ := info_parts bl_info
  have hown' := hown
  obtain ⟨vs, hrow, hcs, h1⟩ := hown
  have hlv : vs.length = ll.length := by have := hrow.1; simpa using this
  refine wpList_append_at w hgd s x 48 ho base 25 i0 _ 1 24 Try.underlying48 hi0 hz0 hz1 hz2 rfl (by omega) v ll.length vs hs hrow B A 1 c [.slice A' y.length c'] hx hr
    rfl (by intro u hu; simp at hu; subst hu; rfl) (by unfold maxLen; omega) (by omega) hbase ?_
  intro v' w' k1 k2 k3
  refine h v' w' ⟨vs ++ [.slice A' y.length c'], by rw [List.length_append]; exact k1, fun i x hx => ?_, ?_⟩ ((Below.refl _ _).grown k2 hbase (fun k hk => (World.ownsRow.lt hrow k hk).1)) k2 k3
  · have hu : ∀ (b : Nat) (cur : Array Value) (fr : Nat × Nat), w.heap[b]? = some (.cells cur 5 fr) → w'.heap[b]? = w.heap[b]? := fun b cur fr hb => k2.block b (lt_heap hb) (fun e => hown'.ne hb (by decide) e.symm)
    by_cases hi : i < ll.length
    · rw [List.getElem?_append_left hi] at hx
      obtain ⟨A2, c2, e1, e2⟩ := hcs i x hx
      exact ⟨A2, c2, by rw [List.getElem?_append_left (by omega)]; exact e1, e2.keep k2.size (fun b hb _ => absurd hb (Nat.not_lt_zero _)) hu⟩
    · rw [List.getElem?_append_right (by omega)] at hx
      have h0 : i - ll.length = 0 := by
        have := (List.getElem?_eq_some_iff.1 hx).1
        simp at this
        omega
      rw [h0] at hx
      simp at hx
      subst hx
      exact ⟨A', c', by rw [List.getElem?_append_right (by omega), hlv, h0]; rfl, hy.keep k2.size (fun b hb _ => absurd hb (Nat.not_lt_zero _)) hu⟩
  · intro u hu
    rcases List.mem_append.1 hu with hu | hu
    · exact h1 u hu
    · simp at hu
      subst hu
      rfl
theorem pint_ok {f l s a : Nat} {d : List Nat} (h1 : f ≤ big) (h2 : l ≤ big) (h3 : s ≤ big) (h4 : a ≤ big) (h5 : d.length ≤ 1048576) (h6 : s ≠ 0 ∨ d = []) : pint (f : Int) (l : Int) (s : Int) (a : Int) d = true := by
  unfold pint
  simp only [Bool.and_eq_true, decide_eq_true_eq, Bool.or_eq_true, List.isEmpty_iff]
  exact ⟨⟨⟨⟨⟨by omega, by omega⟩, by omega⟩, by omega⟩, h5⟩, h6.imp (fun h => by omega) id⟩
set_option maxRecDepth 100000 in
set_option maxHeartbeats 1600000 in
theorem packet_any (h : SeAt w base q r p) (s : Nat) (d : List Nat) (A : Option Addr) (c : Nat) (hd : Bs w (.slice A d.length c) d) (hs : s ≤ 4611686018427387904) (hl : d.length ≤ 1048576) (h0 : s ≠ 0 ∨ d = []) :
    Calls Try.prog 50 #[.pointer (some ⟨q, 0, none⟩), .agg #[.int .i64 (s : Int), .slice A d.length c]] w fun e w' => BlobP (p.pk s d) w e w' := by
  have hW := (Below.refl w.heap.size w).alloc (Nat.le_refl _) (.cells #[.int .i64 (s : Int), .slice A d.length c] 27)
  have q0 := heap_new w (.cells #[.int .i64 (s : Int), .slice A d.length c] 27)
  obtain ⟨W, hWW⟩ : ∃ W, W = w.alloc (.cells #[.int .i64 (s : Int), .slice A d.length c] 27) := ⟨_, rfl⟩
  rw [← hWW] at hW q0
  have hok := h.ok
  obtain ⟨v, L, -, -, -, hh, -⟩ := h.below hW
  obtain ⟨c0, c1, c2, c3, c4, c5, c6, c7, c8⟩ := box9 hh
  have b0 := cell_block q0 0
  have b1 := cell_block q0 1
  have hsz := hW.size
  have h1 := hok.node
  have h2 := hok.life
  have h3 := hok.done
  have h4 := hok.acc
  have HP := Lib.hid (pack_any (p.node : Int) (p.life : Int) (s : Int) (p.done : Int) d A c W.drew (hd.below hW).drew (by omega) (by omega) (by omega) (by omega))
  have hpi : pint (p.node : Int) (p.life : Int) (s : Int) (p.done : Int) d = true := pint_ok (by unfold big; omega) (by unfold big; omega) hs (by unfold big; omega) hl h0
  rw [hpi] at HP
  have HW := Lib.hid hWW
  have HPK : Hid (penc ⟨(p.node : Int).toNat, (p.life : Int).toNat, (s : Int).toNat, (p.done : Int).toNat, d⟩ ++ be4 (crcN (penc ⟨(p.node : Int).toNat, (p.life : Int).toNat, (s : Int).toNat, (p.done : Int).toNat, d⟩)) = p.pk s d) := Lib.hid rfl
  have Q0 := Lib.hid q0
  have HH := Lib.hid hh
  clear hpi hok hWW h hd q0 hh c0 c2 c4 c5 c7 c8 h0
  go_enter Try.func50, Try.ntmps50
  go_wp2_with fail
  rw [← HW.out]
  go_region_held3 (fun w' => w'.cell? ⟨q, 1, none⟩ = some (.int .i64 (p.node : Int)) ∧ w'.cell? ⟨q, 3, none⟩ = some (.int .i64 (p.life : Int)) ∧ w'.cell? ⟨q, 6, none⟩ = some (.int .i64 (p.done : Int)) ∧ w'.cell? ⟨w.heap.size, 0, none⟩ = some (.int .i64 (s : Int)) ∧ w'.cell? ⟨w.heap.size, 1, none⟩ = some (.slice A d.length c)) (go_keep)
    (first
      | (go_at_call 71
         refine HP.out.mono ?_
         rintro e w2 ⟨hb2', -, hB⟩
         obtain ⟨u, rfl, ho2, hs2⟩ := hB rfl
         have hb2 := of_drew6' hb2'
         have hh2 := heap_below HH.out hb2
         have e1 := cell_block hh2 1
         have e3 := cell_block hh2 3
         have e6 := cell_block hh2 6
         have hq2 := heap_below Q0.out hb2
         have g0 := cell_block hq2 0
         have g1 := cell_block hq2 1
         have HO2 := Lib.hid ho2
         have HS2 := Lib.hid hs2
         clear hh2 hq2 ho2 hs2)
      | (fail))
  all_goals
    go_wp2_with fail
    rw [HPK.out] at HO2 HS2
    obtain ⟨A', c', rfl, -⟩ := HO2.out.form
    go_ret
    exact ⟨A', c', rfl, HO2.out.mono hsz, HS2.out, nxt hW hb2⟩
end
end Go.Proofs.Ytjhopajhcmkllaa
