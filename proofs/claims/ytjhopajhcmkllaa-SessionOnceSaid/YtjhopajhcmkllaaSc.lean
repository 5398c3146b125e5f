/- drover/session.own, right: the walks; append of an item; Done. -/
import Derived.Test.YtjhopajhcmkllaaSb
import Derived.Deep.CutBlock
import Derived.Deep.LoopGhost
import Derived.Deep.DeepCutAuto
namespace Go.Proofs.Ytjhopajhcmkllaa
open Go.RowKit
set_option linter.unusedVariables false

/-- append of one item onto a row of items. -/
theorem wpList_iapp {w : World} {ops : Array Oper} {rest : List Oper} {o : Oper} {a : Act} {Q : Exit → Act → World → Prop} (hgd : o.guard = none) (s x : Operand)
    (ho : o.op = .call { callee := .builtin .append, args := #[s, x], argTypes := #[22, 22] })
    {base : Nat} {v : Value} {L : List It} (hs : a.eval s = v) (hown : w.ownsRow base 27 2 v L.length (iCs L)) {B : Nat} {A : Option Addr} {c : Nat} {y : It} (hx : a.eval x = .slice A 1 c)
    (hr : At w B A (iC y)) (hn : L.length ≤ 100000) (hbase : base ≤ w.heap.size)
    (h : ∀ v' w', w'.ownsRow base 27 2 v' (L ++ [y]).length (iCs (L ++ [y])) → Below base w w' → w.grownBy w' v.ownBlock → (v'.ownBlock = v.ownBlock ∨ v'.ownBlock = some w.heap.size) → wpList Try.prog ops Q rest (a.put o.dst v') w') :
    wpList Try.prog ops Q (o :: rest) a w := by
  obtain ⟨i0, hi0, hz0, hz1, hz2⟩ := info_parts it_info
  refine wpList_append_at w hgd s x 22 ho base 27 i0 _ 2 32 Try.underlying22 hi0 hz0 hz1 hz2 rfl (by omega) v L.length (iCs L) hs hown B A 1 c (iC y) hx hr
    (by simp [iC]) (iC_one y) (by unfold maxLen; omega) (by omega) hbase ?_
  intro v' w' h1 h2 h3
  refine h v' w' ?_ ((Below.refl _ _).grown h2 hbase (fun k hk => (World.ownsRow.lt hown k hk).1)) h2 h3
  rw [List.length_append, iCs_append, iCs_one]
  exact h1
theorem sset3 {w : World} {g : Nat} {y0 y1 y2 : Value} {T : TypeId} {fr : Nat × Nat} (h : w.heap[g]? = some (.cells #[y0, y1, y2] T fr)) (z0 z1 z2 : Value) :
    (((w.setCell ⟨g, 0, none⟩ z0).setCell ⟨g, 1, none⟩ z1).setCell ⟨g, 2, none⟩ z2).heap[g]? = some (.cells #[z0, z1, z2] T fr) :=
  heap_set (heap_set (heap_set h 0 z0) 1 z1) 2 z2
/-- A row of items that is read. -/
def LAt (w : World) (A : Option Addr) (L : List It) : Prop := L ≠ [] → ∃ g, A = some ⟨g, 0, none⟩ ∧ g < w.heap.size ∧ ∀ (i : Nat) (x : It), L[i]? = some x → w.cell? ⟨g, i * 2, none⟩ = some (.int .i64 x.s) ∧ w.cell? ⟨g, i * 2 + 1, none⟩ = some (.slice x.A x.d.length x.c)
/-- Items whose bytes lie in memory of their own, from block B on. -/
def Fresh (w : World) (B : Nat) (L : List It) : Prop := ∀ x ∈ L, Own w B (.slice x.A x.d.length x.c) x.d ∧ ∀ y ∈ x.d, y < 256
def It.p (x : It) : Int × List Nat := (x.s, x.d)
section
variable {w w' : World} {A : Option Addr} {L : List It} {B base : Nat}
theorem LAt.below (h : LAt w A L) (hb : Below w.heap.size w w') : LAt w' A L := fun hn => by
  obtain ⟨g, h1, h2, h3⟩ := h hn
  have hs := hb.size
  exact ⟨g, h1, by omega, fun i x hx => ⟨(hb.cell (p := ⟨g, i * 2, none⟩) h2).trans (h3 i x hx).1, (hb.cell (p := ⟨g, i * 2 + 1, none⟩) h2).trans (h3 i x hx).2⟩⟩
theorem LAt.of_row {v : Value} {A : Option Addr} {n c : Nat} (hv : v = .slice A n c) (h : w.ownsRow base 27 2 v L.length (iCs L)) : LAt w A L := fun hn => by
  rcases irow_form h with ⟨_, rfl⟩ | ⟨g, c', he, hg⟩
  · exact absurd rfl hn
  · rw [he] at hv
    injection hv with hv _ _
    refine ⟨g, hv.symm, hg.lt, fun i x hx => ⟨?_, ?_⟩⟩
    · have := hg.cell hx (j := 0) (by omega)
      simpa [iC] using this
    · have := hg.cell hx (j := 1) (by omega)
      simpa [iC] using this
theorem Fresh.below (h : Fresh w B L) (hb : Below w.heap.size w w') : Fresh w' B L := fun x hx => ⟨(h x hx).1.below hb (Nat.le_refl _), (h x hx).2⟩
theorem Own.blk {v : Value} {d : List Nat} (h : Own w B v d) {g : Nat} (hg : v.ownBlock = some g) : B ≤ g ∧ ∃ cur fr, w.heap[g]? = some (.cells cur 5 fr) := by
  rcases h.2 with ⟨rfl, _⟩ | ⟨k, cap, cur, rfl, h1, h2, _⟩
  · cases hg
  · obtain rfl := Option.some.inj (show some k = some g from hg)
    exact ⟨h1, cur, _, h2⟩
/-- Bytes of one's own stay where a row of items grows. -/
theorem Own.beside {v u : Value} {d : List Nat} (h : Own w B v d) (hu : w.ownsRow base 27 2 u L.length (iCs L)) (hg : w.grownBy w' u.ownBlock) : Own w' B v d := by
  refine h.kept hg ?_
  cases hv : v.ownBlock with
  | none => exact .inl rfl
  | some g =>
    refine .inr (fun e => ?_)
    obtain ⟨_, cur, fr, hh⟩ := h.blk hv
    exact irow_ne hu hh (by decide) e.symm
theorem Fresh.beside {u : Value} {L' : List It} (h : Fresh w B L') (hu : w.ownsRow base 27 2 u L.length (iCs L)) (hg : w.grownBy w' u.ownBlock) : Fresh w' B L' := fun x hx => ⟨(h x hx).1.beside hu hg, (h x hx).2⟩
theorem Fresh.snoc {x : It} (h : Fresh w B L) (hx : Own w B (.slice x.A x.d.length x.c) x.d) (h8 : ∀ y ∈ x.d, y < 256) : Fresh w B (L ++ [x]) := fun y hy => by
  rcases List.mem_append.1 hy with hy | hy
  · exact h y hy
  · obtain rfl : y = x := by simpa using hy
    exact ⟨hx, h8⟩
theorem Fresh.bx (h : Fresh w B L) : ∀ x ∈ L, Bx w base (.slice x.A x.d.length x.c) x.d := fun x hx => Bx.of_own (h x hx).1 (h x hx).2
end
theorem irow_mono {w : World} {base base' : Nat} {v : Value} {L : List It} (h : w.ownsRow base 27 2 v L.length (iCs L)) (hb : base' ≤ base) : w.ownsRow base' 27 2 v L.length (iCs L) := by
  refine ⟨h.1, ?_⟩
  rcases h.2 with k0 | ⟨g, cap, cur, k1, k2, k3⟩
  · exact .inl k0
  · exact .inr ⟨g, cap, cur, k1, by omega, k3⟩
theorem At.item (w : World) (s : Int) (A : Option Addr) (n c : Nat) (t : TypeId) (y : It) (h1 : y.s = s) (h2 : y.A = A) (h3 : y.d.length = n) (h4 : y.c = c) : At (w.alloc (.cells #[.int .i64 s, .slice A n c] t)) (w.heap.size + 1) (some ⟨w.heap.size, 0, none⟩) (iC y) := by
  subst h1 h2 h3 h4
  exact At.made w #[.int .i64 y.s, .slice y.A y.d.length y.c] t
def OwnLP (last done : Int) (L : List It) (w : World) (e : Ending) (w' : World) : Prop := ∃ (A : Option Addr) (c : Nat) (L' : List It), e = .returned (.agg #[.int .i64 last, .slice A L.length c, .int .i64 done]) ∧ w'.ownsRow w.heap.size 27 2 (.slice A L.length c) L'.length (iCs L') ∧ L'.map It.p = L.map It.p ∧ Fresh w' w.heap.size L' ∧ Below w.heap.size w w'
set_option maxRecDepth 100000 in
set_option maxHeartbeats 1600000 in
theorem own7_any (last done : Int) (A : Option Addr) (n c : Nat) (L : List It) (w : World) (hl : L.length = n) (hc : n ≤ c) (hn : n ≤ 100000) (hd : ∀ x ∈ L, x.d.length ≤ 1099511627776) (ha : LAt w A L) (hbs : ∀ x ∈ L, Bs w (.slice x.A x.d.length x.c) x.d) :
    Calls Try.prog 38 #[.agg #[.int .i64 last, .slice A n c, .int .i64 done]] w fun e w' => OwnLP last done L w e w' := by
  have hW0 := two w (.cells #[.int .i64 last, .slice A n c, .int .i64 done] 24) (.cells #[.int .i64 0, .slice none 0 0, .int .i64 0] 24)
  have q0 := heap_old (heap_new w (.cells #[.int .i64 last, .slice A n c, .int .i64 done] 24)) (.cells #[.int .i64 0, .slice none 0 0, .int .i64 0] 24)
  have q1 := heap_new' (w.alloc (.cells #[.int .i64 last, .slice A n c, .int .i64 done] 24)) (.cells #[.int .i64 0, .slice none 0 0, .int .i64 0] 24) (w.heap.size + 1) (by simp)
  obtain ⟨W, hW⟩ : ∃ W, W = (w.alloc (.cells #[.int .i64 last, .slice A n c, .int .i64 done] 24)).alloc (.cells #[.int .i64 0, .slice none 0 0, .int .i64 0] 24) := ⟨_, rfl⟩
  rw [← hW] at hW0 q0 q1
  have hsz : w.heap.size ≤ W.heap.size := hW0.size
  have HL := Lib.hid hl
  have HD := Lib.hid hd
  have HA := Lib.hid (ha.below hW0)
  have HB : Hid (∀ x ∈ L, Bs W (.slice x.A x.d.length x.c) x.d) := Lib.hid fun x hx => (hbs x hx).below hW0
  have HW := Lib.hid hW
  have HW0 := Lib.hid hW0
  clear hl hd ha hbs hW hW0
  have Q0 := Lib.hid q0
  have Q1 := Lib.hid q1
  obtain ⟨⟨c0, c1, c2⟩, -⟩ := box3 q0
  clear q0 q1
  go_enter Try.func38, Try.ntmps38
  go_wp2_with fail
  rw [← HW.out]
  clear c0 c1 c2
  go_loopw [3, 9] (fun u i wr => ∃ (j : Nat) (L' : List It), j ≤ n ∧ i = .int .i64 (j : Int) ∧ Hid (wr.ownsRow W.heap.size 27 2 u L'.length (iCs L')) ∧ Hid (L'.map It.p = (L.take j).map It.p) ∧ Hid (Fresh wr W.heap.size L') ∧ Below W.heap.size W wr) (fun _ i _ => n - (intOf i).toNat)
  case atStart => exact ⟨0, [], by omega, rfl, Lib.hid (World.ownsRow_nil _ _ _ _), Lib.hid rfl, Lib.hid (fun x hx => by simp at hx), Below.refl _ _⟩
  case round =>
    obtain ⟨j, L', hj, rfl, HO, HM, HF, hbr⟩ := hrel
    by_cases hlt : j < n
    · have hjl : j < L.length := by have := HL.out; omega
      obtain ⟨x, hx⟩ : ∃ x, Hid (L[j]? = some x) := ⟨L[j], Lib.hid (List.getElem?_eq_getElem hjl)⟩
      have hxm : x ∈ L := List.mem_of_getElem? hx.out
      have hxd := HD.out x hxm
      have hxb := (HB.out x hxm).below hbr
      obtain ⟨g, rfl, hgl, hcell⟩ := (HA.out.below hbr) (fun h => by rw [h] at hxm; simp at hxm)
      obtain ⟨x0, x1⟩ := hcell j x hx.out
      clear hcell hxm hjl
      have q2 := heap_new wr (.cells #[.int .i64 x.s, .slice x.A x.d.length x.c] 27)
      have hb2 := (Below.refl wr.heap.size wr).alloc (Nat.le_refl _) (.cells #[.int .i64 x.s, .slice x.A x.d.length x.c] 27)
      go_wp2_with fail
      refine (item_any x.s _ x.d _ (hxb.below hb2) hxd).mono ?_
      rintro e w1 ⟨A1, c1, rfl, ho1, hs1, hx1, hb1⟩
      have hbx := nxt hb2 hb1
      have hl1 : L'.length ≤ n := by
        have := congrArg List.length HM.out
        simp at this
        omega
      clear hs1 hx1 x0 x1 q2
      have HO1 := Lib.hid ho1
      clear ho1
      go_wp2_with (first
        | (at_builtin
           refine wpList_iapp rfl (.tmp 13) (.tmp 19) rfl (L := L') (y := ⟨x.s, A1, c1, x.d⟩) rfl (World.ownsRow.alloc (irow_kept HO.out (fun g hg => hbx.block g (by obtain ⟨_, _, h⟩ := irow_blk HO.out hg; exact lt_heap h))) _) rfl (At.item _ _ _ _ _ _ _ rfl rfl rfl rfl) (by omega) (by have := hbr.size; have := hbx.size; simp; omega) ?_
           intro v' w2 HO2 hb3 hg hv)
        | (fail))
      have hk1 : Below wr.heap.size wr (w1.alloc (.cells #[.int .i64 x.s, .slice A1 x.d.length c1] 27)) := hbx.alloc hbx.size _
      have hO1 := World.ownsRow.alloc (irow_kept HO.out (fun g hg => hbx.block g (by obtain ⟨_, _, h⟩ := irow_blk HO.out hg; exact lt_heap h))) (.cells #[.int .i64 x.s, .slice A1 x.d.length c1] 27)
      go_roundw
      case rel =>
        refine ⟨j + 1, L' ++ [⟨x.s, A1, c1, x.d⟩], by omega, by go_num, Lib.hid HO2, Lib.hid ?_, Lib.hid ?_, ?_⟩
        · have hjl : j < L.length := by have := HL.out; omega
          rw [List.map_append, HM.out, List.take_succ_eq_append_getElem hjl, List.map_append]
          have := List.getElem?_eq_some_iff.1 hx.out
          rw [this.2]
          rfl
        · have hh := (HF.out.below hk1).beside hO1 hg
          have h1 := ((HO1.out.alloc (.cells #[.int .i64 x.s, .slice A1 x.d.length c1] 27)).mono (by have := hbr.size; have := hb2.size; omega : W.heap.size ≤ _)).beside hO1 hg
          exact hh.snoc (x := ⟨x.s, A1, c1, x.d⟩) h1 hxb.2
        · exact (hbr.trans (hk1.mono hbr.size)).trans hb3
      case measure => simp [intOf]; omega
    · obtain rfl : j = n := by omega
      have hMM : L'.map It.p = L.map It.p := by rw [HM.out, List.take_of_length_le (by have := HL.out; omega)]
      have hlen : L'.length = L.length := by simpa using congrArg List.length hMM
      obtain ⟨Au, cu, rfl, hcu⟩ := irow_slice HO.out
      have q2 := heap_below Q0.out hbr
      have q3 := heap_below Q1.out hbr
      obtain ⟨⟨c0, c1, c2⟩, -⟩ := box3 q2
      obtain ⟨⟨d0, d1, d2⟩, ⟨f0, f1, f2⟩⟩ := box3 q3
      have p3 := sset3 q3 (.int .i64 last) (.slice Au L'.length cu) (.int .i64 done)
      obtain ⟨⟨e0, e1, e2⟩, -⟩ := box3 p3
      have HMM := Lib.hid hMM
      have HLEN := Lib.hid hlen
      have P3 := Lib.hid p3
      clear hMM hlen q2 q3 p3
      go_wp2_with fail
      refine bodyPost_ret (v := .agg #[.int .i64 last, .slice Au L'.length cu, .int .i64 done]) (by simp [results, Try.results38, go_sem, e0, e1, e2]) rfl ?_
      have hb4 : Below w.heap.size w (((wr.setCell ⟨w.heap.size + 1, 0, none⟩ (.int .i64 last)).setCell ⟨w.heap.size + 1, 1, none⟩ (.slice Au L'.length cu)).setCell ⟨w.heap.size + 1, 2, none⟩ (.int .i64 done)) :=
        (((nxt HW0.out hbr).setCell (Nat.le_succ _) _).setCell (Nat.le_succ _) _).setCell (Nat.le_succ _) _
      have hg4 : wr.grownBy (((wr.setCell ⟨w.heap.size + 1, 0, none⟩ (.int .i64 last)).setCell ⟨w.heap.size + 1, 1, none⟩ (.slice Au L'.length cu)).setCell ⟨w.heap.size + 1, 2, none⟩ (.int .i64 done)) (some (w.heap.size + 1)) :=
        ((((Kp.refl (w.heap.size + 1) wr).set rfl _).set rfl _).set rfl _)
      have hlow : w.heap.size + 1 < W.heap.size := lt_heap Q1.out
      refine ⟨Au, cu, L', by rw [HLEN.out], ?_, HMM.out, fun x hx => ⟨?_, (HF.out x hx).2⟩, hb4⟩
      · rw [← HLEN.out]
        refine irow_mono (irow_kept HO.out (fun g hg => hg4.block g ?_ ?_)) hsz
        · obtain ⟨_, _, h⟩ := irow_blk HO.out hg
          exact lt_heap h
        · intro e
          have := (irow_blk HO.out hg).1
          have := Option.some.inj e
          omega
      · refine ((HF.out x hx).1.kept hg4 ?_).mono hsz
        cases hv : Value.ownBlock (.slice x.A x.d.length x.c) with
        | none => exact .inl rfl
        | some g =>
          refine .inr (fun e => ?_)
          have := ((HF.out x hx).1.blk hv).1
          have := Option.some.inj e
          omega
section
variable {w w' : World} {base q : Nat} {r r' : Option Nat} {p : Se}
/-- A field of a session's is stored. -/
theorem SeAt.set (h : SeAt w base q r p) (i : Nat) (x : Value) (p' : Se) (hd : p'.ds = p.ds) (hl : p'.last = p.last) (hok : p'.Ok)
    (hx : ∀ v, (#[.pointer (some ⟨q, 0, none⟩), .int .i64 (p.node : Int), .int .i64 (p.peer : Int), .int .i64 (p.life : Int), .int .i64 (p.last : Int), v, .int .i64 (p.done : Int), .int .i64 (p.acc : Int), .int .i64 (p.pl : Int)] : Array Value).setIfInBounds i x =
      #[.pointer (some ⟨q, 0, none⟩), .int .i64 (p'.node : Int), .int .i64 (p'.peer : Int), .int .i64 (p'.life : Int), .int .i64 (p'.last : Int), v, .int .i64 (p'.done : Int), .int .i64 (p'.acc : Int), .int .i64 (p'.pl : Int)]) : SeAt (w.setCell ⟨q, i, none⟩ x) base q r p' := by
  obtain ⟨v, L, h0, h1, ho, hh, hi, _⟩ := h
  refine ⟨v, L, h0, h1, irow_kept ho (fun g hg => ?_), ?_, ?_, hok⟩
  · exact Below.heap_setCell _ _ _ _ (fun e => irow_ne ho hh (by decide) (by rw [hg, e]))
  · have := heap_set hh i x
    rw [hx v] at this
    exact this
  · have e1 : p'.first = p.first := by unfold Se.first; rw [hd, hl]
    rw [e1, hd]
    refine hi.keep (by simp [World.setCell]) (fun b cur fr hb => Below.heap_setCell _ _ _ _ (fun e => ?_))
    dsimp only at e
    subst e
    rw [hh] at hb
    exact absurd (by injection hb with hb; injection hb) (show ¬ 77 = 5 by decide)
def Se.setDone (p : Se) (k : Int) : Se := if (p.done : Int) < k ∧ k ≤ (p.acc : Int) then { p with done := k.toNat } else p
/-- Done: a number behind what is done that was accepted, or ErrSeq. -/
theorem done_any (h : SeAt w base q r p) (k : Int) : Calls Try.prog 14 #[.pointer (some ⟨q, 0, none⟩), .int .i64 k] w fun e w' => e = .returned (.int .i64 (if (p.done : Int) < k ∧ k ≤ (p.acc : Int) then 0 else 16)) ∧ SeAt w' base q r (p.setDone k) ∧ Kr q r w w' := by
  have HM := Lib.hid (smade_any h)
  unfold Se.setDone
  have HS := Lib.hid h
  have hok := Lib.hid h.ok
  obtain ⟨v, L, -, -, -, hh, -⟩ := h
  obtain ⟨c0, c1, c2, c3, c4, c5, c6, c7, c8⟩ := box9 hh
  have f6 := free_block hh 6
  clear hh c0 c1 c2 c3 c4 c5 c8
  by_cases h1 : (p.done : Int) < k
  · by_cases h2 : k ≤ (p.acc : Int)
    · rw [if_pos ⟨h1, h2⟩, if_pos ⟨h1, h2⟩]
      have hS : SeAt (w.setCell ⟨q, 6, none⟩ (.int .i64 k)) base q r { p with done := k.toNat } := HS.out.set 6 _ _ rfl rfl { hok.out with done := by show k.toNat ≤ p.acc; omega } (fun v => by
        have e : ((k.toNat : Nat) : Int) = k := by omega
        dsimp only
        rw [e]
        rfl)
      have HS2 := Lib.hid hS
      have d1 : decide (k ≤ (p.done : Int)) = false := decide_eq_false (by omega)
      have d2 : decide (k > (p.acc : Int)) = false := decide_eq_false (by omega)
      have d3 : decide ((p.acc : Int) < k) = false := decide_eq_false (by omega)
      clear hS HS h1 h2
      go_enter Try.func14, Try.ntmps14
      go_wp2_with fail
      refine HM.out.mono ?_
      rintro e w1 ⟨rfl, rfl⟩
      go_wp2_with fail
      go_ret
      exact ⟨rfl, HS2.out, (Kr.refl _ _ _).set _ _⟩
    · rw [if_neg (fun h => h2 h.2), if_neg (fun h => h2 h.2)]
      have d1 : decide (k ≤ (p.done : Int)) = false := decide_eq_false (by omega)
      have d2 : decide (k > (p.acc : Int)) = true := decide_eq_true (by omega)
      have d3 : decide ((p.acc : Int) < k) = true := decide_eq_true (by omega)
      clear h1 h2
      go_enter Try.func14, Try.ntmps14
      go_wp2_with fail
      refine HM.out.mono ?_
      rintro e w1 ⟨rfl, rfl⟩
      go_wp2_with fail
      go_ret
      exact ⟨rfl, HS.out, Kr.refl _ _ _⟩
  · rw [if_neg (fun h => h1 h.1), if_neg (fun h => h1 h.1)]
    have d1 : decide (k ≤ (p.done : Int)) = true := decide_eq_true (by omega)
    clear h1
    go_enter Try.func14, Try.ntmps14
    go_wp2_with fail
    refine HM.out.mono ?_
    rintro e w1 ⟨rfl, rfl⟩
    go_wp2_with fail
    go_ret
    exact ⟨rfl, HS.out, Kr.refl _ _ _⟩
end
end Go.Proofs.Ytjhopajhcmkllaa
