/- Texts Ya, Yb, Yc, Yd, Ye, Yf of this seat in one: see each part. -/
import Derived.Lib.OthersKept
import Derived.Deep.LoopGhost
import Derived.Lib.ItoaNum
import Derived.Test.YteacmanbiamhoaaGreatDoorWdh
import Derived.Test.YteacmanbiamhoaaGreatDoorTe
import Derived.Test.YteacmanbiamhoaaGreatDoorWk
namespace Go.Proofs.YteacmanbiamhoaaGreatDoor
open Go.RowKit
set_option linter.unusedVariables false

/-- A text that is being put together; whether there was more than it may hold. -/
structure Sw where
  t : List Nat
  long : Bool
def putS (s : Sw) (l : List Nat) : Sw := if s.long = true ∨ 32768 < s.t.length + l.length then ⟨s.t, true⟩ else ⟨s.t ++ l, false⟩
def putsS (s : Sw) (ls : List (List Nat)) : Sw := ls.foldl putS s
theorem putS_long (t l : List Nat) : putS ⟨t, true⟩ l = ⟨t, true⟩ := by simp [putS]
theorem putsS_long (t : List Nat) : ∀ ls, putsS ⟨t, true⟩ ls = ⟨t, true⟩
  | [] => rfl
  | l :: r => by
    show putsS (putS ⟨t, true⟩ l) r = _
    rw [putS_long]
    exact putsS_long t r
theorem putsS_cons (s : Sw) (l : List Nat) (r : List (List Nat)) : putsS s (l :: r) = putsS (putS s l) r := rfl
/-- All blocks but q and rows of bytes are as they were. -/
def Oq (q : Nat) (w w' : World) : Prop := Lib.OthersKept 5 (some q) w w'
section
variable {w w' a X : World} {base q g : Nat} {v u : Value} {l m : List Nat} {s : Sw} {lv : Nat} {ls : List (List Nat)}
theorem Oq.refl (q : Nat) (w : World) : Oq q w w := Lib.OthersKept.refl _ _ w
theorem Oq.trans (h : Oq q a w) (k : Oq q w w') : Oq q a w' := Lib.OthersKept.trans h k
theorem Oq.alloc (h : Oq q a w) (o : Obj) : Oq q a (w.alloc o) := Lib.OthersKept.alloc h o
theorem Oq.set (h : Oq q a w) (i : Nat) (v : Value) : Oq q a (w.setCell ⟨q, i, none⟩ v) := Lib.OthersKept.setCell h ⟨q, i, none⟩ rfl v
theorem Oq.drew (h : Oq q a w) : Oq q a w.drew := h
theorem Oq.below (h : Below w.heap.size w w') : Oq q w w' := fun _ _ hk _ _ => heap_below hk h
theorem Oq.grown (h : Oq q a w) (ho : Own w base v l) (hg : w.grownBy w' v.ownBlock) : Oq q a w' :=
  Lib.OthersKept.grown h hg (Lib.ownsRowF_kind (World.ownsRowF_of ho))
theorem Oq.heap (h : Oq q w w') {k : Nat} {c : Array Value} {T : TypeId} {fr : Nat × Nat} (hk : w.heap[k]? = some (.cells c T fr)) (hne : k ≠ q) (hT : T ≠ 5) : w'.heap[k]? = some (.cells c T fr) :=
  h k _ hk (fun e => hne (Option.some.inj e)) (fun c' fz e => hT (by injection e))
/-- The shower at block q. -/
structure ShAt (base q : Nat) (w : World) (s : Sw) (lv : Nat) (v : Value) : Prop where
  h : w.heap[q]? = some (.cells #[v, .bool s.long, .int .i64 (lv : Int)] 120 (0, 0))
  own : Own w base v s.t
  le : base ≤ q
  ok : ∀ x ∈ s.t, x < 256
  len : s.t.length ≤ 32768
/-- What a method of the shower keeps. -/
structure Ks (base q : Nat) (w w' : World) : Prop where
  b : Below base w w'
  o : Oq q w w'
theorem Ks.refl (base q : Nat) (w : World) : Ks base q w w := ⟨Below.refl _ _, Oq.refl _ _⟩
theorem Ks.trans (h : Ks base q a w) (k : Ks base q w w') : Ks base q a w' := ⟨h.b.trans k.b, h.o.trans k.o⟩
theorem Ks.alloc (h : Ks base q a w) (hb : base ≤ w.heap.size) (o : Obj) : Ks base q a (w.alloc o) := ⟨h.b.trans ((Below.refl _ _).alloc hb o), h.o.alloc o⟩
theorem Ks.drew (h : Ks base q a w) : Ks base q a w.drew := ⟨⟨h.b.os, h.b.tape, h.b.output, h.b.size, h.b.block⟩, h.o⟩
theorem bx3 {y0 y1 y2 : Value} {E : TypeId} (h : X.heap[g]? = some (.cells #[y0, y1, y2] E (0, 0))) :
    (X.cell? ⟨g, 0, none⟩ = some y0 ∧ X.cell? ⟨g, 1, none⟩ = some y1 ∧ X.cell? ⟨g, 2, none⟩ = some y2) ∧ X.frozen? ⟨g, 0, none⟩ = false ∧ X.frozen? ⟨g, 1, none⟩ = false ∧ X.frozen? ⟨g, 2, none⟩ = false :=
  ⟨⟨cell_block h 0, cell_block h 1, cell_block h 2⟩, free_block h 0, free_block h 1, free_block h 2⟩
theorem ShAt.lt (h : ShAt base q w s lv v) : q < w.heap.size := lt_heap h.h
theorem ShAt.own_ne (h : ShAt base q w s lv v) : v.ownBlock ≠ some q := by
  rcases h.own.2 with ⟨h1, _⟩ | ⟨g, cap, cur, h1, hg, hh, _⟩
  · rw [h1]; intro h; cases h
  · rw [h1]
    intro h2
    have := Option.some.inj (show some g = some q from h2)
    subst this
    have h3 := h.h
    rw [hh] at h3
    simp at h3
/-- What keeps everything up to the heap's size keeps the shower. -/
theorem ShAt.below (h : ShAt base q w s lv v) (hb : Below w.heap.size w w') : ShAt base q w' s lv v :=
  ⟨heap_below h.h hb, World.ownsRow.kept h.own (row := none) ⟨hb.os, hb.tape, hb.output, hb.size, fun k hk _ => hb.block k hk⟩ (by
    cases hv : v.ownBlock with
    | none => exact .inl rfl
    | some g => exact .inr (by simp)), h.le, h.ok, h.len⟩
theorem ShAt.alloc (h : ShAt base q w s lv v) (o : Obj) : ShAt base q (w.alloc o) s lv v := h.below ((Below.refl _ _).alloc (Nat.le_refl _) o)
theorem ShAt.setL {b : Bool} (h : ShAt base q w s lv v) : ShAt base q (w.setCell ⟨q, 1, none⟩ (.bool b)) ⟨s.t, b⟩ lv v :=
  ⟨by simpa using heap_set h.h 1 (.bool b), World.ownsRow.kept h.own (row := some q) ((Kp.refl q w).set rfl _) (.inr h.own_ne), h.le, h.ok, h.len⟩
theorem ShAt.setV {k : Nat} (h : ShAt base q w s lv v) : ShAt base q (w.setCell ⟨q, 2, none⟩ (.int .i64 (k : Int))) s k v :=
  ⟨by simpa using heap_set h.h 2 (.int .i64 (k : Int)), World.ownsRow.kept h.own (row := some q) ((Kp.refl q w).set rfl _) (.inr h.own_ne), h.le, h.ok, h.len⟩
/-- The text grew. -/
theorem ShAt.setT {v' : Value} {t' : List Nat} (h : ShAt base q w s lv v) (hg : w.grownBy w' v.ownBlock) (ho : Own w' base v' t') (h8 : ∀ x ∈ t', x < 256) (hl : t'.length ≤ 32768) : ShAt base q (w'.setCell ⟨q, 0, none⟩ v') ⟨t', s.long⟩ lv v' := by
  have e : w'.heap[q]? = some (.cells #[v, .bool s.long, .int .i64 (lv : Int)] 120 (0, 0)) := (hg.block q h.lt (fun e => h.own_ne e.symm)).trans h.h
  refine ⟨by simpa using heap_set e 0 v', World.ownsRow.kept ho (row := some q) ((Kp.refl q w').set rfl _) (.inr ?_), h.le, h8, hl⟩
  rcases ho.2 with ⟨h1, _⟩ | ⟨g, cap, cur, h1, hg, hh, _⟩
  · rw [h1]; intro h; cases h
  · rw [h1]
    intro h2
    have := Option.some.inj (show some g = some q from h2)
    subst this
    rw [hh] at e
    simp at e
theorem Ks.set (h : Ks base q a w) (hb : base ≤ q) (hs : base ≤ w.heap.size) (i : Nat) (x : Value) : Ks base q a (w.setCell ⟨q, i, none⟩ x) :=
  ⟨h.b.trans (Kp.below ((Kp.refl q w).set rfl x) hb hs), h.o.set i x⟩
theorem Ks.grown (h : Ks base q a w) (hb : Below base w w') (ho : Own w base v l) (hg : w.grownBy w' v.ownBlock) : Ks base q a w' := ⟨h.b.trans hb, h.o.grown ho hg⟩
/-- These texts, in a row. -/
def Txs (q : Nat) (w : World) (x : Value) (ls : List (List Nat)) : Prop :=
  ∃ A c, x = .slice A ls.length c ∧ ls.length ≤ 1000 ∧ (∀ l ∈ ls, (∀ x ∈ l, x < 256) ∧ l.length ≤ 140737488355328) ∧ (ls = [] ∨ ∃ b o cs T fr, A = some ⟨b, o, none⟩ ∧ w.heap[b]? = some (.cells cs T fr) ∧ T ≠ 5 ∧ b ≠ q ∧ ∀ i (h : i < ls.length), cs[o + i]? = some (.string (strOf ls[i])))
theorem Txs.nil (q : Nat) (w : World) : Txs q w (.slice none 0 0) [] := ⟨none, 0, rfl, by simp, (fun _ h => by cases h), .inl rfl⟩
theorem Txs.keep {x : Value} (h : Txs q w x ls) (k : Oq q w w') : Txs q w' x ls := by
  obtain ⟨A, c, rfl, h1, h2, h3⟩ := h
  refine ⟨A, c, rfl, h1, h2, ?_⟩
  rcases h3 with h3 | ⟨b, o, cs, T, fr, e, hb, hT, hq, hi⟩
  · exact .inl h3
  · exact .inr ⟨b, o, cs, T, fr, e, k.heap hb hq hT, hT, hq, hi⟩
/-- What a method of the shower leaves. -/
def OutS (base q : Nat) (w : World) (s : Sw) (lv : Nat) (e : Ending) (w' : World) : Prop := e = .returned (.tuple #[]) ∧ (∃ v, ShAt base q w' s lv v) ∧ Ks base q w w'
end
/-- append of a string onto a slice of bytes of the call's own, in a region that draws its order; what it grows by. -/
theorem step_str {w : World} {ops : Array Oper} {o : Oper} {a : Act} {K : Act → World → Prop} {Q : Exit → Act → World → Prop} {E : Prop} (hgd : o.guard = none) (s x : Operand)
    (ho : o.op = .call { callee := .builtin .append, args := #[s, x], argTypes := #[118, 9] })
    {base : Nat} {v : Value} {l : List Nat} (hs : a.eval s = v) (hown : Own w base v l) {news : List Nat} (h8 : ∀ x ∈ news, x < 256) (hx : a.eval x = .string (strOf news))
    (hn : l.length + news.length ≤ 8796093022208) (hbase : base ≤ w.heap.size)
    (h : ∀ v' w', Own w' base v' (l ++ news) → Below base w w' → w.grownBy w' v.ownBlock → K (a.put o.dst v') w') :
    if Region.wanted o (yielded ops a.tmps) = true then Oper.wp Tryz.prog o a w K Q else E := by
  have hw : Region.wanted o (yielded ops a.tmps) = true := by simp [Region.wanted, hgd]
  rw [if_pos hw]
  obtain ⟨i0, hi0, hz0, hz1, hz2⟩ := info_parts u8_info
  have e := strOf_size news
  obtain ⟨v', w', hr, h1, h2, h3⟩ := Lib.run_append_own_string (P := Tryz.prog) w base 118 9 o.type 5 i0 Tryz.underlying118 Tryz.underlying9 hi0 (by simpa using hz0) hz1 hz2 v l.length (bv l) hown (strOf news) (by unfold maxLen; omega) (by omega) hbase
  have hK := h v' w' (by
    unfold Own
    rw [List.length_append, bv_append, ← e, ← strCells_strOf news h8]
    exact h1) ((Below.refl _ _).grown h2 hbase (fun k hk => (World.ownsRow.lt hown k hk).1)) h2
  unfold Oper.wp execOp
  simp only [ho, resolve, invoke, builtin, Sem.run_bind, Sem.run_pure, Result.andThen_ok, List.map_toArray, List.map_cons, List.map_nil, hs, hx, hr]
  exact hK
/-- append of a string onto a slice of bytes of the call's own; what it grows by. -/
theorem wpList_appg {w : World} {ops : Array Oper} {rest : List Oper} {o : Oper} {a : Act} {Q : Exit → Act → World → Prop} (hgd : o.guard = none) (s x : Operand)
    (ho : o.op = .call { callee := .builtin .append, args := #[s, x], argTypes := #[118, 9] })
    {base : Nat} {v : Value} {l : List Nat} (hs : a.eval s = v) (hown : Own w base v l) {news : List Nat} (h8 : ∀ x ∈ news, x < 256) (hx : a.eval x = .string (strOf news))
    (hn : l.length + news.length ≤ 8796093022208) (hbase : base ≤ w.heap.size)
    (h : ∀ v' w', Own w' base v' (l ++ news) → Below base w w' → w.grownBy w' v.ownBlock → wpList Tryz.prog ops Q rest (a.put o.dst v') w') :
    wpList Tryz.prog ops Q (o :: rest) a w := by
  obtain ⟨i0, hi0, hz0, hz1, hz2⟩ := info_parts u8_info
  have e := strOf_size news
  refine Lib.wpList_append_own_string w hgd s x 118 9 ho base 5 i0 Tryz.underlying118 Tryz.underlying9 hi0 (by simpa using hz0) hz1 hz2 v l.length (bv l) hs hown (strOf news) hx (by unfold maxLen; omega) (by omega) hbase ?_
  intro v' w' h1 h2 h3
  refine h v' w' ?_ ((Below.refl _ _).grown h2 hbase (fun k hk => (World.ownsRow.lt hown k hk).1)) h2
  unfold Own
  rw [List.length_append, bv_append, ← e, ← strCells_strOf news h8]
  exact h1
end Go.Proofs.YteacmanbiamhoaaGreatDoor
namespace Go.Proofs.YteacmanbiamhoaaGreatDoor
open Go.RowKit
set_option linter.unusedVariables false

set_option maxRecDepth 100000 in
set_option maxHeartbeats 4000000 in
/-- put puts texts behind what is there. -/
theorem put_any (base q : Nat) (w : World) (s : Sw) (lv : Nat) (v : Value) (h : ShAt base q w s lv v) (ls : List (List Nat)) (x : Value) (hx : Txs q w x ls) :
    Calls Tryz.prog 123 #[at0 q, x] w (OutS base q w (putsS s ls) lv) := by
  obtain ⟨A, c, rfl, hls, h8, hx⟩ := hx
  have hbw : base ≤ w.heap.size := Nat.le_of_lt (Nat.lt_of_le_of_lt h.le h.lt)
  have hle := h.le
  have H := Lib.hid h
  have H8 := Lib.hid h8
  have HX := Lib.hid hx
  obtain ⟨n, hn⟩ : ∃ n, Hid (ls.length = n) := ⟨_, Lib.hid rfl⟩
  rw [hn.out] at hls ⊢
  obtain ⟨R, hR⟩ : ∃ R, Hid (putsS s ls = R) := ⟨_, Lib.hid rfl⟩
  rw [hR.out]
  clear h h8 hx
  unfold at0
  go_enter Tryz.func123, Tryz.ntmps123
  go_wp2_with fail
  go_loopg [8] n (fun g i wr => ∃ (j : Nat) (sj : Sw) (vj : Value), j + g = n ∧ i = .int .i64 (j : Int) ∧ Hid (putsS sj (ls.drop j) = R) ∧ Hid (ShAt base q wr sj lv vj) ∧ Hid (Ks base q w wr))
  case atStart => exact ⟨0, s, v, by omega, rfl, Lib.hid (by rw [List.drop_zero]; exact hR.out), H, Lib.hid (Ks.refl _ _ _)⟩
  case round =>
    obtain ⟨j, sj, vj, hj, rfl, HF, HS, HK⟩ := hrel
    cases gk with
    | zero =>
      have h1 : ¬ (j : Int) < (n : Int) := by omega
      have HE : Hid (sj = R) := Lib.hid (by rw [← HF.out, List.drop_eq_nil_of_le (by rw [hn.out]; omega)]; rfl)
      clear HF
      go_wp2_with fail
      go_end0
      exact ⟨rfl, ⟨_, by rw [← HE.out]; exact HS.out⟩, HK.out⟩
    | succ g =>
      have h1 : (j : Int) < (n : Int) := by omega
      have h2 : j < n := by omega
      have hjl : j < ls.length := by rw [hn.out]; exact h2
      have HD := Lib.hid (List.drop_eq_getElem_cons hjl)
      have hl8 := H8.out ls[j] (List.getElem_mem hjl)
      rcases HX.out with hnil | ⟨b, o, cs, T, fr, rfl, hb, hT, hbq, hi⟩
      · exact absurd hjl (by rw [hnil]; simp)
      have y0 : wr.cell? ⟨b, o + j, none⟩ = some (.string (strOf ls[j])) := (cell_block (HK.out.o.heap hb hbq hT) (o + j)).trans (hi j hjl)
      have HF2 := Lib.hid (HF.out.symm.trans (by rw [HD.out, putsS_cons]))
      clear hb hi HF HD
      generalize ls[j] = l at *
      clear hjl
      have hsz : (strOf l).size = l.length := strOf_size l
      have HL8 := Lib.hid hl8.1
      have hl47 := hl8.2
      obtain ⟨tj, lgj⟩ := sj
      obtain ⟨Av, cv, rfl, hcv, hcmv, -⟩ := HS.out.own.form
      obtain ⟨⟨c0, c1, c2⟩, f0, f1, f2⟩ := bx3 HS.out.h
      have hqr := HS.out.lt
      have htl : tj.length ≤ 32768 := HS.out.len
      have hbr : base ≤ wr.heap.size := by omega
      dsimp only at c0 c1 c2
      clear hl8
      by_cases hlong : lgj = true
      · subst hlong
        have HE : Hid (R = ⟨tj, true⟩) := Lib.hid (by rw [HF2.out, putS_long, putsS_long])
        have HS2 := Lib.hid (HS.out.setL (b := true))
        have HK2 := Lib.hid (HK.out.set hle hbr 1 (.bool true))
        clear HF2
        go_wp2_with fail
        go_end0
        exact ⟨rfl, ⟨_, by rw [HE.out]; exact HS2.out⟩, HK2.out⟩
      · have hlf : lgj = false := by simpa using hlong
        subst hlf
        by_cases hm : 32768 < tj.length + l.length
        · have HE : Hid (R = ⟨tj, true⟩) := Lib.hid (by rw [HF2.out]; unfold putS; rw [if_pos (.inr hm), putsS_long])
          have HS2 := Lib.hid (HS.out.setL (b := true))
          have HK2 := Lib.hid (HK.out.set hle hbr 1 (.bool true))
          have t1 : (32768 : Int) - (tj.length : Int) < (l.length : Int) := by omega
          have t2 : decide ((32768 : Int) - (tj.length : Int) < (l.length : Int)) = true := decide_eq_true t1
          have t3 : (l.length : Int) > (32768 : Int) - (tj.length : Int) := t1
          clear HF2 hlong
          go_wp2_with fail
          go_end0
          exact ⟨rfl, ⟨_, by rw [HE.out]; exact HS2.out⟩, HK2.out⟩
        · have t1 : ¬ (32768 : Int) - (tj.length : Int) < (l.length : Int) := by omega
          have t2 : decide ((32768 : Int) - (tj.length : Int) < (l.length : Int)) = false := decide_eq_false t1
          have HF3 : Hid (putsS ⟨tj ++ l, false⟩ (ls.drop (j + 1)) = R) := Lib.hid (by rw [HF2.out]; unfold putS; rw [if_neg (by simp; omega)])
          have hm2 : tj.length + l.length ≤ 32768 := by omega
          clear HF2 hlong hm
          go_wp2_with (first
            | (at_builtin
               refine wpList_appg rfl (.tmp 34) (.tmp 35) rfl rfl HS.out.own HL8.out rfl (by dsimp only; omega) hbr ?_
               intro v2 w2 ho2 hb2 hg2
               obtain ⟨A2, c2', rfl, -⟩ := ho2.form
               have HS2 := Lib.hid (HS.out.setT hg2 ho2 (fun x hx => by rcases List.mem_append.1 hx with hx | hx; exact HS.out.ok x hx; exact HL8.out x hx) (by rw [List.length_append]; exact hm2))
               have HK2 := Lib.hid ((HK.out.grown hb2 HS.out.own hg2).set hle (Nat.le_trans hbr hb2.size) 0 (.slice A2 ((Sw.mk tj false).t ++ l).length c2'))
               have e2 := (hg2.block q hqr (fun e => HS.out.own_ne e.symm)).trans HS.out.h
               obtain ⟨⟨d0, d1, d2⟩, g0, g1, g2⟩ := bx3 e2
               have hq2 := lt_heap e2
               clear ho2 hb2 hg2 e2
               generalize ((Sw.mk tj false).t ++ l).length = nL at *)
            | (fail))
          go_roundg g
          case measure => omega
          case rel => exact ⟨j + 1, _, _, by omega, by go_num, HF3, HS2, HK2⟩
end Go.Proofs.YteacmanbiamhoaaGreatDoor
namespace Go.Proofs.YteacmanbiamhoaaGreatDoor
open Go.RowKit
set_option linter.unusedVariables false

/-- Texts that were just laid in a row. -/
theorem Txs.made {q : Nat} {w : World} (hq : q < w.heap.size) (ls : List (List Nat)) (cs : Array Value) (hcs : cs.toList = ls.map fun l => Value.string (strOf l)) (h8 : ∀ l ∈ ls, (∀ x ∈ l, x < 256) ∧ l.length ≤ 140737488355328) (hl : ls.length ≤ 1000) (c : Nat) :
    Txs q (w.alloc (.cells cs 9)) (.slice (some ⟨w.heap.size, 0, none⟩) ls.length c) ls :=
  ⟨_, c, rfl, hl, h8, .inr ⟨w.heap.size, 0, cs, 9, (0, 0), rfl, heap_new w _, by decide, by omega, fun i h => by
    rw [Nat.zero_add, ← Array.getElem?_toList, hcs]
    simp [h]⟩⟩
/-- put at texts that were just laid in a row. -/
theorem put_made (base q : Nat) (w : World) (s : Sw) (lv : Nat) (v : Value) (h : ShAt base q w s lv v) (ls : List (List Nat)) (cs : Array Value) (hcs : cs.toList = ls.map fun l => Value.string (strOf l)) (h8 : ∀ l ∈ ls, (∀ x ∈ l, x < 256) ∧ l.length ≤ 140737488355328) (hl : ls.length ≤ 1000) (k c : Nat) (hk : ls.length = k) :
    Calls Tryz.prog 123 #[at0 q, .slice (some ⟨w.heap.size, 0, none⟩) k c] (w.alloc (.cells cs 9)) (OutS base q w (putsS s ls) lv) := by
  subst hk
  refine (put_any base q _ s lv v (h.alloc _) ls _ (Txs.made h.lt ls cs hcs h8 hl c)).mono ?_
  rintro e w' ⟨rfl, hv, hk⟩
  exact ⟨rfl, hv, ((Ks.refl base q w).alloc (Nat.le_of_lt (Nat.lt_of_le_of_lt h.le h.lt)) _).trans hk⟩
/-- So many tabs. -/
def tabS : Nat → Sw → Sw
  | 0, s => s
  | n + 1, s => tabS n (putS s [9])
def beginS (lv : Nat) (ls : List (List Nat)) (s : Sw) : Sw := putsS (tabS lv s) ls
set_option maxRecDepth 100000 in
set_option maxHeartbeats 4000000 in
/-- begin begins a line. -/
theorem beginL_any (base q : Nat) (w : World) (s : Sw) (lv : Nat) (hlv : lv ≤ 1000) (v : Value) (h : ShAt base q w s lv v) (ls : List (List Nat)) (x : Value) (hx : Txs q w x ls) :
    Calls Tryz.prog 120 #[at0 q, x] w (OutS base q w (beginS lv ls s) lv) := by
  obtain ⟨A, n, c, rfl⟩ : ∃ A n c, x = .slice A n c := by obtain ⟨A, c, rfl, -⟩ := hx; exact ⟨_, _, _, rfl⟩
  have hle := h.le
  have H := Lib.hid h
  have HX := Lib.hid hx
  obtain ⟨R, hR⟩ : ∃ R, Hid (tabS lv s = R) := ⟨_, Lib.hid rfl⟩
  unfold beginS
  rw [hR.out]
  obtain ⟨⟨c0, c1, c2⟩, f0, f1, f2⟩ := bx3 h.h
  have hqr := h.lt
  have HPM := Lib.hid (fun w' s' v' (h' : ShAt base q w' s' lv v') => put_made base q w' s' lv v' h' [[9]] #[.string ⟨#[9]⟩] rfl (by simp) (by simp) 1 1 rfl)
  clear h hx
  unfold at0 at *
  go_enter Tryz.func120, Tryz.ntmps120
  go_wp2_with fail
  go_loopg [8] lv (fun g i wr => ∃ (j : Nat) (sj : Sw) (vj : Value), j + g = lv ∧ i = .int .i64 (j : Int) ∧ Hid (tabS g sj = R) ∧ Hid (ShAt base q wr sj lv vj) ∧ Hid (Ks base q w wr))
  case atStart => exact ⟨0, s, v, by omega, rfl, hR, H, Lib.hid (Ks.refl _ _ _)⟩
  case round =>
    obtain ⟨j, sj, vj, hj, rfl, HF, HS, HK⟩ := hrel
    cases gk with
    | zero =>
      have h1 : ¬ (j : Int) < (lv : Int) := by omega
      have HE : Hid (sj = R) := Lib.hid HF.out
      clear HF
      go_wp2_with (first
        | (go_at_call 123
           refine (put_any base q _ sj lv vj HS.out ls _ (HX.out.keep HK.out.o)).mono ?_
           rintro e w1 ⟨rfl, ⟨v1, hv1⟩, hk1⟩
           have HS1 := Lib.hid hv1
           have HK1 := Lib.hid (HK.out.trans hk1)
           clear hv1 hk1)
        | (fail))
      go_end0
      exact ⟨rfl, ⟨_, by rw [← HE.out]; exact HS1.out⟩, HK1.out⟩
    | succ g =>
      have h1 : (j : Int) < (lv : Int) := by omega
      have HF2 : Hid (tabS g (putS sj [9]) = R) := Lib.hid HF.out
      clear HF
      go_wp2_with (first
        | (go_at_call 123
           refine (HPM.out _ _ _ HS.out).mono ?_
           rintro e w1 ⟨rfl, ⟨v1, hv1⟩, hk1⟩
           have HS1 := Lib.hid hv1
           have HK1 := Lib.hid (HK.out.trans hk1)
           clear hv1 hk1)
        | (fail))
      go_roundg g
      case measure => omega
      case rel => exact ⟨j + 1, _, _, by omega, by go_num, HF2, HS1, HK1⟩
end Go.Proofs.YteacmanbiamhoaaGreatDoor
namespace Go.Proofs.YteacmanbiamhoaaGreatDoor
open Go.RowKit
set_option linter.unusedVariables false

def comS (j : Nat) (s : Sw) : Sw := if 0 < j then putsS s [[44, 32]] else s
/-- Names with commas between, from the one at j on. -/
def namesS : Nat → List (List Nat) → Sw → Sw
  | _, [], s => s
  | j, x :: r, s => namesS (j + 1) r (putsS (comS j s) [x])
def headS (n : List Nat) (ps : List (List Nat)) (s : Sw) : Sw := putsS (namesS 0 ps (putsS s [n, [40]])) [[41]]
theorem ok1 {l : List Nat} (h8 : ∀ x ∈ l, x < 256) (hl : l.length ≤ 140737488355328) : ∀ m ∈ [l], (∀ x ∈ m, x < 256) ∧ m.length ≤ 140737488355328 := by
  intro m hm
  rw [List.mem_singleton.1 hm]
  exact ⟨h8, hl⟩
set_option maxRecDepth 100000 in
set_option maxHeartbeats 4000000 in
/-- head puts a name and names in parentheses behind it. -/
theorem headL_any (base q : Nat) (w : World) (s : Sw) (lv : Nat) (v : Value) (h : ShAt base q w s lv v) (S : Nat → Prop) (hS : ∀ b, S b → b < base) (m : List Nat) (h8 : ∀ x ∈ m, x < 256) (hl : m.length ≤ 140737488355328) (ps : List (List Nat)) (hps : ps.length ≤ 1000) (x : Value) (hx : Rd w S (.row 1 (ps.map nmNd)) x) :
    Calls Tryz.prog 121 #[at0 q, .string (strOf m), x] w (OutS base q w (headS m ps s) lv) := by
  rw [Rd] at hx
  obtain ⟨A, c, rfl, hc, hcm, hr⟩ := hx
  rw [List.length_map] at hc ⊢
  have HR := Lib.hid hr
  have HSS := Lib.hid hS
  have hle := h.le
  have H := Lib.hid h
  have hqr := h.lt
  obtain ⟨n, hnn⟩ : ∃ n, Hid (ps.length = n) := ⟨_, Lib.hid rfl⟩
  rw [hnn.out] at hps hc ⊢
  obtain ⟨R, hRR⟩ : ∃ R, Hid (namesS 0 ps (putsS s [m, [40]]) = R) := ⟨_, Lib.hid rfl⟩
  unfold headS
  rw [hRR.out]
  have HP0 := Lib.hid (put_made base q w s lv v h [m, [40]] #[.string (strOf m), .string ⟨#[40]⟩] rfl (by
    intro l hl2
    simp at hl2
    rcases hl2 with rfl | rfl
    · exact ⟨h8, hl⟩
    · simp) (by simp) 2 2 rfl)
  have HPM := Lib.hid (fun w' s' v' (h' : ShAt base q w' s' lv v') => put_made base q w' s' lv v' h' [[44, 32]] #[.string ⟨#[44, 32]⟩] rfl (by simp) (by simp) 1 1 rfl)
  have HPE := Lib.hid (fun w' s' v' (h' : ShAt base q w' s' lv v') => put_made base q w' s' lv v' h' [[41]] #[.string ⟨#[41]⟩] rfl (by simp) (by simp) 1 1 rfl)
  have HP1 := Lib.hid (fun w' s' v' (t : List Nat) (t8 : ∀ x ∈ t, x < 256) (tn : t.length ≤ 140737488355328) (h' : ShAt base q w' s' lv v') => put_made base q w' s' lv v' h' [t] #[.string (strOf t)] rfl (ok1 t8 tn) (by simp) 1 1 rfl)
  clear h hr hS h8 hl
  unfold at0 at *
  go_enter Tryz.func121, Tryz.ntmps121
  go_wp2_with (first
    | (go_at_call 123
       refine HP0.out.mono ?_
       rintro e w1 ⟨rfl, ⟨v1, hv1⟩, hk1⟩
       have HS1 := Lib.hid hv1
       have HK1 := Lib.hid hk1
       clear hv1 hk1)
    | (fail))
  go_loopg [14] n (fun g i wr => ∃ (j : Nat) (sj : Sw) (vj : Value), j + g = n ∧ i = .int .i64 (j : Int) ∧ Hid (namesS j (ps.drop j) sj = R) ∧ Hid (ShAt base q wr sj lv vj) ∧ Hid (Ks base q w wr))
  case atStart => exact ⟨0, _, _, by omega, rfl, Lib.hid (by rw [List.drop_zero]; exact hRR.out), HS1, HK1⟩
  case round =>
    obtain ⟨j, sj, vj, hj, rfl, HF, HS, HK⟩ := hrel
    cases gk with
    | zero =>
      have h1 : ¬ (j : Int) < (n : Int) := by omega
      have HE : Hid (sj = R) := Lib.hid (by rw [← HF.out, List.drop_eq_nil_of_le (by rw [hnn.out]; omega)]; rfl)
      clear HF HPM HP1 HP0
      go_wp2_with (first
        | (go_at_call 123
           refine (HPE.out _ _ _ HS.out).mono ?_
           rintro e w2 ⟨rfl, ⟨v2, hv2⟩, hk2⟩
           have HS2 := Lib.hid hv2
           have HK2 := Lib.hid (HK.out.trans hk2)
           clear hv2 hk2)
        | (fail))
      go_end0
      exact ⟨rfl, ⟨_, by rw [← HE.out]; exact HS2.out⟩, HK2.out⟩
    | succ g =>
      have h1 : (j : Int) < (n : Int) := by omega
      have h2 : j < n := by omega
      have hjl : j < ps.length := by rw [hnn.out]; exact h2
      obtain ⟨b, o, vs, rfl, hSb, hvl, hrg, hx⟩ := HR.out.at j (nmNd ps[j]) (by simp [hjl])
      obtain ⟨hv, t8, tn⟩ := (nm_rd _ _).1 hx
      have hv2 : vs = [.string (strOf ps[j])] := by
        injection hv with hv
        have := congrArg Array.toList hv
        simpa using this
      subst hv2
      have c0 : wr.cell? ⟨b, o + j, none⟩ = some (.string (strOf ps[j])) := by
        have := hrg 0 _ rfl
        rw [show o + (0 + j) * 1 + 0 = o + j by omega] at this
        exact (HK.out.b.cell (HSS.out b hSb)).trans this
      have HD := Lib.hid (List.drop_eq_getElem_cons hjl)
      have HF2 : Hid (namesS (j + 1) (ps.drop (j + 1)) (putsS (comS j sj) [ps[j]]) = R) := Lib.hid (by rw [← HF.out, HD.out]; rfl)
      clear HF HD hrg hx hv HP0 HPE
      generalize ps[j] = t at *
      have T8 := Lib.hid t8
      have TN := Lib.hid tn
      clear t8 tn hjl
      by_cases hj0 : 0 < j
      · have t1 : (0 : Int) < (j : Int) := by omega
        have t2 : (j : Int) > 0 := t1
        have HF3 : Hid (namesS (j + 1) (ps.drop (j + 1)) (putsS (putsS sj [[44, 32]]) [t]) = R) := Lib.hid (by rw [← HF2.out]; unfold comS; rw [if_pos hj0])
        clear HF2
        go_wp2_with (first
          | (go_at_call 123
             refine (HPM.out _ _ _ HS.out).mono ?_
             rintro e w2 ⟨rfl, ⟨v2, hv2⟩, hk2⟩
             have HS2 := Lib.hid hv2
             have HK2 := Lib.hid (HK.out.trans hk2)
             clear hv2 hk2 HPM)
          | (go_at_call 123
             refine (HP1.out _ _ _ t T8.out TN.out HS2.out).mono ?_
             rintro e w3 ⟨rfl, ⟨v3, hv3⟩, hk3⟩
             have HS3 := Lib.hid hv3
             have HK3 := Lib.hid (HK2.out.trans hk3)
             clear hv3 hk3)
          | (fail))
        go_roundg g
        case measure => omega
        case rel => exact ⟨j + 1, _, _, by omega, by go_num, HF3, HS3, HK3⟩
      · have t1 : ¬ (0 : Int) < (j : Int) := by omega
        have t2 : ¬ (j : Int) > 0 := t1
        have hjz : j = 0 := by omega
        have HF3 : Hid (namesS (j + 1) (ps.drop (j + 1)) (putsS sj [t]) = R) := Lib.hid (by rw [← HF2.out]; unfold comS; rw [if_neg hj0])
        clear HF2 HPM hj0 hjz
        go_wp2_with (first
          | (go_at_call 123
             refine (HP1.out _ _ _ t T8.out TN.out HS.out).mono ?_
             rintro e w3 ⟨rfl, ⟨v3, hv3⟩, hk3⟩
             have HS3 := Lib.hid hv3
             have HK3 := Lib.hid (HK.out.trans hk3)
             clear hv3 hk3)
          | (fail))
        go_roundg g
        case measure => omega
        case rel => exact ⟨j + 1, _, _, by omega, by go_num, HF3, HS3, HK3⟩
end Go.Proofs.YteacmanbiamhoaaGreatDoor
namespace Go.Proofs.YteacmanbiamhoaaGreatDoor
open Go.RowKit
set_option linter.unusedVariables false

set_option maxRecDepth 100000 in
set_option maxHeartbeats 4000000 in
/-- quote puts a text that says these bytes. -/
theorem quoteL_any (base q : Nat) (w : World) (s : Sw) (lv : Nat) (v : Value) (h : ShAt base q w s lv v) (l : List Nat) (h8 : ∀ x ∈ l, x < 256) (hq8 : ∀ x ∈ quoW l, x < 256) (hl : l.length ≤ 140737488355328) :
    Calls Tryz.prog 274 #[at0 q, .string (strOf l)] w (OutS base q w (putS s (quoW l)) lv) := by
  have hle := h.le
  have H := Lib.hid h
  have hqr := h.lt
  have hbr : base ≤ w.heap.size := by omega
  have hsz : (strOf l).size = l.length := strOf_size l
  obtain ⟨⟨c0, c1, c2⟩, f0, f1, f2⟩ := bx3 h.h
  have HQL := Lib.hid (quoW_len l)
  by_cases hm : 32768 < l.length
  · have t1 : (32768 : Int) < (l.length : Int) := by omega
    have t2 : (l.length : Int) > 32768 := t1
    have HE : Hid (putS s (quoW l) = ⟨s.t, true⟩) := Lib.hid (by unfold putS; rw [if_pos (.inr (by have := HQL.out; omega))])
    have HS2 := Lib.hid (h.setL (b := true))
    have HK2 := Lib.hid ((Ks.refl base q w).set hle hbr 1 (.bool true))
    clear h hm
    unfold at0
    go_enter Tryz.func274, Tryz.ntmps274
    go_wp2_with fail
    go_end0
    exact ⟨rfl, ⟨_, by rw [HE.out]; exact HS2.out⟩, HK2.out⟩
  · have t1 : ¬ (32768 : Int) < (l.length : Int) := by omega
    have t2 : ¬ (l.length : Int) > 32768 := t1
    have HQ := Lib.hid (quote_any l h8 (by omega) w)
    have HP := Lib.hid (fun w' (h' : ShAt base q w' s lv v) => put_made base q w' s lv v h' [quoW l] #[.string (strOf (quoW l))] rfl (ok1 hq8 (by have := HQL.out; omega)) (by simp) 1 1 rfl)
    clear h hm
    unfold at0 at *
    go_enter Tryz.func274, Tryz.ntmps274
    go_wp2_with (first
      | (go_at_call 299
         refine HQ.out.mono ?_
         rintro e w1 ⟨rfl, hb1⟩
         have HS1 := Lib.hid (H.out.below hb1)
         have HK1 : Hid (Ks base q w w1) := Lib.hid ⟨hb1.mono hbr, Oq.below hb1⟩
         clear hb1)
      | (go_at_call 123
         refine (HP.out _ HS1.out).mono ?_
         rintro e w2 ⟨rfl, ⟨v2, hv2⟩, hk2⟩
         have HS2 := Lib.hid hv2
         have HK2 := Lib.hid (HK1.out.trans hk2)
         clear hv2 hk2)
      | (fail))
    go_end0
    exact ⟨rfl, ⟨_, HS2.out⟩, HK2.out⟩
end Go.Proofs.YteacmanbiamhoaaGreatDoor
namespace Go.Proofs.YteacmanbiamhoaaGreatDoor
open Go.RowKit
set_option linter.unusedVariables false

def numT (n : Int) : List Nat := (Lib.itoa n).map UInt8.toNat
def truT (b : Bool) : List Nat := if b then [116, 114, 117, 101] else [102, 97, 108, 115, 101]
def isOpK : Ex → Bool
  | .mk k _ _ _ => k == 7
mutual
/-- An expression. -/
def exS : Ex → Sw → Sw
  | .mk k s n l, a =>
    if k = 1 then putS a (numT n)
    else if k = 2 then putS a (truT (n == 1))
    else if k = 3 then putS a (quoW s)
    else if k = 4 then putS a s
    else if k = 5 then putS a [115, 101, 108, 102]
    else if k = 6 then putS (exsS 0 l (putS a [40])) [41]
    else if k = 7 then opS s l a
    else if k = 8 then atS l a
    else if k = 9 then putS (exsS 0 l (putS (putS a [108, 101, 110]) [40])) [41]
    else if k = 10 then putS (exsS 0 l (putS (putsS a [[99, 97, 108, 108, 32], s]) [40])) [41]
    else if k = 11 then putS (exsS 0 l (putS (putsS a [[115, 112, 97, 119, 110, 32], s]) [40])) [41]
    else a
/-- Expressions with commas between. -/
def exsS : Nat → List Ex → Sw → Sw
  | _, [], a => a
  | j, x :: r, a => exsS (j + 1) r (exS x (comS j a))
/-- An operation: its signs, its parts. -/
def opS (s : List Nat) : List Ex → Sw → Sw
  | [x], a => if isOpK x then putS (exS x (putS (putsS a [s, [32]]) [40])) [41] else exS x (putsS a [s, [32]])
  | [x, y], a =>
    let b := putS (if isOpK x then putS (exS x (putS a [40])) [41] else exS x a) [32]
    if isOpK y then putS (exS y (putS (putsS b [s, [32]]) [40])) [41] else exS y (putsS b [s, [32]])
  | _, a => a
/-- One of a tuple. -/
def atS : List Ex → Sw → Sw
  | [x, y], a => putS (exS y (putS (if isOpK x then putS (exS x (putS a [40])) [41] else exS x a) [91])) [93]
  | _, a => a
end
/-- A part. -/
def partS (x : Ex) (a : Sw) : Sw := if isOpK x then putS (exS x (putS a [40])) [41] else exS x a
def listS (l : List Ex) (a : Sw) : Sw := putS (exsS 0 l (putS a [40])) [41]
mutual
/-- A statement at so many tabs. -/
def smS : Nat → Sm → Sw → Sw
  | lv, .mk k s x b e _, a =>
    if k = 3 ∨ k = 4 then
      let a1 := putS (exS (x.headD (.mk 0 [] 0 [])) (beginS lv [if k = 4 then [119, 104, 105, 108, 101, 32, 40] else [105, 102, 32, 40]] a)) [41]
      let a2 := beginS lv [[125]] (smsS (lv + 1) b (putS a1 [32, 123, 10]))
      putS (if 0 < e.length then beginS lv [[125]] (smsS (lv + 1) e (putS (putS a2 [32, 101, 108, 115, 101]) [32, 123, 10])) else a2) [10]
    else
      putS (if k = 1 then exS (x.headD (.mk 0 [] 0 [])) (beginS lv [[108, 101, 116, 32], s, [32, 61, 32]] a)
        else if k = 2 then exS (x.headD (.mk 0 [] 0 [])) (beginS lv [[115, 101, 116, 32], s, [32, 61, 32]] a)
        else if k = 5 then exS (x.headD (.mk 0 [] 0 [])) (beginS lv [[114, 101, 116, 117, 114, 110, 32]] a)
        else if k = 6 then listS x.tail (putsS (partS (x.headD (.mk 0 [] 0 [])) (beginS lv [[115, 101, 110, 100, 32]] a)) [[32], s])
        else if k = 7 then listS x (beginS lv [[98, 101, 99, 111, 109, 101, 32], s] a)
        else if k = 8 then beginS lv [[115, 116, 111, 112]] a
        else if k = 9 then exS (x.headD (.mk 0 [] 0 [])) (beginS lv [] a)
        else a) [59, 10]
def smsS : Nat → List Sm → Sw → Sw
  | _, [], a => a
  | lv, x :: r, a => smsS lv r (smS lv x a)
end
def braceS (lv : Nat) (l : List Sm) (a : Sw) : Sw := beginS lv [[125]] (smsS (lv + 1) l (putS a [32, 123, 10]))
def bdS (lv : Nat) (key : List Nat) (b : Bd) (a : Sw) : Sw := putS (braceS lv b.st (headS b.name b.ps (beginS lv [key] a))) [10]
def bdsS (lv : Nat) (key : List Nat) : List Bd → Sw → Sw
  | [], a => a
  | x :: r, a => bdsS lv key r (bdS lv key x a)
def rlS (r : Rl) (a : Sw) : Sw := beginS 0 [[125, 10]] (bdsS 1 [111, 110, 32] r.on (putS (headS r.name r.ps (beginS 0 [[97, 99, 116, 111, 114, 32]] a)) [32, 123, 10]))
def rlsS : List Rl → Sw → Sw
  | [], a => a
  | x :: r, a => rlsS r (rlS x a)
def pgS (g : Pg) : Sw := rlsS g.roles (bdsS 0 [102, 117, 110, 99, 32] g.fns ⟨[], false⟩)
/-- What Show answers: the text and the error. -/
def showF (g : Pg) : List Nat × Nat := if rightP g then if (pgS g).long then ([], 3) else ((pgS g).t, 0) else ([], 103)
end Go.Proofs.YteacmanbiamhoaaGreatDoor
