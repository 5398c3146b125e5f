/- Package tree: the short methods of the parser: the walks. -/
import Derived.Test.YteacmanbiamhoaaGreatDoorTc
import Derived.Deep.DeepCutAuto
namespace Go.Proofs.YteacmanbiamhoaaGreatDoor
open Go.RowKit
set_option linter.unusedVariables false

theorem box11 {X : World} {g : Nat} {T : List Nat} {R : Ru} {p : Pst} {E : TypeId} (h : X.heap[g]? = some (.cells (pcells T R p) E (0, 0))) :
    (X.cell? ⟨g, 0, none⟩ = some (.string (strOf T)) ∧ X.cell? ⟨g, 1, none⟩ = some (.int .u8 (p.k : Int)) ∧ X.cell? ⟨g, 2, none⟩ = some (.string (strOf p.s)) ∧ X.cell? ⟨g, 3, none⟩ = some (.int .i64 (p.n : Int)) ∧ X.cell? ⟨g, 4, none⟩ = some (.int .i64 (p.ln : Int)) ∧ X.cell? ⟨g, 5, none⟩ = some (.int .i64 (p.a : Int)) ∧ X.cell? ⟨g, 6, none⟩ = some (.int .i64 (p.e : Int)) ∧ X.cell? ⟨g, 7, none⟩ = some (.int .i64 (p.er : Int)) ∧ X.cell? ⟨g, 8, none⟩ = some (.int .i64 (p.fl : Int)) ∧ X.cell? ⟨g, 9, none⟩ = some (.int .i64 (p.g : Int)) ∧ X.cell? ⟨g, 10, none⟩ = some (lvF R.or)) ∧
    (X.frozen? ⟨g, 0, none⟩ = false ∧ X.frozen? ⟨g, 1, none⟩ = false ∧ X.frozen? ⟨g, 2, none⟩ = false ∧ X.frozen? ⟨g, 3, none⟩ = false ∧ X.frozen? ⟨g, 4, none⟩ = false ∧ X.frozen? ⟨g, 5, none⟩ = false ∧ X.frozen? ⟨g, 6, none⟩ = false ∧ X.frozen? ⟨g, 7, none⟩ = false ∧ X.frozen? ⟨g, 8, none⟩ = false ∧ X.frozen? ⟨g, 9, none⟩ = false ∧ X.frozen? ⟨g, 10, none⟩ = false) :=
  ⟨⟨cell_block h 0, cell_block h 1, cell_block h 2, cell_block h 3, cell_block h 4, cell_block h 5, cell_block h 6, cell_block h 7, cell_block h 8, cell_block h 9, cell_block h 10⟩,
   ⟨free_block h 0, free_block h 1, free_block h 2, free_block h 3, free_block h 4, free_block h 5, free_block h 6, free_block h 7, free_block h 8, free_block h 9, free_block h 10⟩⟩
theorem bx6 {X : World} {g : Nat} {y0 y1 y2 y3 y4 y5 : Value} {E : TypeId} (h : X.heap[g]? = some (.cells #[y0, y1, y2, y3, y4, y5] E (0, 0))) :
    (X.cell? ⟨g, 0, none⟩ = some y0 ∧ X.cell? ⟨g, 1, none⟩ = some y1 ∧ X.cell? ⟨g, 2, none⟩ = some y2 ∧ X.cell? ⟨g, 3, none⟩ = some y3 ∧ X.cell? ⟨g, 4, none⟩ = some y4 ∧ X.cell? ⟨g, 5, none⟩ = some y5) ∧ X.frozen? ⟨g, 0, none⟩ = false ∧ X.frozen? ⟨g, 1, none⟩ = false ∧ X.frozen? ⟨g, 2, none⟩ = false ∧ X.frozen? ⟨g, 3, none⟩ = false ∧ X.frozen? ⟨g, 4, none⟩ = false ∧ X.frozen? ⟨g, 5, none⟩ = false :=
  ⟨⟨cell_block h 0, cell_block h 1, cell_block h 2, cell_block h 3, cell_block h 4, cell_block h 5⟩, free_block h 0, free_block h 1, free_block h 2, free_block h 3, free_block h 4, free_block h 5⟩
theorem bx2 {X : World} {g : Nat} {y0 y1 : Value} {E : TypeId} (h : X.heap[g]? = some (.cells #[y0, y1] E (0, 0))) :
    (X.cell? ⟨g, 0, none⟩ = some y0 ∧ X.cell? ⟨g, 1, none⟩ = some y1) ∧ X.frozen? ⟨g, 0, none⟩ = false ∧ X.frozen? ⟨g, 1, none⟩ = false :=
  ⟨⟨cell_block h 0, cell_block h 1⟩, free_block h 0, free_block h 1⟩
theorem st6 {X : World} {g : Nat} {E : TypeId} {y0 y1 y2 y3 y4 y5 : Value} (q : X.heap[g]? = some (.cells #[y0, y1, y2, y3, y4, y5] E (0, 0))) (z0 z1 z2 z3 z4 z5 : Value) : ((((((X.setCell ⟨g, 0, none⟩ z0).setCell ⟨g, 1, none⟩ z1).setCell ⟨g, 2, none⟩ z2).setCell ⟨g, 3, none⟩ z3).setCell ⟨g, 4, none⟩ z4).setCell ⟨g, 5, none⟩ z5).heap[g]? = some (.cells #[z0, z1, z2, z3, z4, z5] E (0, 0)) := by
  have := heap_set (heap_set (heap_set (heap_set (heap_set (heap_set q 0 z0) 1 z1) 2 z2) 3 z3) 4 z4) 5 z5
  simpa using this
theorem st2 {X : World} {g : Nat} {E : TypeId} {y0 y1 : Value} (q : X.heap[g]? = some (.cells #[y0, y1] E (0, 0))) (z0 z1 : Value) : ((X.setCell ⟨g, 0, none⟩ z0).setCell ⟨g, 1, none⟩ z1).heap[g]? = some (.cells #[z0, z1] E (0, 0)) := by
  have := heap_set (heap_set q 0 z0) 1 z1
  simpa using this
theorem ne2 {X : World} {g k : Nat} {o : Obj} (h : X.heap[k]? = some o) (hk : k ≠ g) (z0 z1 : Value) : ((X.setCell ⟨g, 0, none⟩ z0).setCell ⟨g, 1, none⟩ z1).heap[k]? = some o := heap_set_ne (heap_set_ne h hk 0 z0) hk 1 z1
theorem ne6 {X : World} {g k : Nat} {o : Obj} (h : X.heap[k]? = some o) (hk : k ≠ g) (z0 z1 z2 z3 z4 z5 : Value) : ((((((X.setCell ⟨g, 0, none⟩ z0).setCell ⟨g, 1, none⟩ z1).setCell ⟨g, 2, none⟩ z2).setCell ⟨g, 3, none⟩ z3).setCell ⟨g, 4, none⟩ z4).setCell ⟨g, 5, none⟩ z5).heap[k]? = some o :=
  heap_set_ne (heap_set_ne (heap_set_ne (heap_set_ne (heap_set_ne (heap_set_ne h hk 0 z0) hk 1 z1) hk 2 z2) hk 3 z3) hk 4 z4) hk 5 z5
/-- A world on the way: the parser as it was. -/
structure Mid (w0 : World) (T : List Nat) (R : Ru) (q : Nat) (p : Pst) (w X : World) : Prop where
  c : Cx w0 T R q X p
  k : Kp q w X
section
variable {w0 w X : World} {T : List Nat} {R : Ru} {q : Nat} {p : Pst}
theorem Mid.start (h : Cx w0 T R q w p) : Mid w0 T R q p w w := ⟨h, Kp.refl _ _⟩
theorem Mid.alloc (h : Mid w0 T R q p w X) (o : Obj) : Mid w0 T R q p w (X.alloc o) := ⟨h.c.alloc o, h.k.alloc o⟩
theorem Mid.drew (h : Mid w0 T R q p w X) : Mid w0 T R q p w X.drew := ⟨h.c.drew, h.k.drew⟩
theorem Mid.below {Y : World} (h : Mid w0 T R q p w X) (hb : Below X.heap.size X Y) : Mid w0 T R q p w Y := ⟨h.c.below hb, h.k.trans (Kp.of_below hb)⟩
theorem Mid.setNew (h : Mid w0 T R q p w X) (hw : Cx w0 T R q w p) {g i : Nat} (hg : w.heap.size ≤ g) (v : Value) : Mid w0 T R q p w (X.setCell ⟨g, i, none⟩ v) := by
  have hk := h.k.setNew (p := ⟨g, i, none⟩) hg v
  have := hw.lt
  exact ⟨hw.on hk (heap_set_ne h.c.hp (show q ≠ g by omega) i v) h.c.ok, hk⟩
theorem Mid.set2 (h : Mid w0 T R q p w X) (hw : Cx w0 T R q w p) {g : Nat} (hg : w.heap.size ≤ g) (z0 z1 : Value) : Mid w0 T R q p w ((X.setCell ⟨g, 0, none⟩ z0).setCell ⟨g, 1, none⟩ z1) := (h.setNew hw hg _).setNew hw hg _
theorem Mid.set6 (h : Mid w0 T R q p w X) (hw : Cx w0 T R q w p) {g : Nat} (hg : w.heap.size ≤ g) (z0 z1 z2 z3 z4 z5 : Value) : Mid w0 T R q p w ((((((X.setCell ⟨g, 0, none⟩ z0).setCell ⟨g, 1, none⟩ z1).setCell ⟨g, 2, none⟩ z2).setCell ⟨g, 3, none⟩ z3).setCell ⟨g, 4, none⟩ z4).setCell ⟨g, 5, none⟩ z5) :=
  (((((h.setNew hw hg _).setNew hw hg _).setNew hw hg _).setNew hw hg _).setNew hw hg _).setNew hw hg _
/-- Behind the first statement of step: the word and the fault, in two new variables. -/
def StepW (w0 : World) (T : List Nat) (R : Ru) (q : Nat) (p : Pst) (w : World) (P : Pst) (a b : Value) (wx : World) : Prop :=
  ∃ g1 g2, a = .pointer (some ⟨g1, 0, none⟩) ∧ b = .pointer (some ⟨g2, 0, none⟩) ∧ g1 ≠ q ∧ g2 ≠ q ∧ wx.heap[g1]? = some (.cells #[.int .u8 (P.k : Int), .string (strOf P.s), .int .i64 (P.n : Int), .int .i64 (P.ln : Int), .int .i64 (P.a : Int), .int .i64 (P.e : Int)] 100 (0, 0)) ∧ wx.heap[g2]? = some (.cells #[.int .i64 (P.er : Int), .int .i64 (P.fl : Int)] 29 (0, 0)) ∧ Mid w0 T R q p w wx
section
variable {P : Pst} {k s n ln a e er fl : Value} {y0 y1 y2 y3 y4 y5 x0 x1 : Value} {A B : Nat}
theorem sw1 (hw : Cx w0 T R q w p) (M : Mid w0 T R q p w X) : StepW w0 T R q p w P (.pointer (some ⟨X.heap.size, 0, none⟩)) (.pointer (some ⟨X.heap.size + 1, 0, none⟩)) ((X.alloc (.cells #[.int .u8 (P.k : Int), .string (strOf P.s), .int .i64 (P.n : Int), .int .i64 (P.ln : Int), .int .i64 (P.a : Int), .int .i64 (P.e : Int)] 100)).alloc (.cells #[.int .i64 (P.er : Int), .int .i64 (P.fl : Int)] 29)) := by
  have h1 := hw.lt
  have h2 := M.k.size
  exact ⟨_, _, rfl, rfl, by omega, by omega, heap_old (heap_new _ _) _, heap_new' _ _ _ (by simp), (M.alloc _).alloc _⟩
theorem sw2 (hw : Cx w0 T R q w p) (M : Mid w0 T R q p w X) : StepW w0 T R q p w P (.pointer (some ⟨X.heap.size + 1, 0, none⟩)) (.pointer (some ⟨X.heap.size, 0, none⟩)) ((X.alloc (.cells #[.int .i64 (P.er : Int), .int .i64 (P.fl : Int)] 29)).alloc (.cells #[.int .u8 (P.k : Int), .string (strOf P.s), .int .i64 (P.n : Int), .int .i64 (P.ln : Int), .int .i64 (P.a : Int), .int .i64 (P.e : Int)] 100)) := by
  have h1 := hw.lt
  have h2 := M.k.size
  exact ⟨_, _, rfl, rfl, by omega, by omega, heap_new' _ _ _ (by simp), heap_old (heap_new _ _) _, (M.alloc _).alloc _⟩
theorem sw3 (hw : Cx w0 T R q w p) (M : Mid w0 T R q p w X) (hA : w.heap.size ≤ A) (q1 : X.heap[A]? = some (.cells #[y0, y1, y2, y3, y4, y5] 100 (0, 0))) : StepW w0 T R q p w P (.pointer (some ⟨A, 0, none⟩)) (.pointer (some ⟨X.heap.size, 0, none⟩)) (((((((X.setCell ⟨A, 0, none⟩ (.int .u8 (P.k : Int))).setCell ⟨A, 1, none⟩ (.string (strOf P.s))).setCell ⟨A, 2, none⟩ (.int .i64 (P.n : Int))).setCell ⟨A, 3, none⟩ (.int .i64 (P.ln : Int))).setCell ⟨A, 4, none⟩ (.int .i64 (P.a : Int))).setCell ⟨A, 5, none⟩ (.int .i64 (P.e : Int))).alloc (.cells #[.int .i64 (P.er : Int), .int .i64 (P.fl : Int)] 29)) := by
  have h1 := hw.lt
  have h2 := M.k.size
  exact ⟨_, _, rfl, rfl, by omega, by omega, heap_old (st6 q1 _ _ _ _ _ _) _, heap_new' _ _ _ (by simp), (M.set6 hw hA _ _ _ _ _ _).alloc _⟩
theorem sw4 (hw : Cx w0 T R q w p) (M : Mid w0 T R q p w X) (hA : w.heap.size ≤ A) (hB : w.heap.size ≤ B) (hAB : A ≠ B) (q1 : X.heap[A]? = some (.cells #[y0, y1, y2, y3, y4, y5] 100 (0, 0))) (q2 : X.heap[B]? = some (.cells #[x0, x1] 29 (0, 0))) : StepW w0 T R q p w P (.pointer (some ⟨A, 0, none⟩)) (.pointer (some ⟨B, 0, none⟩)) ((((((((X.setCell ⟨A, 0, none⟩ (.int .u8 (P.k : Int))).setCell ⟨A, 1, none⟩ (.string (strOf P.s))).setCell ⟨A, 2, none⟩ (.int .i64 (P.n : Int))).setCell ⟨A, 3, none⟩ (.int .i64 (P.ln : Int))).setCell ⟨A, 4, none⟩ (.int .i64 (P.a : Int))).setCell ⟨A, 5, none⟩ (.int .i64 (P.e : Int))).setCell ⟨B, 0, none⟩ (.int .i64 (P.er : Int))).setCell ⟨B, 1, none⟩ (.int .i64 (P.fl : Int))) := by
  have h1 := hw.lt
  have h2 := M.k.size
  exact ⟨_, _, rfl, rfl, by omega, by omega, ne2 (st6 q1 _ _ _ _ _ _) hAB _ _, st2 (ne6 q2 (Ne.symm hAB) _ _ _ _ _ _) _ _, (M.set6 hw hA _ _ _ _ _ _).set2 hw hB _ _⟩
theorem sw5 (hw : Cx w0 T R q w p) (M : Mid w0 T R q p w X) (hB : w.heap.size ≤ B) (q2 : X.heap[B]? = some (.cells #[x0, x1] 29 (0, 0))) : StepW w0 T R q p w P (.pointer (some ⟨X.heap.size, 0, none⟩)) (.pointer (some ⟨B, 0, none⟩)) (((X.setCell ⟨B, 0, none⟩ (.int .i64 (P.er : Int))).setCell ⟨B, 1, none⟩ (.int .i64 (P.fl : Int))).alloc (.cells #[.int .u8 (P.k : Int), .string (strOf P.s), .int .i64 (P.n : Int), .int .i64 (P.ln : Int), .int .i64 (P.a : Int), .int .i64 (P.e : Int)] 100)) := by
  have h1 := hw.lt
  have h2 := M.k.size
  exact ⟨_, _, rfl, rfl, by omega, by omega, heap_new' _ _ _ (by simp), heap_old (st2 q2 _ _) _, (M.set2 hw hB _ _).alloc _⟩
end
end
section
variable {w0 w : World} {T : List Nat} {R : Ru} {q : Nat} {p : Pst}
/-- The word and the fault, written. -/
theorem setWF {k s n ln a e er fl : Value} {p' : Pst} (h : w.heap[q]? = some (.cells (pcells T R p) 104 (0, 0))) (hg : p'.g = p.g)
    (hk : k = .int .u8 (p'.k : Int)) (hs : s = .string (strOf p'.s)) (hn : n = .int .i64 (p'.n : Int)) (hln : ln = .int .i64 (p'.ln : Int)) (ha : a = .int .i64 (p'.a : Int)) (he : e = .int .i64 (p'.e : Int)) (her : er = .int .i64 (p'.er : Int)) (hfl : fl = .int .i64 (p'.fl : Int)) :
    ((((((((w.setCell ⟨q, 1, none⟩ k).setCell ⟨q, 2, none⟩ s).setCell ⟨q, 3, none⟩ n).setCell ⟨q, 4, none⟩ ln).setCell ⟨q, 5, none⟩ a).setCell ⟨q, 6, none⟩ e).setCell ⟨q, 7, none⟩ er).setCell ⟨q, 8, none⟩ fl).heap[q]? = some (.cells (pcells T R p') 104 (0, 0)) := by
  subst hk hs hn hln ha he her hfl
  have := heap_set (heap_set (heap_set (heap_set (heap_set (heap_set (heap_set (heap_set h 1 (.int .u8 (p'.k : Int))) 2 (.string (strOf p'.s))) 3 (.int .i64 (p'.n : Int))) 4 (.int .i64 (p'.ln : Int))) 5 (.int .i64 (p'.a : Int))) 6 (.int .i64 (p'.e : Int))) 7 (.int .i64 (p'.er : Int))) 8 (.int .i64 (p'.fl : Int))
  rw [this]
  unfold pcells
  rw [hg]
  simp
theorem Kp.setWF {a : World} {k s n ln a' e er fl : Value} (h : Kp q a w) : Kp q a ((((((((w.setCell ⟨q, 1, none⟩ k).setCell ⟨q, 2, none⟩ s).setCell ⟨q, 3, none⟩ n).setCell ⟨q, 4, none⟩ ln).setCell ⟨q, 5, none⟩ a').setCell ⟨q, 6, none⟩ e).setCell ⟨q, 7, none⟩ er).setCell ⟨q, 8, none⟩ fl) :=
  (((((((h.set rfl _).set rfl _).set rfl _).set rfl _).set rfl _).set rfl _).set rfl _).set rfl _
set_option maxRecDepth 100000 in
set_option maxHeartbeats 1600000 in
theorem step_any (ht : TxtOk w0 T) (h : Cx w0 T R q w p) : Calls Tryz.prog 110 #[at0 q] w fun e w' => e = .returned (.tuple #[]) ∧ Cx w0 T R q w' (p.step T) ∧ Kp q w w' := by
  have HN := Lib.hid (ht.next p)
  have HOK := Lib.hid (ht.ok p)
  obtain ⟨⟨c0, -, -, -, -, -, c6, -⟩, -⟩ := box11 h.hp
  have HC := Lib.hid h
  have h0 := h
  have hq := h.lt
  have HG : Hid ((p.step T).g = p.g) := Lib.hid (by unfold Pst.step; split <;> (try split) <;> (try split) <;> rfl)
  clear h ht
  obtain ⟨P, hP⟩ : ∃ P, Hid (p.step T = P) := ⟨_, Lib.hid rfl⟩
  rw [hP.out] at HN HG HOK ⊢
  unfold wordV fltV at HN
  unfold at0
  go_enter Tryz.func110, Tryz.ntmps110
  go_wp2_with fail
  go_cut [2, 3] (fun a b wx => StepW w0 T R q p w P a b wx)
  have hqa : ¬ q = w.heap.size := by omega
  have hqb : ¬ w.heap.size = q := by omega
  have hqc : ¬ q = w.heap.size + 1 := by omega
  have hqd : ¬ w.heap.size + 1 = q := by omega
  case first =>
    go_region_held3 (fun w' => w'.cell? ⟨q, 0, none⟩ = some (.string (strOf T)) ∧ w'.cell? ⟨q, 6, none⟩ = some (.int .i64 (p.e : Int))) (go_keep)
      (first
        | (go_at_call 172
           refine (HN.out _ HC.out.drew.hb).mono ?_
           rintro e w1 ⟨rfl, hb⟩
           have hb' : Below w.heap.size w w1 := of_drew hb
           have HC1 := Lib.hid (HC.out.below hb')
           obtain ⟨⟨d0, -, -, -, -, -, d6, -⟩, -⟩ := box11 HC1.out.hp
           clear hb)
        | (go_at_call 172
           refine (HN.out _ (HC.out.alloc _).drew.hb).mono ?_
           rintro e w1 ⟨rfl, hb⟩
           have hb' := of_drew hb
           have HC1 := Lib.hid ((HC.out.alloc _).below hb')
           obtain ⟨⟨d0, -, -, -, -, -, d6, -⟩, -⟩ := box11 HC1.out.hp
           have q1 := heap_below (heap_new w _) hb'
           have n1 := lt_heap q1
           have n2 : ¬ w.heap.size = w1.heap.size := by omega
           have n3 : ¬ w1.heap.size = w.heap.size := by omega
           first
             | obtain ⟨⟨y0, y1, y2, y3, y4, y5⟩, z0, z1, z2, z3, z4, z5⟩ := bx6 q1
             | obtain ⟨⟨y0, y1⟩, z0, z1⟩ := bx2 q1
           clear hb)
        | (go_at_call 172
           refine (HN.out _ ((HC.out.alloc _).alloc _).drew.hb).mono ?_
           rintro e w1 ⟨rfl, hb⟩
           have hb' := of_drew hb
           have HC1 := Lib.hid (((HC.out.alloc _).alloc _).below hb')
           obtain ⟨⟨d0, -, -, -, -, -, d6, -⟩, -⟩ := box11 HC1.out.hp
           have q1 := heap_below (heap_old (heap_new w _) _) hb'
           have q2 := heap_below (heap_new' _ _ (w.heap.size + 1) (by simp)) hb'
           have n1 := lt_heap q1
           have n2 := lt_heap q2
           first
             | (obtain ⟨⟨y0, y1, y2, y3, y4, y5⟩, z0, z1, z2, z3, z4, z5⟩ := bx6 q1
                obtain ⟨⟨r0, r1⟩, s0, s1⟩ := bx2 q2)
             | (obtain ⟨⟨y0, y1, y2, y3, y4, y5⟩, z0, z1, z2, z3, z4, z5⟩ := bx6 q2
                obtain ⟨⟨r0, r1⟩, s0, s1⟩ := bx2 q1)
           clear hb)
        | (fail))
    all_goals
      go_wp2_with fail
      go_meet
      case rel =>
        have HM : Mid w0 T R q p w w1 := by
          first
            | exact (Mid.start HC.out).below hb'
            | exact ((Mid.start HC.out).alloc _).below hb'
            | exact (((Mid.start HC.out).alloc _).alloc _).below hb'
        first
          | with_reducible exact sw1 HC.out HM
          | with_reducible exact sw2 HC.out HM
          | with_reducible exact sw3 HC.out HM (Nat.le_refl _) q1
          | with_reducible exact sw5 HC.out HM (Nat.le_refl _) q1
          | with_reducible exact sw4 HC.out HM (by omega) (by omega) (by omega) q1 q2
          | with_reducible exact sw4 HC.out HM (by omega) (by omega) (by omega) q2 q1
  case rest =>
    clear c0 c6
    obtain ⟨g1, g2, rfl, rfl, n1, n2, Q1, Q2, M⟩ := hcut
    obtain ⟨⟨y0, y1, y2, y3, y4, y5⟩, -⟩ := bx6 Q1
    obtain ⟨⟨x0, x1⟩, -⟩ := bx2 Q2
    have HM := Lib.hid M
    obtain ⟨⟨-, c1, c2, c3, c4, c5, c6, c7, c8, -⟩, -, f1, f2, f3, f4, f5, f6, f7, f8, -⟩ := box11 M.c.hp
    have hlt := M.c.lt
    have m1 : ¬ q = g1 := fun e => n1 e.symm
    have m2 : ¬ q = g2 := fun e => n2 e.symm
    clear M Q1 Q2 HN HC
    go_wp2_with fail
    go_region
    go_end0
    have HK := HM.out.k.setWF (k := .int .u8 (P.k : Int)) (s := .string (strOf P.s)) (n := .int .i64 (P.n : Int)) (ln := .int .i64 (P.ln : Int)) (a' := .int .i64 (P.a : Int)) (e := .int .i64 (P.e : Int)) (er := .int .i64 (P.er : Int)) (fl := .int .i64 (P.fl : Int))
    have HH := setWF (p' := P) HM.out.c.hp HG.out rfl rfl rfl rfl rfl rfl rfl rfl
    exact ⟨rfl, (h0.on HK HH HOK.out).drew, HK.drew⟩
end
end Go.Proofs.YteacmanbiamhoaaGreatDoor
