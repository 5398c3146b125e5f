/- droverref04: the document's disk: the walks. -/
import Derived.Test.YtjcefnlidophoaaDk
import Derived.BigGuardPart
import Derived.BigQuiet
import Derived.Deep.DeepCutAuto
namespace Go.Proofs.Ytjcefnlidophoaa
open Go.RowKit

/-- The number that tells when the power fails. -/
def Pd.num (d : Pd) : Int := if d.armed = true then (d.left : Int) else -1
/-- The value v reads as the disk d. -/
def Rf (w : World) (v : Value) (d : Pd) : Prop := d.Ok ∧ ∃ A c, v = .agg #[.int .i64 (d.most : Int), .slice A d.bs.length c, .int .i64 (d.syn : Int), .int .i64 d.num, .bool d.down] ∧ Bs w (.slice A d.bs.length c) d.bs
section
variable {w w' : World} {v : Value} {d : Pd}
theorem Rf.below (h : Rf w v d) (hb : Below w.heap.size w w') : Rf w' v d := by
  obtain ⟨h1, A, c, rfl, h2⟩ := h
  exact ⟨h1, A, c, rfl, h2.below hb⟩
end
theorem box5 {w : World} {g : Nat} {y0 y1 y2 y3 y4 : Value} {T : TypeId} (h : w.heap[g]? = some (.cells #[y0, y1, y2, y3, y4] T (0, 0))) :
    (w.cell? ⟨g, 0, none⟩ = some y0 ∧ w.cell? ⟨g, 1, none⟩ = some y1 ∧ w.cell? ⟨g, 2, none⟩ = some y2 ∧ w.cell? ⟨g, 3, none⟩ = some y3 ∧ w.cell? ⟨g, 4, none⟩ = some y4) ∧
    (w.frozen? ⟨g, 0, none⟩ = false ∧ w.frozen? ⟨g, 1, none⟩ = false ∧ w.frozen? ⟨g, 2, none⟩ = false ∧ w.frozen? ⟨g, 3, none⟩ = false ∧ w.frozen? ⟨g, 4, none⟩ = false) :=
  ⟨⟨cell_block h 0, cell_block h 1, cell_block h 2, cell_block h 3, cell_block h 4⟩, free_block h 0, free_block h 1, free_block h 2, free_block h 3, free_block h 4⟩
/-- All five cells of a struct that a block holds are stored. -/
theorem set5 {w : World} {g : Nat} {y0 y1 y2 y3 y4 : Value} {T : TypeId} {fr : Nat × Nat} (h : w.heap[g]? = some (.cells #[y0, y1, y2, y3, y4] T fr)) (z0 z1 z2 z3 z4 : Value) :
    (((((w.setCell ⟨g, 0, none⟩ z0).setCell ⟨g, 1, none⟩ z1).setCell ⟨g, 2, none⟩ z2).setCell ⟨g, 3, none⟩ z3).setCell ⟨g, 4, none⟩ z4).heap[g]? = some (.cells #[z0, z1, z2, z3, z4] T fr) :=
  heap_set (heap_set (heap_set (heap_set (heap_set h 0 z0) 1 z1) 2 z2) 3 z3) 4 z4
theorem Own.setLow {w : World} {B g : Nat} {v : Value} {l : List Nat} (h : Own w B v l) (hg : g < B) (i : Nat) (u : Value) : Own (w.setCell ⟨g, i, none⟩ u) B v l :=
  own_kr (r := none) h ((Kr.refl g _ _).set i u) (fun e => by have := (own_row h e).1; omega) (by simp)
theorem Own.set5 {w : World} {B g : Nat} {v : Value} {l : List Nat} (h : Own w B v l) (hg : g < B) (z0 z1 z2 z3 z4 : Value) : Own (((((w.setCell ⟨g, 0, none⟩ z0).setCell ⟨g, 1, none⟩ z1).setCell ⟨g, 2, none⟩ z2).setCell ⟨g, 3, none⟩ z3).setCell ⟨g, 4, none⟩ z4) B v l :=
  ((((h.setLow hg _ _).setLow hg _ _).setLow hg _ _).setLow hg _ _).setLow hg _ _
theorem bel5 {w W : World} {B g : Nat} (h : Below B w W) (hg : B ≤ g) (z0 z1 z2 z3 z4 : Value) : Below B w (((((W.setCell ⟨g, 0, none⟩ z0).setCell ⟨g, 1, none⟩ z1).setCell ⟨g, 2, none⟩ z2).setCell ⟨g, 3, none⟩ z3).setCell ⟨g, 4, none⟩ z4) :=
  ((((h.setCell hg _).setCell hg _).setCell hg _).setCell hg _).setCell hg _
theorem res2 {fn : Func} {k m : Tmp} (hf : fn.results = #[.cell k 62, .tmp m]) {R : Ending → World → Prop} {X : World} {g : Nat} {z0 z1 z2 z3 z4 u : Value} {T : TypeId} {a : Act} (q : X.heap[g]? = some (.cells #[z0, z1, z2, z3, z4] T (0, 0)))
    (h2 : a.tmps[k]?.getD undef = .pointer (some ⟨g, 0, none⟩)) (h3 : a.tmps[m]?.getD undef = u) (hd : a.defers = []) (hR : R (.returned (.tuple #[.agg #[z0, z1, z2, z3, z4], u])) X) : bodyPost Try.prog fn R .ret a X := by
  obtain ⟨⟨c0, c1, c2, c3, c4⟩, -⟩ := box5 q
  exact bodyPost_ret (by simp [results, hf, go_sem, h2, h3, c0, c1, c2, c3, c4]) hd hR
theorem res1 {fn : Func} {k : Tmp} (hf : fn.results = #[.cell k 62]) {R : Ending → World → Prop} {X : World} {g : Nat} {z0 z1 z2 z3 z4 : Value} {T : TypeId} {a : Act} (q : X.heap[g]? = some (.cells #[z0, z1, z2, z3, z4] T (0, 0)))
    (h2 : a.tmps[k]?.getD undef = .pointer (some ⟨g, 0, none⟩)) (hd : a.defers = []) (hR : R (.returned (.agg #[z0, z1, z2, z3, z4])) X) : bodyPost Try.prog fn R .ret a X := by
  obtain ⟨⟨c0, c1, c2, c3, c4⟩, -⟩ := box5 q
  exact bodyPost_ret (by simp [results, hf, go_sem, h2, c0, c1, c2, c3, c4]) hd hR
/-- The value v' reads as the disk d'; its bytes are those of A, c, or new ones. -/
def Rv (w w' : World) (A : Option Addr) (c : Nat) (d d' : Pd) (v' : Value) : Prop := d'.Ok ∧ ∃ A' c', v' = .agg #[.int .i64 (d'.most : Int), .slice A' d'.bs.length c', .int .i64 (d'.syn : Int), .int .i64 d'.num, .bool d'.down] ∧
  ((A' = A ∧ c' = c ∧ d'.bs = d.bs) ∨ Own w' w.heap.size (.slice A' d'.bs.length c') d'.bs)
/-- What a call of the document's disk answers. -/
def RfP (w : World) (A : Option Addr) (c : Nat) (d d' : Pd) (u : Value) (e : Ending) (w' : World) : Prop := ∃ v', e = .returned (.tuple #[v', u]) ∧ Rv w w' A c d d' v' ∧ Below w.heap.size w w'
def Rf1 (w : World) (A : Option Addr) (c : Nat) (d d' : Pd) (e : Ending) (w' : World) : Prop := ∃ v', e = .returned v' ∧ Rv w w' A c d d' v' ∧ Below w.heap.size w w'
set_option maxRecDepth 100000 in
set_option maxHeartbeats 1000000 in
theorem refop_not (A : Option Addr) (c : Nat) (d : Pd) (w : World) (ha : d.armed = true) (h0 : d.left = 0) :
    Calls Try.prog 121 #[.agg #[.int .i64 (d.most : Int), .slice A d.bs.length c, .int .i64 (d.syn : Int), .int .i64 d.num, .bool d.down]] w fun e w' =>
      e = .returned (.tuple #[.agg #[.int .i64 (d.most : Int), .slice A d.bs.length c, .int .i64 (d.syn : Int), .int .i64 (-1), .bool true], .bool false]) ∧ Below w.heap.size w w' := by
  have hn : d.num = 0 := by unfold Pd.num; rw [if_pos ha, h0]; rfl
  rw [hn]
  clear ha h0 hn
  go_enter Try.func121, Try.ntmps121
  go_wp2_with fail
  refine res2 rfl (heap_new' _ _ _ (by simp)) rfl rfl rfl ?_
  exact ⟨rfl, two _ _ _⟩
set_option maxRecDepth 100000 in
set_option maxHeartbeats 1000000 in
theorem refop_ok (A : Option Addr) (c : Nat) (d : Pd) (w : World) (hl : d.left ≤ 9223372036854775807) (ha : ¬ (d.armed = true ∧ d.left = 0)) :
    Calls Try.prog 121 #[.agg #[.int .i64 (d.most : Int), .slice A d.bs.length c, .int .i64 (d.syn : Int), .int .i64 d.num, .bool d.down]] w fun e w' =>
      e = .returned (.tuple #[.agg #[.int .i64 (d.most : Int), .slice A d.bs.length c, .int .i64 (d.syn : Int), .int .i64 d.less.num, .bool d.down], .bool true]) ∧ Below w.heap.size w w' := by
  cases h1 : d.armed with
  | false =>
    have hless : d.less = d := by unfold Pd.less; rw [if_neg (by rw [h1]; decide)]
    have hn : d.num = -1 := by unfold Pd.num; rw [if_neg (by rw [h1]; decide)]
    rw [hless, hn]
    clear hless hn h1 ha
    go_enter Try.func121, Try.ntmps121
    go_wp2_with fail
    refine res2 rfl (heap_new' _ _ _ (by simp)) rfl rfl rfl ?_
    exact ⟨rfl, two _ _ _⟩
  | true =>
    have h0 : d.left ≠ 0 := fun h0 => ha ⟨h1, h0⟩
    have hn : d.num = (d.left : Int) := by unfold Pd.num; rw [if_pos h1]
    have hne : ((d.left : Int) == 0) = false := beq_eq_false_iff_ne.2 (by omega)
    have hgt : decide ((0 : Int) < (d.left : Int)) = true := decide_eq_true (by omega)
    have hs : IntKind.i64.wrap ((d.left : Int) - 1) = ((d.left - 1 : Nat) : Int) := by rw [IntKind.wrap_i64]; omega
    have hless : d.less = { d with left := d.left - 1 } := by unfold Pd.less; rw [if_pos h1]
    have hn' : d.less.num = ((d.left - 1 : Nat) : Int) := by rw [hless]; unfold Pd.num; rw [if_pos h1]
    rw [hn, hn']
    clear hless hn hn' ha
    go_enter Try.func121, Try.ntmps121
    go_wp2_with fail
    refine res2 rfl (heap_new' _ _ _ (by simp)) rfl rfl rfl ?_
    exact ⟨rfl, two _ _ _⟩
set_option maxRecDepth 100000 in
set_option maxHeartbeats 1000000 in
theorem reffirst_any (A : Option Addr) (c : Nat) (d : Pd) (n : Nat) (w : World) (hok : d.Ok) (hv : Bs w (.slice A d.bs.length c) d.bs) (hn : n ≤ d.bs.length) :
    Calls Try.prog 118 #[.agg #[.int .i64 (d.most : Int), .slice A d.bs.length c, .int .i64 (d.syn : Int), .int .i64 d.num, .bool d.down], .int .i64 (n : Int)] w fun e w' => ∃ A' c', e = .returned (.agg #[.int .i64 (d.most : Int), .slice A' n c', .int .i64 (n : Int), .int .i64 d.num, .bool d.down]) ∧ Own w' w.heap.size (.slice A' n c') (d.bs.take n) ∧ Below w.heap.size w w' := by
  obtain ⟨W, hW⟩ : ∃ W : World, W = (w.alloc (.cells #[.int .i64 (d.most : Int), .slice A d.bs.length c, .int .i64 (d.syn : Int), .int .i64 d.num, .bool d.down] 62)).alloc (.cells #[.int .i64 0, .slice none 0 0, .int .i64 0, .int .i64 0, .bool false] 62) := ⟨_, rfl⟩
  have hbW : Below w.heap.size w W := by rw [hW]; exact two _ _ _
  have q1 : W.heap[w.heap.size]? = some (.cells #[.int .i64 (d.most : Int), .slice A d.bs.length c, .int .i64 (d.syn : Int), .int .i64 d.num, .bool d.down] 62 (0, 0)) := by rw [hW]; exact heap_old (heap_new _ _) _
  have q2 : W.heap[w.heap.size + 1]? = some (.cells #[.int .i64 0, .slice none 0 0, .int .i64 0, .int .i64 0, .bool false] 62 (0, 0)) := by rw [hW]; exact heap_new' _ _ _ (by simp)
  have hpre := (hv.below hbW).pre n hn
  obtain ⟨hpl, hpc, hpa, hp8⟩ := hpre.parts
  have hm := hok.most
  have hlen := hok.len
  have hcl : d.bs.length ≤ c := (hv.parts).2.1
  go_enter Try.func118, Try.ntmps118
  go_wp2_with (at_builtin
               show wpList _ _ _ _ _ ((w.alloc (.cells #[.int .i64 (d.most : Int), .slice A d.bs.length c, .int .i64 (d.syn : Int), .int .i64 d.num, .bool d.down] 62)).alloc (.cells #[.int .i64 0, .slice none 0 0, .int .i64 0, .int .i64 0, .bool false] 62))
               rw [← hW]
               refine wpList_app rfl (.tmp 6) (.tmp 10) rfl rfl (Own.nil W W.heap.size) rfl hpa hpl (by simp; omega) (Nat.le_refl _) ?_
               intro v3 w3 hown3 hb3 hg3 _
               have q1' := heap_below q1 hb3
               have q2' := heap_below q2 hb3
               obtain ⟨⟨c0, c1, c2, c3, c4⟩, ⟨f0, f1, f2, f3, f4⟩⟩ := box5 q1'
               obtain ⟨⟨d0, d1, d2, d3, d4⟩, ⟨g0, g1, g2, g3, g4⟩⟩ := box5 q2'
               obtain ⟨A3, c3', rfl, hc3, -, -, -, -⟩ := id hown3.form
               have hl3 : ([] ++ d.bs.take n).length = n := hpl
               rw [hl3] at hown3)
  rw [List.nil_append] at hown3
  have hb4 : Below w.heap.size w w3 := hbW.trans (hb3.mono hbW.size)
  refine res1 rfl (set5 (heap_set_ne (heap_set_ne q2' (by omega) 1 _) (by omega) 2 _) _ _ _ _ _) rfl rfl ?_
  have hbZ := bel5 (g := w.heap.size + 1) ((hb4.setCell (p := ⟨w.heap.size, 1, none⟩) (Nat.le_refl _) (.slice A3 n c3')).setCell (p := ⟨w.heap.size, 2, none⟩) (Nat.le_refl _) (.int .i64 (n : Int))) (by omega) (.int .i64 (d.most : Int)) (.slice A3 n c3') (.int .i64 (n : Int)) (.int .i64 d.num) (.bool d.down)
  have hs1 : w.heap.size < W.heap.size := lt_heap q1
  have hs2 : w.heap.size + 1 < W.heap.size := lt_heap q2
  have hoZ := ((hown3.setLow hs1 1 (.slice A3 n c3')).setLow hs1 2 (.int .i64 (n : Int))).set5 hs2 (.int .i64 (d.most : Int)) (.slice A3 n c3') (.int .i64 (n : Int)) (.int .i64 d.num) (.bool d.down)
  exact ⟨A3, c3', rfl, hoZ.mono hbW.size, hbZ⟩
set_option maxRecDepth 100000 in
set_option maxHeartbeats 1000000 in
theorem refnew_any (m : Nat) (hm : m ≤ 67108864) (w : World) : Calls Try.prog 31 #[.int .i64 (m : Int)] w (RfP w none 0 (.new m) (.new m) (.int .i64 0)) := by
  have t0 : decide ((m : Int) < 0) = false := decide_eq_false (by omega)
  have t1 : decide ((67108864 : Int) < (m : Int)) = false := decide_eq_false (by omega)
  go_enter Try.func31, Try.ntmps31
  go_wp2_with fail
  refine res2 rfl (heap_new w _) rfl rfl rfl ?_
  exact ⟨_, rfl, ⟨.new hm, none, 0, rfl, .inl ⟨rfl, rfl, rfl⟩⟩, (Below.refl _ _).alloc (Nat.le_refl _) _⟩
def RnP (w : World) (e : Ending) (w' : World) : Prop := e = .returned (.tuple #[.agg #[.int .i64 0, .slice none 0 0, .int .i64 0, .int .i64 0, .bool false], .int .i64 2]) ∧ Below w.heap.size w w'
theorem refnew_not (z : Int) (h : z < 0 ∨ 67108864 < z) (w : World) : Calls Try.prog 31 #[.int .i64 z] w (RnP w) := by
  by_cases h0 : z < 0
  · have t0 : decide (z < 0) = true := decide_eq_true (by omega)
    go_enter Try.func31, Try.ntmps31
    go_wp2_with fail
    refine res2 rfl (heap_new w _) rfl rfl rfl ?_
    exact ⟨rfl, (Below.refl _ _).alloc (Nat.le_refl _) _⟩
  · have t0 : decide (z < 0) = false := decide_eq_false (by omega)
    have h2 : 67108864 < z := by omega
    have t1 : decide ((67108864 : Int) < z) = true := decide_eq_true h2
    clear h
    go_enter Try.func31, Try.ntmps31
    go_wp2_with fail
    refine res2 rfl (heap_new w _) rfl rfl rfl ?_
    exact ⟨rfl, (Below.refl _ _).alloc (Nat.le_refl _) _⟩
set_option maxRecDepth 100000 in
set_option maxHeartbeats 1000000 in
theorem refarm_any (A : Option Addr) (c : Nat) (d : Pd) (n : Int) (hn : n ≤ 9223372036854775807) (w : World) (hok : d.Ok) :
    Calls Try.prog 39 #[.agg #[.int .i64 (d.most : Int), .slice A d.bs.length c, .int .i64 (d.syn : Int), .int .i64 d.num, .bool d.down], .int .i64 n] w (Rf1 w A c d (d.arm n)) := by
  have hA := hok.arm hn
  cases hd : d.down with
  | true =>
    have ea : d.arm n = d := by unfold Pd.arm; rw [if_pos hd]
    rw [ea]
    go_enter Try.func39, Try.ntmps39
    go_wp2_with fail
    refine res1 rfl (heap_new' _ _ _ (by simp)) rfl rfl ?_
    exact ⟨_, rfl, ⟨hok, A, c, by rw [hd], .inl ⟨rfl, rfl, rfl⟩⟩, two _ _ _⟩
  | false =>
    have ea : d.arm n = { d with armed := true, left := n.toNat } := by unfold Pd.arm; rw [if_neg (by rw [hd]; decide)]
    have en : (d.arm n).num = (n.toNat : Int) := by rw [ea]; rfl
    have EA := Lib.hid ea
    have EN := Lib.hid en
    have HA := Lib.hid hA
    clear ea en hA
    by_cases h0 : n < 0
    · have t0 : decide (n < 0) = true := decide_eq_true (by omega)
      have e0 : (n.toNat : Int) = 0 := by omega
      go_enter Try.func39, Try.ntmps39
      go_wp2_with fail
      refine res1 rfl (heap_new' _ _ _ (by simp)) rfl rfl ?_
      exact ⟨_, rfl, ⟨HA.out, A, c, by rw [EN.out, e0, EA.out, hd], .inl ⟨rfl, rfl, by rw [EA.out]⟩⟩, two _ _ _⟩
    · have t0 : decide (n < 0) = false := decide_eq_false (by omega)
      have e0 : (n.toNat : Int) = n := by omega
      go_enter Try.func39, Try.ntmps39
      go_wp2_with fail
      refine res1 rfl (heap_new' _ _ _ (by simp)) rfl rfl ?_
      exact ⟨_, rfl, ⟨HA.out, A, c, by rw [EN.out, e0, EA.out, hd], .inl ⟨rfl, rfl, by rw [EA.out]⟩⟩, two _ _ _⟩

/-- Behind the stores into the two cells of a call: the result's, and that nothing else was written. -/
theorem ten {w w3 : World} {g : Nat} {y0 y1 y2 y3 y4 : Value} {T : TypeId} (hb : Below g w w3) (q : w3.heap[g + 1]? = some (.cells #[y0, y1, y2, y3, y4] T (0, 0))) (x0 x1 x2 x3 x4 z0 z1 z2 z3 z4 : Value) :
    (((((((((((w3.setCell ⟨g, 0, none⟩ x0).setCell ⟨g, 1, none⟩ x1).setCell ⟨g, 2, none⟩ x2).setCell ⟨g, 3, none⟩ x3).setCell ⟨g, 4, none⟩ x4).setCell ⟨g + 1, 0, none⟩ z0).setCell ⟨g + 1, 1, none⟩ z1).setCell ⟨g + 1, 2, none⟩ z2).setCell ⟨g + 1, 3, none⟩ z3).setCell ⟨g + 1, 4, none⟩ z4).heap[g + 1]? = some (.cells #[z0, z1, z2, z3, z4] T (0, 0))) ∧
    Below g w ((((((((((w3.setCell ⟨g, 0, none⟩ x0).setCell ⟨g, 1, none⟩ x1).setCell ⟨g, 2, none⟩ x2).setCell ⟨g, 3, none⟩ x3).setCell ⟨g, 4, none⟩ x4).setCell ⟨g + 1, 0, none⟩ z0).setCell ⟨g + 1, 1, none⟩ z1).setCell ⟨g + 1, 2, none⟩ z2).setCell ⟨g + 1, 3, none⟩ z3).setCell ⟨g + 1, 4, none⟩ z4) :=
  ⟨set5 (heap_set_ne (heap_set_ne (heap_set_ne (heap_set_ne (heap_set_ne q (by omega) 0 _) (by omega) 1 _) (by omega) 2 _) (by omega) 3 _) (by omega) 4 _) _ _ _ _ _, bel5 (bel5 hb (Nat.le_refl _) _ _ _ _ _) (by omega) _ _ _ _ _⟩
theorem five {w w3 : World} {g : Nat} {y0 y1 y2 y3 y4 : Value} {o : Obj} {T : TypeId} (hb : Below g w w3) (p : w3.heap[g]? = some (.cells #[y0, y1, y2, y3, y4] T (0, 0))) (q : w3.heap[g + 1]? = some o) (x0 x1 x2 x3 x4 : Value) :
    ∃ X, X = ((((w3.setCell ⟨g, 0, none⟩ x0).setCell ⟨g, 1, none⟩ x1).setCell ⟨g, 2, none⟩ x2).setCell ⟨g, 3, none⟩ x3).setCell ⟨g, 4, none⟩ x4 ∧ X.heap[g]? = some (.cells #[x0, x1, x2, x3, x4] T (0, 0)) ∧ X.heap[g + 1]? = some o ∧ Below g w X :=
  ⟨_, rfl, set5 p _ _ _ _ _, heap_set_ne (heap_set_ne (heap_set_ne (heap_set_ne (heap_set_ne q (by omega) 0 _) (by omega) 1 _) (by omega) 2 _) (by omega) 3 _) (by omega) 4 _, bel5 hb (Nat.le_refl _) _ _ _ _ _⟩
set_option maxRecDepth 100000 in
set_option maxHeartbeats 1000000 in
theorem refsync_any (A : Option Addr) (c : Nat) (d : Pd) (w : World) (hok : d.Ok) :
    Calls Try.prog 114 #[.agg #[.int .i64 (d.most : Int), .slice A d.bs.length c, .int .i64 (d.syn : Int), .int .i64 d.num, .bool d.down]] w (RfP w A c d d.sync.1 (.int .i64 (d.sync.2 : Int))) := by
  have hokr := hok.sync
  have hl := hok.left
  obtain ⟨W, hW⟩ : ∃ W : World, W = (w.alloc (.cells #[.int .i64 (d.most : Int), .slice A d.bs.length c, .int .i64 (d.syn : Int), .int .i64 d.num, .bool d.down] 62)).alloc (.cells #[.int .i64 0, .slice none 0 0, .int .i64 0, .int .i64 0, .bool false] 62) := ⟨_, rfl⟩
  have hbW : Below w.heap.size w W := by rw [hW]; exact two _ _ _
  have q1 : W.heap[w.heap.size]? = some (.cells #[.int .i64 (d.most : Int), .slice A d.bs.length c, .int .i64 (d.syn : Int), .int .i64 d.num, .bool d.down] 62 (0, 0)) := by rw [hW]; exact heap_old (heap_new _ _) _
  have q2 : W.heap[w.heap.size + 1]? = some (.cells #[.int .i64 0, .slice none 0 0, .int .i64 0, .int .i64 0, .bool false] 62 (0, 0)) := by rw [hW]; exact heap_new' _ _ _ (by simp)
  cases hd : d.down with
  | true =>
    have es : d.sync = (d, 15) := by unfold Pd.sync; rw [if_pos hd]
    have ES := Lib.hid es
    rw [hd] at hW q1
    clear es
    go_enter Try.func114, Try.ntmps114
    go_wp2_with fail
    refine res2 rfl (heap_new' _ _ _ (by simp)) rfl rfl rfl ?_
    rw [ES.out]
    exact ⟨_, rfl, ⟨hok, A, c, by rw [hd], .inl ⟨rfl, rfl, rfl⟩⟩, two _ _ _⟩
  | false =>
    by_cases ha : d.armed = true ∧ d.left = 0
    · have es : d.sync = (d.fails, 15) := by unfold Pd.sync Pd.op; rw [if_neg (by rw [hd]; decide), if_pos ha]
      have ES := Lib.hid es
      have hop := refop_not A c d W ha.1 ha.2
      rw [hd] at hW q1 hop
      rw [es] at hokr
      clear es
      go_enter Try.func114, Try.ntmps114
      go_wp2_with fail
      rw [← hW]
      refine hop.mono ?_
      rintro e w3 ⟨rfl, hb3⟩
      obtain ⟨⟨k0, k1, k2, k3, k4⟩, ⟨f0, f1, f2, f3, f4⟩⟩ := box5 (heap_below q1 hb3)
      have q2' := heap_below q2 hb3
      obtain ⟨⟨d0, d1, d2, d3, d4⟩, ⟨g0, g1, g2, g3, g4⟩⟩ := box5 q2'
      clear hop hW
      go_wp2_with fail
      have ht := ten (hbW.trans (hb3.mono hbW.size)) q2'
      refine res2 rfl (ht _ _ _ _ _ _ _ _ _ _).1 rfl rfl rfl ?_
      rw [ES.out]
      exact ⟨_, rfl, ⟨hokr, A, c, rfl, .inl ⟨rfl, rfl, rfl⟩⟩, (ht _ _ _ _ _ _ _ _ _ _).2⟩
    · have es : d.sync = (d.less.all, 0) := by unfold Pd.sync Pd.op; rw [if_neg (by rw [hd]; decide), if_neg ha]
      have hop := refop_ok A c d W hl ha
      have e1 : (.agg #[.int .i64 (d.most : Int), .slice A d.bs.length c, .int .i64 (d.bs.length : Int), .int .i64 d.less.num, .bool false] : Value) = .agg #[.int .i64 (d.less.all.most : Int), .slice A d.less.all.bs.length c, .int .i64 (d.less.all.syn : Int), .int .i64 d.less.all.num, .bool d.less.all.down] := by
        show _ = Value.agg #[.int .i64 (d.less.most : Int), .slice A d.less.bs.length c, .int .i64 (d.less.bs.length : Int), .int .i64 d.less.num, .bool d.less.down]
        rw [d.less_most, d.less_bs, d.less_down, hd]
      have e2 : d.less.all.bs = d.bs := d.less_bs
      have E1 := Lib.hid e1
      have E2 := Lib.hid e2
      have ES := Lib.hid es
      rw [hd] at hW q1 hop
      rw [es] at hokr
      clear es ha hd e1 e2
      generalize hN : d.less.num = N at *
      have HN := Lib.hid hN
      clear hN
      go_enter Try.func114, Try.ntmps114
      go_wp2_with fail
      rw [← hW]
      refine hop.mono ?_
      rintro e w3 ⟨rfl, hb3⟩
      obtain ⟨⟨k0, k1, k2, k3, k4⟩, ⟨f0, f1, f2, f3, f4⟩⟩ := box5 (heap_below q1 hb3)
      obtain ⟨X, hX, x1, x2, hbX⟩ := five (hbW.trans (hb3.mono hbW.size)) (heap_below q1 hb3) (heap_below q2 hb3) (.int .i64 (d.most : Int)) (.slice A d.bs.length c) (.int .i64 (d.syn : Int)) (.int .i64 N) (.bool false)
      clear hop hW
      go_upto_if 14 with (fail)
      rw [← hX]
      clear hX k0 k1 k2 k3 k4 f0 f1 f2 f3 f4 q1 q2 hb3 hbW
      obtain ⟨⟨k0, k1, k2, k3, k4⟩, ⟨f0, f1, f2, f3, f4⟩⟩ := box5 x1
      obtain ⟨⟨d0, d1, d2, d3, d4⟩, ⟨g0, g1, g2, g3, g4⟩⟩ := box5 x2
      go_wp2_with fail
      have q := heap_set_ne x2 (show w.heap.size + 1 ≠ w.heap.size by omega) 2 (.int .i64 (d.bs.length : Int))
      have hbZ := hbX.setCell (p := ⟨w.heap.size, 2, none⟩) (Nat.le_refl _) (.int .i64 (d.bs.length : Int))
      refine res2 rfl (set5 q _ _ _ _ _) rfl rfl rfl ?_
      have hbY := fun z0 z1 z2 z3 z4 => bel5 (g := w.heap.size + 1) hbZ (by omega) z0 z1 z2 z3 z4
      rw [ES.out]
      exact ⟨_, rfl, ⟨hokr, A, c, E1.out, .inl ⟨rfl, rfl, E2.out⟩⟩, hbY _ _ _ _ _⟩
set_option maxRecDepth 100000 in
set_option maxHeartbeats 1000000 in
theorem refcut_any (A : Option Addr) (c : Nat) (d : Pd) (n : Int) (w : World) (hok : d.Ok) (hv : Bs w (.slice A d.bs.length c) d.bs) :
    Calls Try.prog 109 #[.agg #[.int .i64 (d.most : Int), .slice A d.bs.length c, .int .i64 (d.syn : Int), .int .i64 d.num, .bool d.down], .int .i64 n] w (RfP w A c d (d.cut n).1 (.int .i64 ((d.cut n).2 : Int))) := by
  have hokr := hok.cut n
  have hl := hok.left
  obtain ⟨W, hW⟩ : ∃ W : World, W = (w.alloc (.cells #[.int .i64 (d.most : Int), .slice A d.bs.length c, .int .i64 (d.syn : Int), .int .i64 d.num, .bool d.down] 62)).alloc (.cells #[.int .i64 0, .slice none 0 0, .int .i64 0, .int .i64 0, .bool false] 62) := ⟨_, rfl⟩
  have hbW : Below w.heap.size w W := by rw [hW]; exact two _ _ _
  have q1 : W.heap[w.heap.size]? = some (.cells #[.int .i64 (d.most : Int), .slice A d.bs.length c, .int .i64 (d.syn : Int), .int .i64 d.num, .bool d.down] 62 (0, 0)) := by rw [hW]; exact heap_old (heap_new _ _) _
  have q2 : W.heap[w.heap.size + 1]? = some (.cells #[.int .i64 0, .slice none 0 0, .int .i64 0, .int .i64 0, .bool false] 62 (0, 0)) := by rw [hW]; exact heap_new' _ _ _ (by simp)
  cases hd : d.down with
  | true =>
    have es : d.cut n = (d, 15) := by unfold Pd.cut; rw [if_pos hd]
    have ES := Lib.hid es
    rw [hd] at hW q1
    clear es
    go_enter Try.func109, Try.ntmps109
    go_wp2_with fail
    refine res2 rfl (heap_new' _ _ _ (by simp)) rfl rfl rfl ?_
    rw [ES.out]
    exact ⟨_, rfl, ⟨hok, A, c, by rw [hd], .inl ⟨rfl, rfl, rfl⟩⟩, two _ _ _⟩
  | false =>
    have hbad : (n < 0 ∨ (d.bs.length : Int) < n) → Hid (d.cut n = (d, 2)) := by
      intro hc
      show _ = _
      unfold Pd.cut
      rw [if_neg (by rw [hd]; decide), if_pos hc]
    by_cases h0 : n < 0
    · have t0 : decide (n < 0) = true := decide_eq_true h0
      have ES := hbad (.inl h0)
      rw [hd] at hW q1
      clear hbad
      go_enter Try.func109, Try.ntmps109
      go_wp2_with fail
      refine res2 rfl (heap_new' _ _ _ (by simp)) rfl rfl rfl ?_
      rw [ES.out]
      exact ⟨_, rfl, ⟨hok, A, c, by rw [hd], .inl ⟨rfl, rfl, rfl⟩⟩, two _ _ _⟩
    have t0 : decide (n < 0) = false := decide_eq_false h0
    by_cases h1 : (d.bs.length : Int) < n
    · have t1 : decide ((d.bs.length : Int) < n) = true := decide_eq_true h1
      have ES := hbad (.inr h1)
      rw [hd] at hW q1
      clear hbad
      go_enter Try.func109, Try.ntmps109
      go_wp2_with fail
      refine res2 rfl (heap_new' _ _ _ (by simp)) rfl rfl rfl ?_
      rw [ES.out]
      exact ⟨_, rfl, ⟨hok, A, c, by rw [hd], .inl ⟨rfl, rfl, rfl⟩⟩, two _ _ _⟩
    have t1 : decide ((d.bs.length : Int) < n) = false := decide_eq_false h1
    clear hbad
    by_cases ha : d.armed = true ∧ d.left = 0
    · have es : d.cut n = (d.fails, 15) := by unfold Pd.cut Pd.op; rw [if_neg (by rw [hd]; decide), if_neg (by omega), if_pos ha]
      have ES := Lib.hid es
      have hop := refop_not A c d W ha.1 ha.2
      rw [hd] at hW q1 hop
      rw [es] at hokr
      clear es
      go_enter Try.func109, Try.ntmps109
      go_wp2_with fail
      rw [← hW]
      refine hop.mono ?_
      rintro e w3 ⟨rfl, hb3⟩
      obtain ⟨⟨k0, k1, k2, k3, k4⟩, ⟨f0, f1, f2, f3, f4⟩⟩ := box5 (heap_below q1 hb3)
      have q2' := heap_below q2 hb3
      obtain ⟨⟨d0, d1, d2, d3, d4⟩, ⟨g0, g1, g2, g3, g4⟩⟩ := box5 q2'
      clear hop hW
      go_wp2_with fail
      have ht := ten (hbW.trans (hb3.mono hbW.size)) q2'
      refine res2 rfl (ht _ _ _ _ _ _ _ _ _ _).1 rfl rfl rfl ?_
      rw [ES.out]
      exact ⟨_, rfl, ⟨hokr, A, c, rfl, .inl ⟨rfl, rfl, rfl⟩⟩, (ht _ _ _ _ _ _ _ _ _ _).2⟩
    · obtain ⟨m, rfl⟩ : ∃ m : Nat, n = (m : Int) := ⟨n.toNat, by omega⟩
      have es : d.cut (m : Int) = (d.less.leave m, 0) := by unfold Pd.cut Pd.op; rw [if_neg (by rw [hd]; decide), if_neg (by omega), if_neg ha]; rfl
      have hop := refop_ok A c d W hl ha
      have hrf : ∀ w', Below w.heap.size w w' → Bs w' (.slice A d.less.bs.length c) d.less.bs := by rw [d.less_bs]; exact fun _ hb => hv.below hb
      have hvals : (.agg #[.int .i64 (d.most : Int), .slice A d.bs.length c, .int .i64 (d.syn : Int), .int .i64 d.less.num, .bool false] : Value) = .agg #[.int .i64 (d.less.most : Int), .slice A d.less.bs.length c, .int .i64 (d.less.syn : Int), .int .i64 d.less.num, .bool d.less.down] := by rw [d.less_most, d.less_bs, d.less_syn, d.less_down, hd]
      have hokl := hok.less
      have HVA := Lib.hid hvals
      clear hvals
      have hml : m ≤ d.less.bs.length := by rw [d.less_bs]; omega
      have ES := Lib.hid es
      rw [hd] at hW q1 hop
      clear es ha hd
      generalize hN : d.less.num = N at *
      have HN := Lib.hid hN
      clear hN
      generalize d.less = dl at *
      go_enter Try.func109, Try.ntmps109
      go_wp2_with fail
      rw [← hW]
      refine hop.mono ?_
      rintro e w3 ⟨rfl, hb3⟩
      obtain ⟨⟨k0, k1, k2, k3, k4⟩, ⟨f0, f1, f2, f3, f4⟩⟩ := box5 (heap_below q1 hb3)
      obtain ⟨X, hX, x1, x2, hbX⟩ := five (hbW.trans (hb3.mono hbW.size)) (heap_below q1 hb3) (heap_below q2 hb3) (.int .i64 (d.most : Int)) (.slice A d.bs.length c) (.int .i64 (d.syn : Int)) (.int .i64 N) (.bool false)
      clear hop hW
      go_upto_if 26 with (fail)
      rw [← hX]
      clear hX k0 k1 k2 k3 k4 f0 f1 f2 f3 f4 q1 q2 hb3 hbW
      obtain ⟨⟨k0, k1, k2, k3, k4⟩, ⟨f0, f1, f2, f3, f4⟩⟩ := box5 x1
      have hsz := lt_heap x2
      go_wp2_with fail
      rw [HVA.out, ← HN.out]
      refine (reffirst_any A c dl m X hokl (hrf X hbX) hml).mono ?_
      rintro e w4 ⟨A4, c4, rfl, ho4, hb4⟩
      have x2' := heap_below x2 hb4
      obtain ⟨⟨d0, d1, d2, d3, d4⟩, ⟨g0, g1, g2, g3, g4⟩⟩ := box5 x2'
      have h84 : ∀ y ∈ dl.bs.take m, y < 256 := fun y hy => hokl.byte y (List.mem_of_mem_take hy)
      have hok4 := hokl.leave hml
      have hlen4 : (dl.bs.take m).length = m := by simp; omega
      have H8 := Lib.hid h84
      have HK := Lib.hid hok4
      clear hrf h84 hok4 k0 k1 k2 k3 k4 f0 f1 f2 f3 f4
      go_wp2_with fail
      refine res2 rfl (set5 x2' _ _ _ _ _) rfl rfl rfl ?_
      have hbY := fun z0 z1 z2 z3 z4 => bel5 (g := w.heap.size + 1) (hbX.trans (hb4.mono hbX.size)) (by omega) z0 z1 z2 z3 z4
      have hoY := fun z0 z1 z2 z3 z4 => ho4.set5 hsz z0 z1 z2 z3 z4
      rw [ES.out]
      refine ⟨_, rfl, ⟨HK.out, A4, c4, ?_, ?_⟩, hbY _ _ _ _ _⟩
      · show _ = Value.agg #[.int .i64 (dl.most : Int), .slice A4 (dl.bs.take m).length c4, .int .i64 (m : Int), .int .i64 dl.num, .bool dl.down]
        rw [hlen4]
      · refine .inr ?_
        show Own _ _ (.slice A4 (dl.bs.take m).length c4) (dl.bs.take m)
        rw [hlen4]
        exact (hoY _ _ _ _ _).mono hbX.size
set_option maxRecDepth 100000 in
set_option maxHeartbeats 1000000 in
theorem refapp_any (A : Option Addr) (c : Nat) (vb : Value) (d : Pd) (l : List Nat) (w : World) (hok : d.Ok) (hv : Bs w (.slice A d.bs.length c) d.bs) (hb : Bs w vb l) (hl1 : l.length ≤ 1099511627776) :
    Calls Try.prog 43 #[.agg #[.int .i64 (d.most : Int), .slice A d.bs.length c, .int .i64 (d.syn : Int), .int .i64 d.num, .bool d.down], vb] w (RfP w A c d (d.app l).1 (.int .i64 ((d.app l).2 : Int))) := by
  obtain ⟨⟨Al, cl, rfl, hcl, hal⟩, h8⟩ := id hb
  have hokr := hok.app h8
  have hl := hok.left
  have hm := hok.most
  have hlen := hok.len
  obtain ⟨W, hW⟩ : ∃ W : World, W = (w.alloc (.cells #[.int .i64 (d.most : Int), .slice A d.bs.length c, .int .i64 (d.syn : Int), .int .i64 d.num, .bool d.down] 62)).alloc (.cells #[.int .i64 0, .slice none 0 0, .int .i64 0, .int .i64 0, .bool false] 62) := ⟨_, rfl⟩
  have hbW : Below w.heap.size w W := by rw [hW]; exact two _ _ _
  have q1 : W.heap[w.heap.size]? = some (.cells #[.int .i64 (d.most : Int), .slice A d.bs.length c, .int .i64 (d.syn : Int), .int .i64 d.num, .bool d.down] 62 (0, 0)) := by rw [hW]; exact heap_old (heap_new _ _) _
  have q2 : W.heap[w.heap.size + 1]? = some (.cells #[.int .i64 0, .slice none 0 0, .int .i64 0, .int .i64 0, .bool false] 62 (0, 0)) := by rw [hW]; exact heap_new' _ _ _ (by simp)
  have s1 : IntKind.i64.wrap ((d.bs.length : Int) + (l.length : Int)) = ((d.bs.length + l.length : Nat) : Int) := by rw [IntKind.wrap_i64]; omega
  cases hd : d.down with
  | true =>
    have es : d.app l = (d, 15) := by unfold Pd.app; rw [if_pos hd]
    have ES := Lib.hid es
    rw [hd] at hW q1
    clear es
    go_enter Try.func43, Try.ntmps43
    go_wp2_with fail
    refine res2 rfl (heap_new' _ _ _ (by simp)) rfl rfl rfl ?_
    rw [ES.out]
    exact ⟨_, rfl, ⟨hok, A, c, by rw [hd], .inl ⟨rfl, rfl, rfl⟩⟩, two _ _ _⟩
  | false =>
    by_cases h0 : d.most < d.bs.length + l.length
    · have t0 : decide ((d.most : Int) < ((d.bs.length + l.length : Nat) : Int)) = true := decide_eq_true (by omega)
      have t0' : decide ((d.most : Int) < (d.bs.length : Int) + (l.length : Int)) = true := decide_eq_true (by omega)
      have es : d.app l = (d, 5) := by unfold Pd.app; rw [if_neg (by rw [hd]; decide), if_pos (by omega)]
      have ES := Lib.hid es
      rw [hd] at hW q1
      clear es
      go_enter Try.func43, Try.ntmps43
      go_wp2_with fail
      refine res2 rfl (heap_new' _ _ _ (by simp)) rfl rfl rfl ?_
      rw [ES.out]
      exact ⟨_, rfl, ⟨hok, A, c, by rw [hd], .inl ⟨rfl, rfl, rfl⟩⟩, two _ _ _⟩
    have t0 : decide ((d.most : Int) < ((d.bs.length + l.length : Nat) : Int)) = false := decide_eq_false (by omega)
    have t0' : decide ((d.most : Int) < (d.bs.length : Int) + (l.length : Int)) = false := decide_eq_false (by omega)
    by_cases ha : d.armed = true ∧ d.left = 0
    · have es : d.app l = (d.fails, 15) := by unfold Pd.app Pd.op; rw [if_neg (by rw [hd]; decide), if_neg (by omega), if_pos ha]
      have ES := Lib.hid es
      have hop := refop_not A c d W ha.1 ha.2
      rw [hd] at hW q1 hop
      rw [es] at hokr
      clear es
      go_enter Try.func43, Try.ntmps43
      go_wp2_with fail
      rw [← hW]
      refine hop.mono ?_
      rintro e w3 ⟨rfl, hb3⟩
      obtain ⟨⟨k0, k1, k2, k3, k4⟩, ⟨f0, f1, f2, f3, f4⟩⟩ := box5 (heap_below q1 hb3)
      have q2' := heap_below q2 hb3
      obtain ⟨⟨d0, d1, d2, d3, d4⟩, ⟨g0, g1, g2, g3, g4⟩⟩ := box5 q2'
      clear hop hW
      go_wp2_with fail
      have ht := ten (hbW.trans (hb3.mono hbW.size)) q2'
      refine res2 rfl (ht _ _ _ _ _ _ _ _ _ _).1 rfl rfl rfl ?_
      rw [ES.out]
      exact ⟨_, rfl, ⟨hokr, A, c, rfl, .inl ⟨rfl, rfl, rfl⟩⟩, (ht _ _ _ _ _ _ _ _ _ _).2⟩
    · have es : d.app l = (d.less.put l, 0) := by unfold Pd.app Pd.op; rw [if_neg (by rw [hd]; decide), if_neg (by omega), if_neg ha]
      have hop := refop_ok A c d W hl ha
      have hval : ∀ A' c', (.agg #[.int .i64 (d.most : Int), .slice A' (d.bs ++ l).length c', .int .i64 (d.syn : Int), .int .i64 d.less.num, .bool false] : Value) = .agg #[.int .i64 ((d.less.put l).most : Int), .slice A' (d.less.put l).bs.length c', .int .i64 ((d.less.put l).syn : Int), .int .i64 (d.less.put l).num, .bool (d.less.put l).down] := by
        intro A' c'
        show _ = Value.agg #[.int .i64 (d.less.most : Int), .slice A' (d.less.bs ++ l).length c', .int .i64 (d.less.syn : Int), .int .i64 d.less.num, .bool d.less.down]
        rw [d.less_most, d.less_bs, d.less_syn, d.less_down, hd]
      have hbs : (d.less.put l).bs = d.bs ++ l := by show d.less.bs ++ l = _; rw [d.less_bs]
      rw [es] at hokr
      have ES := Lib.hid es
      have HV := Lib.hid hval
      have HB := Lib.hid hbs
      have HK := Lib.hid hokr
      rw [hd] at hW q1 hop
      clear es ha hd hval hbs hokr
      generalize hN : d.less.num = N at *
      clear hN
      generalize d.less.put l = dl at *
      go_enter Try.func43, Try.ntmps43
      go_wp2_with fail
      rw [← hW]
      refine hop.mono ?_
      rintro e w3 ⟨rfl, hb3⟩
      obtain ⟨⟨k0, k1, k2, k3, k4⟩, ⟨f0, f1, f2, f3, f4⟩⟩ := box5 (heap_below q1 hb3)
      obtain ⟨X, hX, x1, x2, hbX⟩ := five (hbW.trans (hb3.mono hbW.size)) (heap_below q1 hb3) (heap_below q2 hb3) (.int .i64 (d.most : Int)) (.slice A d.bs.length c) (.int .i64 (d.syn : Int)) (.int .i64 N) (.bool false)
      clear hop hW
      go_upto_if 27 with (fail)
      rw [← hX]
      clear hX k0 k1 k2 k3 k4 f0 f1 f2 f3 f4 q1 q2 hb3 hbW
      obtain ⟨⟨k0, k1, k2, k3, k4⟩, ⟨f0, f1, f2, f3, f4⟩⟩ := box5 x1
      have hvX := (hv.below hbX).parts
      have hbX' := (hb.below hbX).parts
      go_wp2_with (first
        | (at_builtin
           refine wpList_app rfl (.tmp 29) (.tmp 31) rfl rfl (Own.nil X X.heap.size) rfl hvX.2.2.1 rfl (by simp; omega) (Nat.le_refl _) ?_
           intro v4 w4 hown4 hb4 hg4 _
           rw [List.nil_append] at hown4
           have y1 := heap_below x1 hb4
           obtain ⟨⟨k0, k1, k2, k3, k4⟩, ⟨f0, f1, f2, f3, f4⟩⟩ := box5 y1
           obtain ⟨A4, c4, rfl, hc4, -, -, -, -⟩ := id hown4.form)
        | (at_builtin
           refine wpList_app rfl (.tmp 33) (.tmp 34) rfl rfl hown4 rfl (hbX'.2.2.1.below hb4) rfl (by omega) hb4.size ?_
           intro v5 w5 hown5 hb5 hg5 _
           have hb45 := hb4.trans hb5
           have z1 := heap_below x1 hb45
           have z2 := heap_below x2 hb45
           obtain ⟨⟨j0, j1, j2, j3, j4⟩, ⟨i0, i1, i2, i3, i4⟩⟩ := box5 z1
           obtain ⟨⟨d0, d1, d2, d3, d4⟩, ⟨g0, g1, g2, g3, g4⟩⟩ := box5 z2
           obtain ⟨A5, c5, rfl, hc5, -, -, -, -⟩ := id hown5.form
           have el5 : (d.bs ++ l).length = d.bs.length + l.length := by simp
           rw [el5] at hown5))
      have q := heap_set_ne z2 (show w.heap.size + 1 ≠ w.heap.size by omega) 1 (.slice A5 (d.bs.length + l.length) c5)
      have hs1 := lt_heap x1
      have hs2 := lt_heap x2
      have hbZ := (hbX.trans (hb45.mono hbX.size)).setCell (p := ⟨w.heap.size, 1, none⟩) (Nat.le_refl _) (.slice A5 (d.bs.length + l.length) c5)
      refine res2 rfl (set5 q _ _ _ _ _) rfl rfl rfl ?_
      have hbY := fun z0 z1 z2 z3 z4 => bel5 (g := w.heap.size + 1) hbZ (by omega) z0 z1 z2 z3 z4
      have hoY := fun z0 z1 z2 z3 z4 => (hown5.setLow hs1 1 (.slice A5 (d.bs.length + l.length) c5)).set5 hs2 z0 z1 z2 z3 z4
      have h8' : ∀ y ∈ d.bs ++ l, y < 256 := by
        intro y hy
        rcases List.mem_append.1 hy with h1 | h1
        · exact hok.byte y h1
        · exact h8 y h1
      rw [ES.out]
      refine ⟨_, rfl, ⟨HK.out, A5, c5, ?_, ?_⟩, hbY _ _ _ _ _⟩
      · have := HV.out A5 c5
        rw [el5] at this
        exact this
      · refine .inr ?_
        rw [HB.out, el5]
        exact (hoY _ _ _ _ _).mono hbX.size
set_option maxRecDepth 100000 in
set_option maxHeartbeats 1000000 in
theorem refcrash_any (A : Option Addr) (c : Nat) (d : Pd) (n : Int) (w : World) (hok : d.Ok) (hv : Bs w (.slice A d.bs.length c) d.bs) :
    Calls Try.prog 41 #[.agg #[.int .i64 (d.most : Int), .slice A d.bs.length c, .int .i64 (d.syn : Int), .int .i64 d.num, .bool d.down], .int .i64 n] w (Rf1 w A c d (d.crash n)) := by
  have hokr := hok.crash n
  have hm := hok.most
  have hlen := hok.len
  have hsy := hok.syn
  obtain ⟨W, hW⟩ : ∃ W : World, W = (w.alloc (.cells #[.int .i64 (d.most : Int), .slice A d.bs.length c, .int .i64 (d.syn : Int), .int .i64 d.num, .bool d.down] 62)).alloc (.cells #[.int .i64 0, .slice none 0 0, .int .i64 0, .int .i64 0, .bool false] 62) := ⟨_, rfl⟩
  have hbW : Below w.heap.size w W := by rw [hW]; exact two _ _ _
  have q1 : W.heap[w.heap.size]? = some (.cells #[.int .i64 (d.most : Int), .slice A d.bs.length c, .int .i64 (d.syn : Int), .int .i64 d.num, .bool d.down] 62 (0, 0)) := by rw [hW]; exact heap_old (heap_new _ _) _
  have q2 : W.heap[w.heap.size + 1]? = some (.cells #[.int .i64 0, .slice none 0 0, .int .i64 0, .int .i64 0, .bool false] 62 (0, 0)) := by rw [hW]; exact heap_new' _ _ _ (by simp)
  obtain ⟨k1, k2⟩ := Pd.kept_le hok n
  obtain ⟨k, hk⟩ : ∃ k, d.kept n = k := ⟨_, rfl⟩
  rw [hk] at k1 k2
  have hcr : ∀ A' c', (.agg #[.int .i64 (d.most : Int), .slice A' k c', .int .i64 (k : Int), .int .i64 (-1), .bool false] : Value) = .agg #[.int .i64 ((d.crash n).most : Int), .slice A' (d.crash n).bs.length c', .int .i64 ((d.crash n).syn : Int), .int .i64 (d.crash n).num, .bool (d.crash n).down] ∧ (d.crash n).bs = d.bs.take k := by
    intro A' c'
    have e : (d.bs.take k).length = k := by simp; omega
    have e2 : (d.crash n).bs = d.bs.take k := by show d.bs.take (d.kept n) = _; rw [hk]
    refine ⟨?_, e2⟩
    rw [e2, e]
    show _ = Value.agg #[.int .i64 (d.most : Int), .slice A' k c', .int .i64 ((d.kept n : Nat) : Int), .int .i64 (-1), .bool false]
    rw [hk]
  have HCR := Lib.hid hcr
  have HKN : Hid (∀ j : Nat, d.syn + j ≤ d.bs.length → (j : Int) ≤ max n 0 → ((n ≤ (j : Int)) ∨ d.syn + j = d.bs.length) → d.syn + j = k) := by
    intro j h1 h2 h3
    rw [← hk]
    unfold Pd.kept
    omega
  clear hcr hk
  obtain ⟨⟨a0, a1, a2, a3, a4⟩, -⟩ := box5 q1
  go_enter Try.func41, Try.ntmps41
  go_wp2_with fail
  rw [← hW]
  clear hW
  go_loop [5, 6] (fun s i => ∃ j : Nat, i = .int .i64 (j : Int) ∧ s = .int .i64 ((d.syn + j : Nat) : Int) ∧ d.syn + j ≤ d.bs.length ∧ (j : Int) ≤ max n 0) (fun s _ => d.bs.length - (intOf s).toNat)
  case atStart => exact ⟨0, rfl, by simp, by omega, by omega⟩
  case round =>
    obtain ⟨j, rfl, rfl, hj1, hj2⟩ := hrel
    by_cases hgo : (j : Int) < n ∧ d.syn + j < d.bs.length
    · obtain ⟨h1, h2⟩ := hgo
      have t1 : decide ((j : Int) < n) = true := decide_eq_true h1
      have t2 : decide (((d.syn + j : Nat) : Int) < (d.bs.length : Int)) = true := decide_eq_true (by omega)
      have t2' : decide (((d.syn : Int) + (j : Int)) < (d.bs.length : Int)) = true := decide_eq_true (by omega)
      have s2 : IntKind.i64.wrap (((d.syn + j : Nat) : Int) + 1) = ((d.syn + (j + 1) : Nat) : Int) := by rw [IntKind.wrap_i64]; omega
      go_wp2_with fail
      go_round
      case rel => exact ⟨j + 1, by go_num, by go_num, by omega, by omega⟩
      case measure => simp [intOf]; omega
    · have hex : (¬ (j : Int) < n ∧ decide ((j : Int) < n) = false) ∨ ((j : Int) < n ∧ decide ((j : Int) < n) = true ∧ ¬ d.syn + j < d.bs.length ∧ decide (((d.syn : Int) + (j : Int)) < (d.bs.length : Int)) = false) := by
        by_cases h1 : (j : Int) < n
        · exact .inr ⟨h1, decide_eq_true h1, fun h2 => hgo ⟨h1, h2⟩, decide_eq_false (fun h2 => hgo ⟨h1, by omega⟩)⟩
        · exact .inl ⟨h1, decide_eq_false h1⟩
      have hjk : d.syn + j = k := HKN.out j hj1 hj2 (by omega)
      clear hgo
      rcases hex with ⟨h1, t1⟩ | ⟨h1, t1, h2, t2⟩
      all_goals
        go_upto_region 6 with fail
        rw [hjk]
        go_wp2_with fail
        refine (reffirst_any A c d k W hok (hv.below hbW) k2).mono ?_
        rintro e w3 ⟨A3, c3, rfl, ho3, hb3⟩
        obtain ⟨⟨b0, b1, b2, b3, b4⟩, ⟨f0, f1, f2, f3, f4⟩⟩ := box5 (heap_below q1 hb3)
        obtain ⟨X, hX, x1, x2, hbX⟩ := five (hbW.trans (hb3.mono hbW.size)) (heap_below q1 hb3) (heap_below q2 hb3) (.int .i64 (d.most : Int)) (.slice A3 k c3) (.int .i64 (k : Int)) (.int .i64 d.num) (.bool d.down)
        have hs1 := lt_heap q1
        have hs2 := lt_heap q2
        have hoX : Own X W.heap.size (.slice A3 k c3) (d.bs.take k) := by
          rw [hX]
          exact ho3.set5 hs1 _ _ _ _ _
        go_upto_region 7 with fail
        rw [← hX]
        clear hX b0 b1 b2 b3 b4 f0 f1 f2 f3 f4 hb3 ho3 a0 a1 a2 a3 a4
        obtain ⟨⟨b0, b1, b2, b3, b4⟩, ⟨f0, f1, f2, f3, f4⟩⟩ := box5 x1
        obtain ⟨⟨d0, d1, d2, d3, d4⟩, ⟨g0, g1, g2, g3, g4⟩⟩ := box5 x2
        go_wp2_with fail
        have q := heap_set_ne (heap_set_ne x2 (show w.heap.size + 1 ≠ w.heap.size by omega) 4 (.bool false)) (show w.heap.size + 1 ≠ w.heap.size by omega) 3 (.int .i64 (-1))
        have hbZ := (hbX.setCell (p := ⟨w.heap.size, 4, none⟩) (Nat.le_refl _) (.bool false)).setCell (p := ⟨w.heap.size, 3, none⟩) (Nat.le_refl _) (.int .i64 (-1))
        refine res1 rfl (set5 q _ _ _ _ _) rfl rfl ?_
        have hbY := fun z0 z1 z2 z3 z4 => bel5 (g := w.heap.size + 1) hbZ (by omega) z0 z1 z2 z3 z4
        have hoY := fun z0 z1 z2 z3 z4 => ((hoX.setLow hs1 4 (.bool false)).setLow hs1 3 (.int .i64 (-1))).set5 hs2 z0 z1 z2 z3 z4
        refine ⟨_, rfl, ⟨hokr, A3, c3, (HCR.out A3 c3).1, ?_⟩, hbY _ _ _ _ _⟩
        have el : (d.bs.take k).length = k := by simp; omega
        refine .inr ?_
        rw [(HCR.out A3 c3).2, el]
        exact (hoY _ _ _ _ _).mono hbW.size
end Go.Proofs.Ytjcefnlidophoaa
