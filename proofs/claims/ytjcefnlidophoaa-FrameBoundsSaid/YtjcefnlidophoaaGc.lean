/- Texts Rep, Right, Right1, Right2, Cmp, Compare1, Compare, Buf, Conv of this seat in one: see each part. -/
import Derived.Deep.MidRow
import Derived.BigGuardPart
import Derived.BigQuiet
import Derived.Laws.EntriesVeiled
import Derived.WalkLawsBesides
import Derived.StillTailTactics
import Derived.IntWalk
import Derived.Lib.OthersKept
import Derived.Deep.RegionHeld3
import Derived.Deep.DeepCutAuto
import Derived.Test.YtjcefnlidophoaaGb
import Derived.Test.YtjcefnlidophoaaKp
import Derived.Test.YtjcefnlidophoaaGe
import Derived.Test.YtjcefnlidophoaaCv0
namespace Go.Proofs.Ytjcefnlidophoaa
open Go.RowKit

/-- The value v reads as the tree, in memory of blocks of S. -/
inductive RepS (w : World) (S : Nat → Prop) : Value → Va → Prop
  | mk (k : Nat) (n : Int) (s : List Nat) (A : Option Addr) (c : Nat) (l : List Va) (x : Nat → Value) (hk : k < 256) (hn0 : -9223372036854775808 ≤ n) (hn1 : n ≤ 9223372036854775807)
      (hs : ∀ y ∈ s, y < 256) (hsl : s.length ≤ 9223372036854775807) (hc : l.length ≤ c) (hcm : c ≤ 9223372036854775807)
      (hm : ∀ i, i < l.length → ∃ b o y0 y1 y2 y3, A = some ⟨b, o, none⟩ ∧ S b ∧ x i = .agg #[y0, y1, y2, y3] ∧ w.rangeAt b (o + i * 4) [y0, y1, y2, y3])
      (hr : ∀ i t, l[i]? = some t → RepS w S (x i) t) : RepS w S (.agg #[.int .u8 (k : Int), .int .i64 n, .string (strOf s), .slice A l.length c]) (.mk k n s l)
/-- .. in memory below block B. -/
abbrev Rep (w : World) (B : Nat) : Value → Va → Prop := RepS w (fun b => b < B)

section
variable {w w' : World} {S S' : Nat → Prop} {B B' : Nat} {v : Value} {t : Va}
theorem RepS.keep (h : RepS w S v t) (hk : ∀ p : Addr, S p.block → w'.cell? p = w.cell? p) : RepS w' S v t := by
  induction h with
  | mk k n s A c l x hk8 hn0 hn1 hs hsl hc hcm hm hr ih =>
    refine RepS.mk k n s A c l x hk8 hn0 hn1 hs hsl hc hcm (fun i hi => ?_) ih
    obtain ⟨b, o, y0, y1, y2, y3, h1, h2, h3, h4⟩ := hm i hi
    exact ⟨b, o, y0, y1, y2, y3, h1, h2, h3, fun j u hu => (hk _ h2).trans (h4 j u hu)⟩
theorem RepS.wider (h : RepS w S v t) (hS : ∀ b, S b → S' b) : RepS w S' v t := by
  induction h with
  | mk k n s A c l x hk8 hn0 hn1 hs hsl hc hcm hm hr ih =>
    refine RepS.mk k n s A c l x hk8 hn0 hn1 hs hsl hc hcm (fun i hi => ?_) ih
    obtain ⟨b, o, y0, y1, y2, y3, h1, h2, h3, h4⟩ := hm i hi
    exact ⟨b, o, y0, y1, y2, y3, h1, hS _ h2, h3, h4⟩
theorem RepS.under (h : Rep w B v t) (hb : Below B w w') : Rep w' B v t := RepS.keep h fun _ hp => hb.cell hp
theorem RepS.ok (h : RepS w S v t) : ∀ L, Ok L t := by
  induction h with
  | mk k n s A c l x hk8 hn0 hn1 hs hsl hc hcm hm hr ih =>
    intro L
    cases L with
    | zero => trivial
    | succ L =>
      refine ⟨hk8, hn0, hn1, hs, fun t ht => ?_⟩
      obtain ⟨i, hi, rfl⟩ := List.mem_iff_getElem.1 ht
      exact ih i _ (List.getElem?_eq_getElem hi) L
theorem RepS.form (h : RepS w S v t) : ∃ y0 y1 y2 y3, v = .agg #[y0, y1, y2, y3] := by
  cases h
  exact ⟨_, _, _, _, rfl⟩
end
/-- A list of values in memory. -/
def RepsS (w : World) (S : Nat → Prop) (A : Option Addr) (l : List Va) : Prop :=
  ∃ x : Nat → Value, (∀ i, i < l.length → ∃ b o y0 y1 y2 y3, A = some ⟨b, o, none⟩ ∧ S b ∧ x i = .agg #[y0, y1, y2, y3] ∧ w.rangeAt b (o + i * 4) [y0, y1, y2, y3]) ∧ ∀ i t, l[i]? = some t → RepS w S (x i) t
abbrev Reps (w : World) (B : Nat) : Option Addr → List Va → Prop := RepsS w (fun b => b < B)
theorem RepS.parts {w : World} {S : Nat → Prop} {y0 y1 y2 y3 : Value} {k : Nat} {n : Int} {s : List Nat} {l : List Va} (h : RepS w S (.agg #[y0, y1, y2, y3]) (.mk k n s l)) :
    ∃ A c, y0 = .int .u8 (k : Int) ∧ y1 = .int .i64 n ∧ y2 = .string (strOf s) ∧ y3 = .slice A l.length c ∧ k < 256 ∧ -9223372036854775808 ≤ n ∧ n ≤ 9223372036854775807 ∧ (∀ y ∈ s, y < 256) ∧ s.length ≤ 9223372036854775807 ∧ l.length ≤ c ∧ c ≤ 9223372036854775807 ∧ RepsS w S A l := by
  cases h with
  | mk k n s A c l x hk8 hn0 hn1 hs hsl hc hcm hm hr => exact ⟨A, c, rfl, rfl, rfl, rfl, hk8, hn0, hn1, hs, hsl, hc, hcm, x, hm, hr⟩
theorem RepsS.mk {w : World} {S : Nat → Prop} {A : Option Addr} {k : Nat} {n : Int} {s : List Nat} {l : List Va} {c : Nat} (h : RepsS w S A l) (hk : k < 256) (hn0 : -9223372036854775808 ≤ n) (hn1 : n ≤ 9223372036854775807)
    (hs : ∀ y ∈ s, y < 256) (hsl : s.length ≤ 9223372036854775807) (hc : l.length ≤ c) (hcm : c ≤ 9223372036854775807) : RepS w S (.agg #[.int .u8 (k : Int), .int .i64 n, .string (strOf s), .slice A l.length c]) (.mk k n s l) := by
  obtain ⟨x, h1, h2⟩ := h
  exact RepS.mk k n s A c l x hk hn0 hn1 hs hsl hc hcm h1 h2
section
variable {w w' : World} {S : Nat → Prop} {B B' : Nat} {A : Option Addr} {l : List Va}
theorem RepsS.nil (w : World) (S : Nat → Prop) (A : Option Addr) : RepsS w S A [] := ⟨fun _ => .nilIface, by simp, by simp⟩
theorem RepsS.keep (h : RepsS w S A l) (hk : ∀ p : Addr, S p.block → w'.cell? p = w.cell? p) : RepsS w' S A l := by
  obtain ⟨x, h1, h2⟩ := h
  refine ⟨x, fun i hi => ?_, fun i t ht => (h2 i t ht).keep hk⟩
  obtain ⟨b, o, y0, y1, y2, y3, h1, h2, h3, h4⟩ := h1 i hi
  exact ⟨b, o, y0, y1, y2, y3, h1, h2, h3, fun j u hu => (hk _ h2).trans (h4 j u hu)⟩
theorem RepsS.under (h : Reps w B A l) (hb : Below B w w') : Reps w' B A l := RepsS.keep h fun _ hp => hb.cell hp
/-- The part at place i. -/
theorem RepsS.at (h : RepsS w S A l) (i : Nat) (hi : i < l.length) : ∃ b o y0 y1 y2 y3, A = some ⟨b, o, none⟩ ∧ S b ∧ w.rangeAt b (o + i * 4) [y0, y1, y2, y3] ∧ RepS w S (.agg #[y0, y1, y2, y3]) l[i] := by
  obtain ⟨x, h1, h2⟩ := h
  obtain ⟨b, o, y0, y1, y2, y3, e1, e2, e3, e4⟩ := h1 i hi
  have := h2 i _ (List.getElem?_eq_getElem hi)
  rw [e3] at this
  exact ⟨b, o, y0, y1, y2, y3, e1, e2, e4, this⟩
end
/-- A struct's four cells, out of the block that holds just it. -/
theorem range_new (w : World) (y0 y1 y2 y3 : Value) (T : TypeId) (fr : Nat × Nat) {g : Nat} (h : w.heap[g]? = some (.cells #[y0, y1, y2, y3] T fr)) : w.rangeAt g 0 [y0, y1, y2, y3] := by
  intro j v hv
  have : w.cell? ⟨g, 0 + j, none⟩ = #[y0, y1, y2, y3][0 + j]? := by
    unfold World.cell?
    dsimp only
    rw [h]
    simp
  rw [this]
  simpa using hv
theorem value_size : (Try.prog.info? 43).map (·.size) = some 4 := by kernel_rfl
end Go.Proofs.Ytjcefnlidophoaa
namespace Go.Proofs.Ytjcefnlidophoaa
open Go.RowKit

theorem strOf_empty (s : List Nat) : (strOf s).toList.isEmpty = s.isEmpty := by
  rw [ByteArray.toList_eq]
  cases s <;> simp [strOf]
theorem ret_bool {a b : Bool} (h : a = b) : Ending.returned (.bool a) = Ending.returned (.bool b) := by rw [h]
theorem eqb_true {k j : Nat} (h : ((k : Int) == (j : Int)) = true) : k = j := by
  have := beq_iff_eq.1 h
  omega
theorem eqb_false {k j : Nat} (h : ((k : Int) == (j : Int)) = false) : k ≠ j := by
  intro h0
  subst h0
  simp at h

set_option maxRecDepth 100000 in
set_option maxHeartbeats 400000 in
theorem rightLeaf_any (k : Nat) (n : Int) (s : List Nat) (l : List Va) (v : Value) (w : World) (B : Nat) (h : Rep w B v (.mk k n s l)) :
    Calls Try.prog 183 #[v] w fun e w' => e = .returned (.bool (lf k n s l)) ∧ Below w.heap.size w w' := by
  obtain ⟨y0, y1, y2, y3, rfl⟩ := h.form
  obtain ⟨A, c, rfl, rfl, rfl, rfl, hk8, hn0, hn1, hs8, hsl, hc, hcm, hl⟩ := h.parts
  have HS := Lib.hid (strOf_empty s)
  have HZ := Lib.hid (strOf_size s)
  have key : ∀ b : Bool, lf k n s l = b → Hid (lf k n s l = b) := fun _ h => h
  have E : lf k n s l = (l.isEmpty && (if k = 1 then s.isEmpty else if k = 2 then s.isEmpty && (decide (n = 0) || decide (n = 1)) else if k = 3 then decide (n = 0) && decide (s.length ≤ 4096) else if k = 5 then s.isEmpty && decide (0 ≤ n) else false)) := rfl
  by_cases hl0 : 0 < l.length
  · have HK := key false (by rw [E]; cases l <;> simp at hl0 ⊢)
    clear key E
    go_enter Try.func183, Try.ntmps183
    go_wp2
    go_ret
    exact ⟨ret_bool HK.out.symm, (Below.refl _ _).alloc (Nat.le_refl _) _⟩
  · have el : l = [] := List.eq_nil_of_length_eq_zero (by omega)
    rw [el] at E
    simp only [List.isEmpty_nil, Bool.true_and] at E
    have hl0' : ¬ 0 < l.length := hl0
    by_cases k1 : k = 1
    · rw [if_pos k1] at E
      have HK := key _ (by rw [el, E, ← HS.out])
      have g1 : ((k : Int) == 1) = true := by rw [k1]; rfl
      clear key E el k1
      go_enter Try.func183, Try.ntmps183
      go_wp2
      go_ret
      exact ⟨ret_bool HK.out.symm, (Below.refl _ _).alloc (Nat.le_refl _) _⟩
    · rw [if_neg k1] at E
      have g1 : ((k : Int) == 1) = false := beq_eq_false_iff_ne.2 (by omega)
      by_cases k2 : k = 2
      · rw [if_pos k2, ← HS.out] at E
        have g2 : ((k : Int) == 2) = true := by rw [k2]; rfl
        have HK := key _ (by rw [el, E])
        clear key E el k1 k2
        go_enter Try.func183, Try.ntmps183
        go_wp2
        all_goals
          go_ret
          refine ⟨ret_bool ?_, (Below.refl _ _).alloc (Nat.le_refl _) _⟩
          rw [HK.out]
          simp [*]
          try rfl
      · rw [if_neg k2] at E
        have g2 : ((k : Int) == 2) = false := beq_eq_false_iff_ne.2 (by omega)
        by_cases k3 : k = 3
        · rw [if_pos k3, ← HZ.out] at E
          have g3 : ((k : Int) == 3) = true := by rw [k3]; rfl
          have HK := key _ (by rw [el, E])
          clear key E el k1 k2 k3
          go_enter Try.func183, Try.ntmps183
          go_wp2
          all_goals
            go_ret
            refine ⟨ret_bool ?_, (Below.refl _ _).alloc (Nat.le_refl _) _⟩
            rw [HK.out]
            simp [*]
            try omega
        · rw [if_neg k3] at E
          have g3 : ((k : Int) == 3) = false := beq_eq_false_iff_ne.2 (by omega)
          by_cases k5 : k = 5
          · rw [if_pos k5, ← HS.out] at E
            have g5 : ((k : Int) == 5) = true := by rw [k5]; rfl
            have HK := key _ (by rw [el, E])
            clear key E el k1 k2 k3 k5
            go_enter Try.func183, Try.ntmps183
            go_wp2
            all_goals
              go_ret
              refine ⟨ret_bool ?_, (Below.refl _ _).alloc (Nat.le_refl _) _⟩
              rw [HK.out]
              simp [*]
          · rw [if_neg k5] at E
            have g5 : ((k : Int) == 5) = false := beq_eq_false_iff_ne.2 (by omega)
            have HK := key _ (by rw [el, E])
            clear key E el k1 k2 k3 k5
            go_enter Try.func183, Try.ntmps183
            go_wp2
            go_ret
            exact ⟨ret_bool HK.out.symm, (Below.refl _ _).alloc (Nat.le_refl _) _⟩
end Go.Proofs.Ytjcefnlidophoaa
namespace Go.Proofs.Ytjcefnlidophoaa
open Go.RowKit

/-- A number in a block of its own. -/
def Cnt (w : World) (b : Nat) (z : Int) : Prop := w.heap[b]? = some (.cells #[.int .i64 z] 3 (0, 0))
/-- A function in a block of its own. -/
def Fun1 (w : World) (b : Nat) (T : TypeId) (f : Value) : Prop := w.heap[b]? = some (.cells #[f] T (0, 0))
def OutR (bl : Nat) (r : Option Nat) (w : World) (e : Ending) (w' : World) : Prop := ∃ z : Int, e = .returned (.bool r.isSome) ∧ (∀ m' : Nat, r = some m' → z = (m' : Int)) ∧ Cnt w' bl z ∧ Kp bl w w'
def rightF (bl br : Nat) : Value := .func (.func 182) #[] #[.pointer (some ⟨bl, 0, none⟩), .pointer (some ⟨br, 0, none⟩)]

theorem fold_step {f : Nat → Va → Option Nat} {l : List Va} {m : Nat} (j : Nat) (h : j < l.length) : (l.take (j + 1)).foldlM f m = ((l.take j).foldlM f m).bind fun m => f m l[j] := by
  rw [List.take_succ_eq_append_getElem h, List.foldlM_append]
  cases (l.take j).foldlM f m with
  | none => rfl
  | some m1 =>
    show (f m1 l[j] >>= fun m => some m) = f m1 l[j]
    cases f m1 l[j] <;> rfl
theorem fold_none {f : Nat → Va → Option Nat} {l : List Va} {m : Nat} (j : Nat) (h : (l.take j).foldlM f m = none) : l.foldlM f m = none := by
  have : l = l.take j ++ l.drop j := (List.take_append_drop j l).symm
  rw [this, List.foldlM_append, h]
  rfl
theorem Cnt.cell {w : World} {b : Nat} {z : Int} (h : Cnt w b z) : w.cell? ⟨b, 0, none⟩ = some (.int .i64 z) := cell_of_one h
theorem Cnt.free {w : World} {b : Nat} {z : Int} (h : Cnt w b z) : w.frozen? ⟨b, 0, none⟩ = false := free_of_one h
theorem Cnt.set {w : World} {b : Nat} {z : Int} (h : Cnt w b z) (y : Int) : Cnt (w.setCell ⟨b, 0, none⟩ (.int .i64 y)) b y := one_setCell h
theorem Fun1.cell {w : World} {b : Nat} {T : TypeId} {f : Value} (h : Fun1 w b T f) : w.cell? ⟨b, 0, none⟩ = some f := cell_of_one h

set_option maxRecDepth 100000 in
set_option maxHeartbeats 800000 in
theorem right1_any : ∀ (L : Nat) (t : Va) (m : Nat) (v : Value) (lev : Int) (w : World) (B bl br : Nat), lev + L = 17 → L ≤ 16 → m ≤ 256 → Rep w B v t → B ≤ bl → B ≤ br → B ≤ w.heap.size → bl ≠ br →
    Cnt w bl m → Fun1 w br 210 (rightF bl br) →
    Calls Try.prog 182 #[v, .int .i64 lev, .pointer (some ⟨bl, 0, none⟩), .pointer (some ⟨br, 0, none⟩)] w (OutR bl (rgt L t m) w) := by
  intro L
  induction L with
  | zero =>
    intro t m v lev w B bl br hlev _ hm hrep hBl hBr hBw hne hc hf
    obtain ⟨y0, y1, y2, y3, rfl⟩ := hrep.form
    have HK : Hid (rgt 0 t m = none) := by cases m <;> rfl
    have c1 := hc.cell
    have c2 := hc.free
    have hc2 := hc.set ((m : Int) - 1)
    have c3 := hc2.cell
    have hlt := lt_heap hc
    have hlev' : (16 : Int) < lev := by omega
    clear hlev
    go_enter Try.func182, Try.ntmps182
    go_wp2
    all_goals
      go_ret
      rw [HK.out]
      exact ⟨_, rfl, fun _ h => (by cases h), heap_old hc2 _, ((Kp.refl _ _).set rfl _).alloc _⟩
  | succ L ih =>
    intro t m v lev w B bl br hlev hL hm hrep hBl hBr hBw hne hc hf
    obtain ⟨k, n, s, l⟩ := t
    obtain ⟨y0, y1, y2, y3, rfl⟩ := hrep.form
    have hrep0 := hrep
    obtain ⟨A, c, rfl, rfl, rfl, rfl, hk8, hn0, hn1, hs8, hsl, hcl, hcm, hl⟩ := hrep.parts
    have c1 := hc.cell
    have c2 := hc.free
    have hc2 := hc.set ((m : Int) - 1)
    have c3 := hc2.cell
    have hlt := lt_heap hc
    by_cases hm0 : m = 0
    · subst hm0
      have HK : Hid (rgt (L + 1) (.mk k n s l) 0 = none) := rfl
      go_enter Try.func182, Try.ntmps182
      go_wp2
      all_goals
        go_ret
        rw [HK.out]
        exact ⟨_, rfl, fun _ h => (by cases h), heap_old hc2 _, ((Kp.refl _ _).set rfl _).alloc _⟩
    · obtain ⟨m1, rfl⟩ : ∃ m1, m = m1 + 1 := ⟨m - 1, by omega⟩
      have em : ((m1 + 1 : Nat) : Int) - 1 = (m1 : Int) := by omega
      have hc0 : Cnt (w.setCell ⟨bl, 0, none⟩ (.int .i64 (m1 : Int))) bl (m1 : Int) := by rw [← em]; exact hc2
      have EM := Lib.hid em
      clear em
      by_cases hk : k = 4
      · have g1 : ((k : Int) == 4) = true := by rw [hk]; rfl
        have g2 : ((k : Int) != 4) = false := by rw [hk]; rfl
        by_cases hn : n = 0
        · have g3 : (n == 0) = true := by rw [hn]; rfl
          have g4 : (n != 0) = false := by rw [hn]; rfl
          by_cases hs : s = []
          · have g5 : (strOf s).toList.isEmpty = true := by rw [strOf_empty, hs]; rfl
            have g6 : (!(strOf s).toList.isEmpty) = false := by rw [g5]; rfl
            have HK : Hid (rgt (L + 1) (.mk k n s l) (m1 + 1) = l.foldlM (fun m v => rgt L v m) m1) := by
              show _ = _
              rw [hk, hn, hs, rgt_tuple]
            have HM := Lib.hid (fun (j m2 : Nat) (h : (l.take j).foldlM (fun m v => rgt L v m) m1 = some m2) => foldlM_len (l.take j) m1 m2 h)
            clear hk hn hs
            have hb0 : Kp bl w ((w.setCell ⟨bl, 0, none⟩ (.int .i64 (m1 : Int))).alloc (.cells #[.int .u8 (k : Int), .int .i64 n, .string (strOf s), .slice A l.length c] 43)) := ((Kp.refl _ _).set rfl _).alloc _
            go_enter Try.func182, Try.ntmps182
            go_wp2_with fail
            go_loopw [33] (fun i wr => ∃ j m2 : Nat, j ≤ l.length ∧ i = .int .i64 (j : Int) ∧ Hid ((l.take j).foldlM (fun m v => rgt L v m) m1 = some m2) ∧ Cnt wr bl m2 ∧ Kp bl w wr) (fun i _ => l.length - (intOf i).toNat)
            case atStart => exact ⟨0, m1, Nat.zero_le _, rfl, rfl, heap_old hc0 _, hb0⟩
            case round =>
              obtain ⟨j, m2, hj, rfl, HF, hcr, hkr⟩ := hrel
              by_cases hlt2 : j < l.length
              · obtain ⟨b, o, y0, y1, y2, y3, rfl, hbB, hrange, hrepj⟩ := hl.at j hlt2
                have hbel : Below B w wr := hkr.below hBl hBw
                have HJ : Hid ((l.take (j + 1)).foldlM (fun m v => rgt L v m) m1 = rgt L l[j] m2) := by
                  show _ = _
                  rw [fold_step j hlt2, HF.out]
                  rfl
                have hrepj' := hrepj.under hbel
                generalize l[j] = tj at *
                obtain ⟨kj, nj, sj, lj⟩ := tj
                obtain ⟨Aj, cj, rfl, rfl, rfl, rfl, -, -, -, -, -, -, -, -⟩ := hrepj.parts
                have hrange' : wr.rangeAt b (o + j * 4) _ := fun i u hu => (hbel.cell hbB).trans (hrange i u hu)
                have d0 : wr.cell? ⟨b, o + j * 4, none⟩ = some _ := hrange' 0 _ rfl
                have d1 : wr.cell? ⟨b, o + j * 4 + 1, none⟩ = some _ := hrange' 1 _ rfl
                have d2 : wr.cell? ⟨b, o + j * 4 + 2, none⟩ = some _ := hrange' 2 _ rfl
                have d3 : wr.cell? ⟨b, o + j * 4 + 3, none⟩ = some _ := hrange' 3 _ rfl
                have hfr : Fun1 wr br 210 (rightF bl br) := hkr.heap hf (Ne.symm hne)
                have hfc : wr.cell? ⟨br, 0, none⟩ = some (rightF bl br) := hfr.cell
                unfold rightF at hfc
                have hltf := lt_heap hfr
                go_wp2_with fail
                refine (ih _ m2 _ (lev + 1) _ B bl br (by omega) (by omega) (by have := HM.out j m2 HF.out; omega) (hrepj'.under ((Below.refl _ _).alloc (by have := hbel.size; omega) _)) hBl hBr (by have := hbel.size; simp; omega) hne (heap_old hcr _) (heap_old hfr _)).mono ?_
                rintro e w3 ⟨z, rfl, hz, hc3, hk3⟩
                have hk4 : Kp bl w w3 := (hkr.alloc _).trans hk3
                clear hk3 hrepj hrepj' d0 d1 d2 d3 hrange hrange' hfc
                cases hres : rgt L (.mk kj nj sj lj) m2 with
                | none =>
                  rw [hres] at HJ
                  have HN : Hid (l.foldlM (fun m v => rgt L v m) m1 = none) := fold_none (j + 1) HJ.out
                  clear HJ hres hz
                  go_wp2_with fail
                  go_ret
                  rw [HK.out, HN.out]
                  exact ⟨z, rfl, fun _ h => (by cases h), hc3, hk4⟩
                | some m3 =>
                  rw [hres] at HJ
                  have hz3 := hz m3 hres
                  subst hz3
                  clear hres hz
                  go_wp2_with fail
                  go_roundw
                  case rel => exact ⟨j + 1, m3, by omega, by go_num, HJ, hc3, hk4⟩
                  case measure => simp [intOf]; omega
              · obtain rfl : j = l.length := by omega
                rw [List.take_length] at HF
                go_wp2_with fail
                go_ret
                rw [HK.out, HF.out]
                exact ⟨m2, rfl, fun m' h => (by injection h with h; rw [h]), hcr, hkr⟩
          · have g5 : (strOf s).toList.isEmpty = false := by rw [strOf_empty]; cases s with | nil => exact absurd rfl hs | cons _ _ => rfl
            have g6 : (!(strOf s).toList.isEmpty) = true := by rw [g5]; rfl
            have HK : Hid (rgt (L + 1) (.mk k n s l) (m1 + 1) = none) := by
              show _ = _
              rw [rgt, if_neg (by simp [hk]), if_pos (.inr hs)]
            clear hk hn hs
            go_enter Try.func182, Try.ntmps182
            go_wp2_with fail
            go_ret
            rw [HK.out]
            exact ⟨_, rfl, fun _ h => (by cases h), heap_old hc0 _, ((Kp.refl _ _).set rfl _).alloc _⟩
        · have g3 : (n == 0) = false := by simpa using hn
          have g4 : (n != 0) = true := by simpa using hn
          have HK : Hid (rgt (L + 1) (.mk k n s l) (m1 + 1) = none) := by
            show _ = _
            rw [rgt, if_neg (by simp [hk]), if_pos (.inl hn)]
          clear hk hn
          go_enter Try.func182, Try.ntmps182
          go_wp2_with fail
          go_ret
          rw [HK.out]
          exact ⟨_, rfl, fun _ h => (by cases h), heap_old hc0 _, ((Kp.refl _ _).set rfl _).alloc _⟩
      · have g1 : ((k : Int) == 4) = false := beq_eq_false_iff_ne.2 (by omega)
        have g2 : ((k : Int) != 4) = true := by simp; omega
        have HK : Hid (rgt (L + 1) (.mk k n s l) (m1 + 1) = if lf k n s l = true then some m1 else none) := by
          show _ = _
          rw [rgt, if_pos hk]
        clear hk
        go_enter Try.func182, Try.ntmps182
        go_wp2_with fail
        refine (rightLeaf_any k n s l _ _ B ?_).mono ?_
        · exact hrep0.under (((Below.refl _ _).setCell hBl _).alloc (by simpa using hBw) _)
        rintro e w1 ⟨rfl, hb1⟩
        go_wp2_with fail
        go_ret
        rw [HK.out]
        refine ⟨(m1 : Int), ?_, ?_, ?_, ?_⟩
        · cases lf k n s l <;> rfl
        · intro m' h
          split at h
          · simp at h
            omega
          · cases h
        · exact heap_below (heap_old hc0 _) hb1
        · exact (((Kp.refl _ _).set rfl _).alloc _).trans (Kp.of_below hb1)
end Go.Proofs.Ytjcefnlidophoaa
namespace Go.Proofs.Ytjcefnlidophoaa
open Go.RowKit

set_option maxRecDepth 100000 in
set_option maxHeartbeats 400000 in
theorem right_any (t : Va) (v : Value) (w : World) (B : Nat) (h : Rep w B v t) (hB : B ≤ w.heap.size) :
    Calls Try.prog 176 #[v] w fun e w' => e = .returned (.bool (right t)) ∧ Below w.heap.size w w' := by
  obtain ⟨k, n, s, l⟩ := t
  obtain ⟨y0, y1, y2, y3, rfl⟩ := h.form
  obtain ⟨A, c, rfl, rfl, rfl, rfl, -⟩ := h.parts
  go_enter Try.func176, Try.ntmps176
  go_wp2_with fail
  refine (right1_any 16 _ 256 _ 1 _ B (w.heap.size + 1) (w.heap.size + 1 + 1) (by omega) (by omega) (by omega) (h.under ?ca) (by omega) (by omega) ?cb (by omega) ?cc ?cd).mono ?ce
  case ca => exact ((((Below.refl _ _).alloc hB _).alloc (by simp; omega) _).alloc (by simp; omega) _)
  case cb => simp; omega
  case cc => exact heap_old (heap_new' _ _ _ (by simp)) _
  case cd => exact heap_new' _ _ _ (by simp)
  rintro e w1 ⟨z, rfl, hz, hc, hk⟩
  go_wp2_with fail
  go_ret
  exact ⟨rfl, Kp.all ((((Below.refl _ _).alloc (Nat.le_refl _) _).alloc (by simp) _).alloc (by simp; omega) _) hk (by omega)⟩
end Go.Proofs.Ytjcefnlidophoaa
namespace Go.Proofs.Ytjcefnlidophoaa
open Go.RowKit

theorem ret_int {k : IntKind} {a b : Int} (h : a = b) : Ending.returned (.int k a) = Ending.returned (.int k b) := by rw [h]
theorem toList_strOf (l : List Nat) : (strOf l).toList = l.map UInt8.ofNat := by
  rw [ByteArray.toList_eq]
  simp [strOf]
theorem less_cml : ∀ a b : List Nat, (∀ x ∈ a, x < 256) → (∀ x ∈ b, x < 256) → Op.bytesLess (a.map UInt8.ofNat) (b.map UInt8.ofNat) = decide (cml a b < 0)
  | [], [], _, _ => by simp [Op.bytesLess, cml]
  | [], y :: b, _, _ => by simp [Op.bytesLess, cml]
  | x :: a, [], _, _ => by simp [Op.bytesLess, cml]
  | x :: a, y :: b, ha, hb => by
    have ih := less_cml a b (fun x hx => ha x (by simp [hx])) (fun x hx => hb x (by simp [hx]))
    have hx := ha x (by simp)
    have hy := hb y (by simp)
    rw [List.map_cons, List.map_cons, Op.bytesLess, ih]
    have e1 : (UInt8.ofNat x < UInt8.ofNat y) = (x < y) := by
      rw [UInt8.lt_iff_toNat_lt, UInt8.toNat_ofNat', UInt8.toNat_ofNat', Nat.mod_eq_of_lt (by omega), Nat.mod_eq_of_lt (by omega)]
    have e2 : (UInt8.ofNat x == UInt8.ofNat y) = decide (x = y) := by
      by_cases h : x = y
      · subst h
        simp
      · rw [decide_eq_false h]
        refine beq_eq_false_iff_ne.2 fun h' => h ?_
        have := congrArg UInt8.toNat h'
        rw [UInt8.toNat_ofNat', UInt8.toNat_ofNat', Nat.mod_eq_of_lt (by omega), Nat.mod_eq_of_lt (by omega)] at this
        exact this
    rw [e2]
    rcases Nat.lt_trichotomy x y with h | h | h
    · rw [cml_lt h]
      simp [e1, h]
    · subst h
      rw [cml_eq]
      simp
    · rw [cml_gt h]
      simp [e1]
      omega
end Go.Proofs.Ytjcefnlidophoaa
namespace Go.Proofs.Ytjcefnlidophoaa
open Go.RowKit
end Go.Proofs.Ytjcefnlidophoaa
namespace Go.Proofs.Ytjcefnlidophoaa
open Go.RowKit
end Go.Proofs.Ytjcefnlidophoaa
namespace Go.Proofs.Ytjcefnlidophoaa
open Go.RowKit

/-- The captured variable in block ba holds a slice of the call's own that reads as l. -/
def Buf (w : World) (base ba : Nat) (l : List Nat) : Prop := ∃ v, w.heap[ba]? = some (.cells #[v] 27 (0, 0)) ∧ Own w base v l
/-- All blocks but ba and rows of bytes are as they were. -/
def Ot (ba : Nat) (w w' : World) : Prop := Lib.OthersKept 5 (some ba) w w'
section
variable {w w' a : World} {base ba : Nat} {v u : Value} {l m : List Nat}
theorem ne_row (h : w.heap[ba]? = some (.cells #[u] 27 (0, 0))) (ho : Own w base v l) : v.ownBlock ≠ some ba := by
  rcases ho.2 with ⟨rfl, _⟩ | ⟨g, cap, cur, rfl, hg, hh, _⟩
  · intro h; cases h
  · intro h2
    have := Option.some.inj (show some g = some ba from h2)
    subst this
    rw [hh] at h
    simp at h
theorem ba_grown (h : w.heap[ba]? = some (.cells #[u] 27 (0, 0))) (ho : Own w base v l) (hg : w.grownBy w' v.ownBlock) : w'.heap[ba]? = some (.cells #[u] 27 (0, 0)) :=
  (hg.block ba (lt_heap h) (fun e => ne_row h ho e.symm)).trans h
theorem buf_store (h : w.heap[ba]? = some (.cells #[u] 27 (0, 0))) (ho : Own w base v l) : Buf (w.setCell ⟨ba, 0, none⟩ v) base ba l := by
  refine ⟨v, one_setCell h, ?_⟩
  exact ho.kept (row := some ba) ⟨rfl, rfl, rfl, by simp [World.setCell], fun k _ hk => Below.heap_setCell _ _ _ _ (fun e => hk (by rw [e]))⟩ (.inr (ne_row h ho))
theorem Ot.refl (ba : Nat) (w : World) : Ot ba w w := Lib.OthersKept.refl _ _ w
theorem Ot.trans (h : Ot ba a w) (k : Ot ba w w') : Ot ba a w' := Lib.OthersKept.trans h k
theorem Ot.alloc (h : Ot ba a w) (o : Obj) : Ot ba a (w.alloc o) := Lib.OthersKept.alloc h o
theorem Ot.set (h : Ot ba a w) (v : Value) : Ot ba a (w.setCell ⟨ba, 0, none⟩ v) := Lib.OthersKept.setCell h ⟨ba, 0, none⟩ rfl v
theorem Ot.drew (h : Ot ba a w) : Ot ba a w.drew := h
theorem Ot.below (h : Below w.heap.size w w') : Ot ba w w' := fun _ _ hk _ _ => heap_below hk h
theorem Ot.grown (h : Ot ba a w) (ho : Own w base v l) (hg : w.grownBy w' v.ownBlock) : Ot ba a w' :=
  Lib.OthersKept.grown h hg (Lib.ownsRowF_kind (World.ownsRowF_of ho))
theorem Ot.heap (h : Ot ba w w') {k : Nat} {c : Array Value} {T : TypeId} {fr : Nat × Nat} (hk : w.heap[k]? = some (.cells c T fr)) (hne : k ≠ ba) (hT : T ≠ 5) : w'.heap[k]? = some (.cells c T fr) :=
  h k _ hk (fun e => hne (Option.some.inj e)) (fun c' fz e => hT (by injection e))
/-- The four cells of a struct that a block holds. -/
theorem box4 {g : Nat} {y0 y1 y2 y3 : Value} {T : TypeId} {fr : Nat × Nat} (h : w.heap[g]? = some (.cells #[y0, y1, y2, y3] T fr)) :
    w.cell? ⟨g, 0, none⟩ = some y0 ∧ w.cell? ⟨g, 1, none⟩ = some y1 ∧ w.cell? ⟨g, 2, none⟩ = some y2 ∧ w.cell? ⟨g, 3, none⟩ = some y3 := by
  have := range_new w y0 y1 y2 y3 T fr h
  exact ⟨by simpa using this 0 _ rfl, by simpa using this 1 _ rfl, by simpa using this 2 _ rfl, by simpa using this 3 _ rfl⟩
/-- append onto a slice of bytes of the call's own, in a region that draws its order. -/
theorem step_app2 {ops : Array Oper} {o : Oper} {a : Act} {K : Act → World → Prop} {Q : Exit → Act → World → Prop} {E : Prop} (hgd : o.guard = none) (s x : Operand)
    (ho : o.op = .call { callee := .builtin .append, args := #[s, x], argTypes := #[27, 27] })
    {v : Value} {l : List Nat} (hs : a.eval s = v) (hown : Own w base v l) {B : Nat} {A : Option Addr} {m c : Nat} {news : List Nat} (hx : a.eval x = .slice A m c)
    (hr : At w B A (bv news)) (hm : news.length = m) (hn : l.length + m ≤ 8796093022208) (hbase : base ≤ w.heap.size)
    (h : ∀ v' w', Own w' base v' (l ++ news) → Below base w w' → w.grownBy w' v.ownBlock → K (a.put o.dst v') w') :
    if Region.wanted o (yielded ops a.tmps) = true then Oper.wp Try.prog o a w K Q else E := by
  have hw : Region.wanted o (yielded ops a.tmps) = true := by simp [Region.wanted, hgd]
  rw [if_pos hw]
  obtain ⟨i0, hi0, hz0, hz1, hz2⟩ := info_parts u8_info
  subst hm
  refine wp_append_at w s x 27 ho base 5 i0 _ 1 1 Try.underlying27 hi0 hz0 hz1 hz2 rfl (by omega) v l.length (bv l) hs hown B A news.length c (bv news) hx hr
    (by simp [bv]) (bv_one news) (by unfold maxLen; omega) (by omega) hbase ?_
  intro v' w' h1 h2 h3
  refine h v' w' ?_ ((Below.refl _ _).grown h2 hbase (fun k hk => (World.ownsRow.lt hown k hk).1)) h2
  unfold Own
  rw [List.length_append, bv_append]
  exact h1
end
end Go.Proofs.Ytjcefnlidophoaa
namespace Go.Proofs.Ytjcefnlidophoaa
theorem strOf_size' (s : List Nat) : (strOf s).size = s.length := strOf_size s
end Go.Proofs.Ytjcefnlidophoaa
