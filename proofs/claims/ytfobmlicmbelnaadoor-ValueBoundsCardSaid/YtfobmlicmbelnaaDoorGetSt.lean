/- drover/value.Get's closure: the step of the loop over the parts, in memory. -/
import Derived.Test.YtfobmlicmbelnaaDoorGetMem
namespace Go.Proofs.YtfobmlicmbelnaaDoor
open Go.RowKit

/-- Four cells stored, one behind the other. -/
def W4 (w : World) (g : Nat) (y0 y1 y2 y3 : Value) : World := (((w.setCell ⟨g, 0, none⟩ y0).setCell ⟨g, 1, none⟩ y1).setCell ⟨g, 2, none⟩ y2).setCell ⟨g, 3, none⟩ y3
section
variable {w w' a : World} {g k b : Nat} {y0 y1 y2 y3 : Value}
theorem W4.size : (W4 w g y0 y1 y2 y3).heap.size = w.heap.size := by simp [W4, World.setCell]
theorem W4.block (hk : k ≠ g) : (W4 w g y0 y1 y2 y3).heap[k]? = w.heap[k]? := by
  unfold W4
  rw [Below.heap_setCell _ _ _ _ hk, Below.heap_setCell _ _ _ _ hk, Below.heap_setCell _ _ _ _ hk, Below.heap_setCell _ _ _ _ hk]
theorem W4.heap {o : Obj} (h : w.heap[k]? = some o) (hk : k ≠ g) : (W4 w g y0 y1 y2 y3).heap[k]? = some o := (W4.block hk).trans h
theorem W4.kp (h : Kp b a w) (hg : a.heap.size ≤ g) : Kp b a (W4 w g y0 y1 y2 y3) := (((h.setNew hg y0).setNew hg y1).setNew hg y2).setNew hg y3
theorem cell_heap {p : Addr} (h : w'.heap[p.block]? = w.heap[p.block]?) : w'.cell? p = w.cell? p := by
  unfold World.cell?
  rw [h]
theorem W4.rep {S : Nat → Prop} {x : Value} {t : Va} (h : RepS w S x t) (hS : ∀ b, S b → b ≠ g) : RepS (W4 w g y0 y1 y2 y3) S x t := h.keep fun _ hp => cell_heap (W4.block (hS _ hp))
theorem W4.grown (w : World) (g : Nat) (y0 y1 y2 y3 : Value) : w.grownBy (W4 w g y0 y1 y2 y3) (some g) :=
  ⟨rfl, rfl, rfl, Nat.le_of_eq W4.size.symm, fun k _ hk => W4.block (fun e => hk (by rw [e]))⟩
end
theorem own_lt {w : World} {base n : Nat} {v : Value} {cs : List Value} (h : w.ownsRow base 25 4 v n cs) {g : Nat} (hg : v.ownBlock = some g) : base ≤ g ∧ g < w.heap.size := World.ownsRow.lt h g hg

/-- Memory at the loop's head: w is the world at the call, N the result's block, N + 1 the tuple's. -/
structure GS (w wr : World) (bl m2 j : Nat) (lv : Value) (ts : List Va) (cs : List Value) : Prop where
  cnt : Cnt wr bl ((m2 : Nat) : Int)
  kp : Kp bl w wr
  res : wr.heap[w.heap.size]? = some (.cells #[.int .u8 0, .int .i64 0, .string ⟨#[]⟩, .slice none 0 0] 25 (0, 0))
  box : wr.heap[w.heap.size + 1]? = some (.cells #[.int .u8 4, .int .i64 0, .string ⟨#[]⟩, lv] 25 (0, 0))
  own : wr.ownsRow (w.heap.size + 2) 25 4 lv j cs
  prt : Prt wr (fun b => w.heap.size + 2 ≤ b ∧ b < wr.heap.size ∧ some b ≠ lv.ownBlock) cs ts
  len : ts.length = j
theorem GS.own5 {w wr w3 : World} {bl m2 j : Nat} {lv : Value} {ts : List Va} {cs : List Value} {z : Obj} {y0 y1 y2 y3 : Value} {o : Obj} (h : GS w wr bl m2 j lv ts cs) (hbl : bl < w.heap.size) (hk : Kp bl (wr.alloc z) w3) :
    ((W4 w3 wr.heap.size y0 y1 y2 y3).alloc o).ownsRow (w.heap.size + 2) 25 4 lv j cs := by
  have h1 : (wr.alloc z).ownsRow (w.heap.size + 2) 25 4 lv j cs := h.own.alloc _
  have h2 : w3.ownsRow (w.heap.size + 2) 25 4 lv j cs := World.ownsRow.kept h1 hk (.inr fun e => by have := (own_lt h1 e).1; omega)
  have h3 := World.ownsRow.kept h2 (W4.grown w3 wr.heap.size y0 y1 y2 y3) (.inr fun e => by have := (own_lt h.own e).2; omega)
  exact h3.alloc _
theorem GS.box5 {w wr w3 : World} {bl m2 j : Nat} {lv : Value} {ts : List Va} {cs : List Value} {z : Obj} {y0 y1 y2 y3 : Value} {o : Obj} (h : GS w wr bl m2 j lv ts cs) (hbl : bl < w.heap.size) (hk : Kp bl (wr.alloc z) w3) :
    ((W4 w3 wr.heap.size y0 y1 y2 y3).alloc o).heap[w.heap.size + 1]? = some (.cells #[.int .u8 4, .int .i64 0, .string ⟨#[]⟩, lv] 25 (0, 0)) :=
  heap_old (W4.heap (hk.heap (heap_old h.box _) (by omega)) (by have := lt_heap h.box; omega)) _
theorem GS.step {w wr w3 w6 : World} {bl m2 m3 j : Nat} {lv lv' : Value} {ts : List Va} {cs : List Value} {z : Obj} {t : Va} {y0 y1 y2 y3 : Value} {T : TypeId} (h : GS w wr bl m2 j lv ts cs) (hbl : bl < w.heap.size) (hk : Kp bl (wr.alloc z) w3)
    (hc3 : Cnt w3 bl ((m3 : Nat) : Int)) (hx : RepS w3 (fun b => (wr.alloc z).heap.size ≤ b ∧ b < w3.heap.size) (.agg #[y0, y1, y2, y3]) t)
    (ho : w6.ownsRow (w.heap.size + 2) 25 4 lv' (j + 1) (cs ++ [y0, y1, y2, y3]))
    (hg : ((W4 w3 wr.heap.size y0 y1 y2 y3).alloc (.cells #[y0, y1, y2, y3] T)).grownBy w6 lv.ownBlock) (hor : lv'.ownBlock = lv.ownBlock ∨ lv'.ownBlock = some ((W4 w3 wr.heap.size y0 y1 y2 y3).alloc (.cells #[y0, y1, y2, y3] T)).heap.size) :
    GS w (w6.setCell ⟨w.heap.size + 1, 3, none⟩ lv') bl m3 (j + 1) lv' (ts ++ [t]) (cs ++ [y0, y1, y2, y3]) := by
  have hN := lt_heap h.res
  have hN1 := lt_heap h.box
  have hsz : (wr.alloc z).heap.size = wr.heap.size + 1 := by simp
  have h3 := hk.size
  have h5 : ((W4 w3 wr.heap.size y0 y1 y2 y3).alloc (.cells #[y0, y1, y2, y3] T)).heap.size = w3.heap.size + 1 := by simp [W4.size]
  have h6 := hg.size
  have hlv : ∀ g, lv.ownBlock = some g → w.heap.size + 2 ≤ g ∧ g < wr.heap.size := fun g e => own_lt h.own e
  have hkeep : ∀ k, k < w3.heap.size → k ≠ wr.heap.size → some k ≠ lv.ownBlock → k ≠ w.heap.size + 1 → (w6.setCell ⟨w.heap.size + 1, 3, none⟩ lv').heap[k]? = w3.heap[k]? := by
    intro k h1 h2 h4 h7
    rw [Below.heap_setCell _ _ _ _ h7, hg.block k (by omega) h4]
    exact (Below.heap_alloc _ _ _ (by rw [W4.size]; exact h1)).trans (W4.block h2)
  have hne : ∀ k, k < w.heap.size + 2 → some k ≠ lv.ownBlock := fun k hk e => by have := hlv k e.symm; omega
  have hbox6 : w6.heap[w.heap.size + 1]? = some (.cells #[.int .u8 4, .int .i64 0, .string ⟨#[]⟩, lv] 25 (0, 0)) := by
    have h1 := h.box5 (y0 := y0) (y1 := y1) (y2 := y2) (y3 := y3) (o := .cells #[y0, y1, y2, y3] T) hbl hk
    exact (hg.block _ (by omega) (hne _ (by omega))).trans h1
  refine ⟨?_, ?_, ?_, ?_, ?_, ?_, by simp [h.len]⟩
  · exact (hkeep bl (lt_heap hc3) (by omega) (hne _ (by omega)) (by omega)).trans hc3
  · refine ⟨?_, ?_, ?_, ?_, fun k h1 h2 => ?_⟩
    · exact (hg.os.trans (show _ = w3.os from rfl)).trans (hk.os.trans h.kp.os)
    · exact (hg.tape.trans (show _ = w3.tape from rfl)).trans (hk.tape.trans h.kp.tape)
    · exact (hg.output.trans (show _ = w3.output from rfl)).trans (hk.output.trans h.kp.output)
    · simp [World.setCell]; omega
    · rw [hkeep k (by omega) (by omega) (hne k (by omega)) (by omega), hk.block k (by omega) h2]
      exact (Below.heap_alloc _ _ _ (by omega)).trans (h.kp.block k h1 h2)
  · exact (hkeep _ (by omega) (by omega) (hne _ (by omega)) (by omega)).trans (hk.heap (heap_old h.res _) (by omega))
  · simp only [World.setCell, Array.getElem?_modify, hbox6]
    simp
  · exact World.ownsRow.kept ho (row := some (w.heap.size + 1)) ⟨rfl, rfl, rfl, by simp [World.setCell], fun k _ hk => Below.heap_setCell _ _ _ _ (fun e => hk (by rw [e]))⟩ (.inr fun e => by have := (own_lt ho e).1; omega)
  · have hlv' : ∀ b, b < wr.heap.size ∨ ((wr.alloc z).heap.size ≤ b ∧ b < w3.heap.size) → some b ≠ lv.ownBlock → some b ≠ lv'.ownBlock := by
      intro b hb h1
      rcases hor with e | e
      · rw [e]; exact h1
      · rw [e]
        intro h2
        have := Option.some.inj h2
        omega
    refine Prt.snoc (h.prt.keep (S' := fun b => w.heap.size + 2 ≤ b ∧ b < (w6.setCell ⟨w.heap.size + 1, 3, none⟩ lv').heap.size ∧ some b ≠ lv'.ownBlock) ?_ ?_) ((hx.keep ?_).wider ?_)
    · intro p hp
      refine cell_heap ?_
      rw [hkeep _ (by omega) (by omega) hp.2.2 (by omega), hk.block _ (by omega) (fun e => by have := Option.some.inj e; omega)]
      exact Below.heap_alloc _ _ _ hp.2.1
    · intro b hb
      exact ⟨hb.1, by simp [World.setCell]; omega, hlv' b (.inl hb.2.1) hb.2.2⟩
    · intro p hp
      refine cell_heap (hkeep _ hp.2 (by omega) (fun e => by have := hlv _ e.symm; omega) (by omega))
    · intro b hb
      exact ⟨by omega, by simp [World.setCell]; omega, hlv' b (.inr hb) (fun e => by have := hlv b e.symm; omega)⟩

theorem GS.box6 {w wr w3 w6 : World} {bl m2 j : Nat} {lv : Value} {ts : List Va} {cs : List Value} {z o : Obj} {y0 y1 y2 y3 : Value} (h : GS w wr bl m2 j lv ts cs) (hbl : bl < w.heap.size) (hk : Kp bl (wr.alloc z) w3)
    (hg : ((W4 w3 wr.heap.size y0 y1 y2 y3).alloc o).grownBy w6 lv.ownBlock) : w6.heap[w.heap.size + 1]? = some (.cells #[.int .u8 4, .int .i64 0, .string ⟨#[]⟩, lv] 25 (0, 0)) := by
  have h1 := h.box5 (y0 := y0) (y1 := y1) (y2 := y2) (y3 := y3) (o := o) hbl hk
  refine (hg.block _ (lt_heap h1) (fun e => ?_)).trans h1
  have := own_lt h.own e.symm
  omega
theorem GS.start {w : World} {bl m1 : Nat} (w0 : World) (hc : Cnt w0 bl ((m1 : Nat) : Int)) (hk : Kp bl w w0) (hs : w0.heap.size = w.heap.size) :
    GS w ((w0.alloc (.cells #[.int .u8 0, .int .i64 0, .string ⟨#[]⟩, .slice none 0 0] 25)).alloc (.cells #[.int .u8 4, .int .i64 0, .string ⟨#[]⟩, .slice none 0 0] 25)) bl m1 0 (.slice none 0 0) [] [] := by
  refine ⟨heap_old (heap_old hc _) _, (hk.alloc _).alloc _, heap_old (heap_new' _ _ _ hs.symm) _, heap_new' _ _ _ (by simp [hs]), World.ownsRow_nil _ _ _ _, Prt.nil _ _, rfl⟩
theorem ownsRow_form {w : World} {base n : Nat} {v : Value} {cs : List Value} (h : w.ownsRow base 25 4 v n cs) : ∃ A c, v = .slice A n c ∧ n ≤ c ∧ c ≤ maxLen := by
  rcases h.2 with ⟨h1, h2⟩ | ⟨g, cap, cur, h1, _, _, h2, h3, _⟩
  · subst h1; subst h2
    exact ⟨none, 0, rfl, Nat.le_refl _, by unfold maxLen; omega⟩
  · exact ⟨_, _, h1, h2, h3⟩
/-- The tuple at the loop's end. -/
theorem GS.done {w wr : World} {bl m2 j cp : Nat} {A : Option Addr} {ts : List Va} {cs : List Value} {y0 y1 y2 y3 : Value} (h : GS w wr bl m2 j (.slice A j cp) ts cs) (hc : j ≤ cp) (hcm : cp ≤ maxLen) :
    RepS (W4 wr w.heap.size y0 y1 y2 y3) (fun b => w.heap.size ≤ b ∧ b < (W4 wr w.heap.size y0 y1 y2 y3).heap.size) (.agg #[.int .u8 4, .int .i64 0, .string ⟨#[]⟩, .slice A j cp]) (.mk 4 0 [] ts) := by
  have hlen := h.len
  subst hlen
  have hr : RepsS wr (fun b => w.heap.size + 2 ≤ b ∧ b < wr.heap.size) A ts := h.prt.reps h.own rfl (fun b hb => ⟨hb.1, hb.2.1⟩) (fun g hg => own_lt h.own hg)
  have h2 := hr.mk (k := 4) (n := 0) (s := []) (c := cp) (by omega) (by omega) (by omega) (by simp) (by simp) hc (by unfold maxLen at hcm; omega)
  exact (W4.rep h2 (fun b hb => by have := hb.1; omega)).wider (fun b hb => ⟨by have := hb.1; omega, by rw [W4.size]; exact hb.2⟩)
theorem At.made' (w : World) (arr : Array Value) (t : TypeId) (g : Nat) (hg : g = w.heap.size) : At (w.alloc (.cells arr t)) (w.heap.size + 1) (some ⟨g, 0, none⟩) arr.toList := by
  subst hg
  exact At.made w arr t
/-! No error is none. -/
theorem dlf_err (l : List Nat) (at_ e : Nat) (h : dlf l at_ = .error e) : e ≠ 0 := by
  unfold dlf at h
  split at h
  · split at h
    · cases h
    · rename_i h1
      injection h with h
      omega
  · split at h
    · split at h
      · injection h with h; omega
      · split at h
        · injection h with h; omega
        · cases h
    · split at h
      · split at h
        · cases h
        · rename_i h1
          injection h with h
          omega
      · split at h
        · split at h
          · split at h
            · injection h with h; omega
            · cases h
          · rename_i h1
            injection h with h
            omega
        · injection h with h; omega
theorem decL_ne {f : Nat → Nat → Except Nat (Va × Nat × Nat)} (hf : ∀ at_ m e, f at_ m = .error e → e ≠ 0) : ∀ (c at_ m e : Nat), decL f c at_ m = .error e → e ≠ 0
  | 0, _, _, _, h => by simp [decL] at h
  | c + 1, at_, m, e, h => by
    rw [decL] at h
    cases hv : f at_ m with
    | error e' =>
      rw [hv] at h
      injection h with h
      subst h
      exact hf at_ m e' hv
    | ok r =>
      obtain ⟨v, n1, m1⟩ := r
      rw [hv] at h
      dsimp only at h
      cases hr : decL f c n1 m1 with
      | error e' =>
        rw [hr] at h
        injection h with h
        subst h
        exact decL_ne hf c n1 m1 e' hr
      | ok r => rw [hr] at h; simp at h
theorem dec_ne (l : List Nat) : ∀ (L at_ m e : Nat), dec l L at_ m = .error e → e ≠ 0
  | 0, _, _, _, h => by simp [dec] at h; omega
  | L + 1, _, 0, _, h => by simp [dec] at h; omega
  | L + 1, at_, m + 1, e, h => by
    unfold dec at h
    split at h
    · injection h with h; omega
    · split at h
      · split at h
        · injection h with h; omega
        · split at h
          · injection h with h; omega
          · cases hr : decL (dec l L) (gu l (at_ + 1)).1 (gu l (at_ + 1)).2.1 m with
            | error e' =>
              rw [hr] at h
              injection h with h
              subst h
              exact decL_ne (dec_ne l L) _ _ _ e' hr
            | ok r => rw [hr] at h; simp at h
      · cases hr : dlf l at_ with
        | error e' =>
          rw [hr] at h
          injection h with h
          subst h
          exact dlf_err l at_ e' hr
        | ok r => rw [hr] at h; simp at h
end Go.Proofs.YtfobmlicmbelnaaDoor
