/- drover/value.Right and its closure: the walks. -/
import Derived.Test.YtfobmlicmbelnaaDoorRight
namespace Go.Proofs.YtfobmlicmbelnaaDoor
open Go.RowKit

/-- A number in a block of its own. -/
def Cnt (w : World) (b : Nat) (z : Int) : Prop := w.heap[b]? = some (.cells #[.int .i64 z] 3 (0, 0))
/-- A function in a block of its own. -/
def Fun1 (w : World) (b : Nat) (T : TypeId) (f : Value) : Prop := w.heap[b]? = some (.cells #[f] T (0, 0))
def OutR (bl : Nat) (r : Option Nat) (w : World) (e : Ending) (w' : World) : Prop := ∃ z : Int, e = .returned (.bool r.isSome) ∧ (∀ m' : Nat, r = some m' → z = (m' : Int)) ∧ Cnt w' bl z ∧ Kp bl w w'
def rightF (bl br : Nat) : Value := .func (.func 42) #[] #[.pointer (some ⟨bl, 0, none⟩), .pointer (some ⟨br, 0, none⟩)]

theorem fold_step {f : Nat → Va → Option Nat} {l : List Va} {m : Nat} (j : Nat) (h : j < l.length) : (l.take (j + 1)).foldlM f m = ((l.take j).foldlM f m).bind fun m => f m l[j] := by
  rw [List.take_succ_eq_append_getElem h, List.foldlM_append]
  cases (l.take j).foldlM f m with
  | none => rfl
  | some m1 =>
    show (f m1 l[j] >>= fun m => some m) = f m1 l[j]
    cases f m1 l[j] <;> rfl
theorem fold_none {f : Nat → Va → Option Nat} {l : List Va} {m : Nat} (j : Nat) (h : (l.take j).foldlM f m = none) : l.foldlM f m = none := by
  have : l = l.take j ++ l.drop j := (List.take_append_drop j l).symm
  rw [this, List.foldlM_append, h]
  rfl
theorem heap_below {w w' : World} {k : Nat} {x : Obj} (h : w.heap[k]? = some x) (hb : Below w.heap.size w w') : w'.heap[k]? = some x := (hb.block k (lt_heap h)).trans h
theorem Cnt.cell {w : World} {b : Nat} {z : Int} (h : Cnt w b z) : w.cell? ⟨b, 0, none⟩ = some (.int .i64 z) := cell_of_one h
theorem Cnt.free {w : World} {b : Nat} {z : Int} (h : Cnt w b z) : w.frozen? ⟨b, 0, none⟩ = false := free_of_one h
theorem Cnt.set {w : World} {b : Nat} {z : Int} (h : Cnt w b z) (y : Int) : Cnt (w.setCell ⟨b, 0, none⟩ (.int .i64 y)) b y := one_setCell h
theorem Fun1.cell {w : World} {b : Nat} {T : TypeId} {f : Value} (h : Fun1 w b T f) : w.cell? ⟨b, 0, none⟩ = some f := cell_of_one h

set_option maxRecDepth 100000 in
set_option maxHeartbeats 800000 in
theorem right1_any : ∀ (L : Nat) (t : Va) (m : Nat) (v : Value) (lev : Int) (w : World) (B bl br : Nat), lev + L = 17 → L ≤ 16 → m ≤ 256 → Rep w B v t → B ≤ bl → B ≤ br → B ≤ w.heap.size → bl ≠ br →
    Cnt w bl m → Fun1 w br 74 (rightF bl br) →
    Calls Tryd.prog 42 #[v, .int .i64 lev, .pointer (some ⟨bl, 0, none⟩), .pointer (some ⟨br, 0, none⟩)] w (OutR bl (rgt L t m) w) := by
  intro L
  induction L with
  | zero =>
    intro t m v lev w B bl br hlev _ hm hrep hBl hBr hBw hne hc hf
    obtain ⟨y0, y1, y2, y3, rfl⟩ := hrep.form
    have HK : Hid (rgt 0 t m = none) := by cases m <;> rfl
    have c1 := hc.cell
    have c2 := hc.free
    have hc2 := hc.set ((m : Int) - 1)
    have c3 := hc2.cell
    have hlt := lt_heap hc
    have hlev' : (16 : Int) < lev := by omega
    clear hlev
    go_enter Tryd.func42, Tryd.ntmps42
    go_wp2
    all_goals
      go_ret
      rw [HK.out]
      exact ⟨_, rfl, fun _ h => (by cases h), heap_old hc2 _, ((Kp.refl _ _).set rfl _).alloc _⟩
  | succ L ih =>
    intro t m v lev w B bl br hlev hL hm hrep hBl hBr hBw hne hc hf
    obtain ⟨k, n, s, l⟩ := t
    obtain ⟨y0, y1, y2, y3, rfl⟩ := hrep.form
    have hrep0 := hrep
    obtain ⟨A, c, rfl, rfl, rfl, rfl, hk8, hn0, hn1, hs8, hsl, hcl, hcm, hl⟩ := hrep.parts
    have c1 := hc.cell
    have c2 := hc.free
    have hc2 := hc.set ((m : Int) - 1)
    have c3 := hc2.cell
    have hlt := lt_heap hc
    by_cases hm0 : m = 0
    · subst hm0
      have HK : Hid (rgt (L + 1) (.mk k n s l) 0 = none) := rfl
      go_enter Tryd.func42, Tryd.ntmps42
      go_wp2
      all_goals
        go_ret
        rw [HK.out]
        exact ⟨_, rfl, fun _ h => (by cases h), heap_old hc2 _, ((Kp.refl _ _).set rfl _).alloc _⟩
    · obtain ⟨m1, rfl⟩ : ∃ m1, m = m1 + 1 := ⟨m - 1, by omega⟩
      have em : ((m1 + 1 : Nat) : Int) - 1 = (m1 : Int) := by omega
      have hc0 : Cnt (w.setCell ⟨bl, 0, none⟩ (.int .i64 (m1 : Int))) bl (m1 : Int) := by rw [← em]; exact hc2
      have EM := Lib.hid em
      clear em
      by_cases hk : k = 4
      · have g1 : ((k : Int) == 4) = true := by rw [hk]; rfl
        have g2 : ((k : Int) != 4) = false := by rw [hk]; rfl
        by_cases hn : n = 0
        · have g3 : (n == 0) = true := by rw [hn]; rfl
          have g4 : (n != 0) = false := by rw [hn]; rfl
          by_cases hs : s = []
          · have g5 : (strOf s).toList.isEmpty = true := by rw [strOf_empty, hs]; rfl
            have g6 : (!(strOf s).toList.isEmpty) = false := by rw [g5]; rfl
            have HK : Hid (rgt (L + 1) (.mk k n s l) (m1 + 1) = l.foldlM (fun m v => rgt L v m) m1) := by
              show _ = _
              rw [hk, hn, hs, rgt_tuple]
            have HM := Lib.hid (fun (j m2 : Nat) (h : (l.take j).foldlM (fun m v => rgt L v m) m1 = some m2) => foldlM_len (l.take j) m1 m2 h)
            clear hk hn hs
            have hb0 : Kp bl w ((w.setCell ⟨bl, 0, none⟩ (.int .i64 (m1 : Int))).alloc (.cells #[.int .u8 (k : Int), .int .i64 n, .string (strOf s), .slice A l.length c] 25)) := ((Kp.refl _ _).set rfl _).alloc _
            go_enter Tryd.func42, Tryd.ntmps42
            go_wp2_with fail
            go_loopw [33] (fun i wr => ∃ j m2 : Nat, j ≤ l.length ∧ i = .int .i64 (j : Int) ∧ Hid ((l.take j).foldlM (fun m v => rgt L v m) m1 = some m2) ∧ Cnt wr bl m2 ∧ Kp bl w wr) (fun i _ => l.length - (intOf i).toNat)
            case atStart => exact ⟨0, m1, Nat.zero_le _, rfl, rfl, heap_old hc0 _, hb0⟩
            case round =>
              obtain ⟨j, m2, hj, rfl, HF, hcr, hkr⟩ := hrel
              by_cases hlt2 : j < l.length
              · obtain ⟨b, o, y0, y1, y2, y3, rfl, hbB, hrange, hrepj⟩ := hl.at j hlt2
                have hbel : Below B w wr := hkr.below hBl hBw
                have HJ : Hid ((l.take (j + 1)).foldlM (fun m v => rgt L v m) m1 = rgt L l[j] m2) := by
                  show _ = _
                  rw [fold_step j hlt2, HF.out]
                  rfl
                have hrepj' := hrepj.under hbel
                generalize l[j] = tj at *
                obtain ⟨kj, nj, sj, lj⟩ := tj
                obtain ⟨Aj, cj, rfl, rfl, rfl, rfl, -, -, -, -, -, -, -, -⟩ := hrepj.parts
                have hrange' : wr.rangeAt b (o + j * 4) _ := fun i u hu => (hbel.cell hbB).trans (hrange i u hu)
                have d0 : wr.cell? ⟨b, o + j * 4, none⟩ = some _ := hrange' 0 _ rfl
                have d1 : wr.cell? ⟨b, o + j * 4 + 1, none⟩ = some _ := hrange' 1 _ rfl
                have d2 : wr.cell? ⟨b, o + j * 4 + 2, none⟩ = some _ := hrange' 2 _ rfl
                have d3 : wr.cell? ⟨b, o + j * 4 + 3, none⟩ = some _ := hrange' 3 _ rfl
                have hfr : Fun1 wr br 74 (rightF bl br) := hkr.heap hf (Ne.symm hne)
                have hfc : wr.cell? ⟨br, 0, none⟩ = some (rightF bl br) := hfr.cell
                unfold rightF at hfc
                have hltf := lt_heap hfr
                go_wp2_with fail
                refine (ih _ m2 _ (lev + 1) _ B bl br (by omega) (by omega) (by have := HM.out j m2 HF.out; omega) (hrepj'.under ((Below.refl _ _).alloc (by have := hbel.size; omega) _)) hBl hBr (by have := hbel.size; simp; omega) hne (heap_old hcr _) (heap_old hfr _)).mono ?_
                rintro e w3 ⟨z, rfl, hz, hc3, hk3⟩
                have hk4 : Kp bl w w3 := (hkr.alloc _).trans hk3
                clear hk3 hrepj hrepj' d0 d1 d2 d3 hrange hrange' hfc
                cases hres : rgt L (.mk kj nj sj lj) m2 with
                | none =>
                  rw [hres] at HJ
                  have HN : Hid (l.foldlM (fun m v => rgt L v m) m1 = none) := fold_none (j + 1) HJ.out
                  clear HJ hres hz
                  go_wp2_with fail
                  go_ret
                  rw [HK.out, HN.out]
                  exact ⟨z, rfl, fun _ h => (by cases h), hc3, hk4⟩
                | some m3 =>
                  rw [hres] at HJ
                  have hz3 := hz m3 hres
                  subst hz3
                  clear hres hz
                  go_wp2_with fail
                  go_roundw
                  case rel => exact ⟨j + 1, m3, by omega, by go_num, HJ, hc3, hk4⟩
                  case measure => simp [intOf]; omega
              · obtain rfl : j = l.length := by omega
                rw [List.take_length] at HF
                go_wp2_with fail
                go_ret
                rw [HK.out, HF.out]
                exact ⟨m2, rfl, fun m' h => (by injection h with h; rw [h]), hcr, hkr⟩
          · have g5 : (strOf s).toList.isEmpty = false := by rw [strOf_empty]; cases s with | nil => exact absurd rfl hs | cons _ _ => rfl
            have g6 : (!(strOf s).toList.isEmpty) = true := by rw [g5]; rfl
            have HK : Hid (rgt (L + 1) (.mk k n s l) (m1 + 1) = none) := by
              show _ = _
              rw [rgt, if_neg (by simp [hk]), if_pos (.inr hs)]
            clear hk hn hs
            go_enter Tryd.func42, Tryd.ntmps42
            go_wp2_with fail
            go_ret
            rw [HK.out]
            exact ⟨_, rfl, fun _ h => (by cases h), heap_old hc0 _, ((Kp.refl _ _).set rfl _).alloc _⟩
        · have g3 : (n == 0) = false := by simpa using hn
          have g4 : (n != 0) = true := by simpa using hn
          have HK : Hid (rgt (L + 1) (.mk k n s l) (m1 + 1) = none) := by
            show _ = _
            rw [rgt, if_neg (by simp [hk]), if_pos (.inl hn)]
          clear hk hn
          go_enter Tryd.func42, Tryd.ntmps42
          go_wp2_with fail
          go_ret
          rw [HK.out]
          exact ⟨_, rfl, fun _ h => (by cases h), heap_old hc0 _, ((Kp.refl _ _).set rfl _).alloc _⟩
      · have g1 : ((k : Int) == 4) = false := beq_eq_false_iff_ne.2 (by omega)
        have g2 : ((k : Int) != 4) = true := by simp; omega
        have HK : Hid (rgt (L + 1) (.mk k n s l) (m1 + 1) = if lf k n s l = true then some m1 else none) := by
          show _ = _
          rw [rgt, if_pos hk]
        clear hk
        go_enter Tryd.func42, Tryd.ntmps42
        go_wp2_with fail
        refine (rightLeaf_any k n s l _ _ B ?_).mono ?_
        · exact hrep0.under (((Below.refl _ _).setCell hBl _).alloc (by simpa using hBw) _)
        rintro e w1 ⟨rfl, hb1⟩
        go_wp2_with fail
        go_ret
        rw [HK.out]
        refine ⟨(m1 : Int), ?_, ?_, ?_, ?_⟩
        · cases lf k n s l <;> rfl
        · intro m' h
          split at h
          · simp at h
            omega
          · cases h
        · exact heap_below (heap_old hc0 _) hb1
        · exact (((Kp.refl _ _).set rfl _).alloc _).trans (Kp.of_below hb1)
end Go.Proofs.YtfobmlicmbelnaaDoor
