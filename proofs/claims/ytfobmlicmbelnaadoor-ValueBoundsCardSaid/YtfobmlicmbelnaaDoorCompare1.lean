/- drover/value.Compare's closure: the walk. -/
import Derived.Test.YtfobmlicmbelnaaDoorCmp
import Derived.Test.YtfobmlicmbelnaaDoorRight2
import Derived.StillTailTactics
import Derived.IntWalk
namespace Go.Proofs.YtfobmlicmbelnaaDoor
open Go.RowKit

theorem cmF_app {f : Va → Va → Int} : ∀ (a a' b b' : List Va), a.length = a'.length → cmF f (a ++ b) (a' ++ b') = if cmF f a a' ≠ 0 then cmF f a a' else cmF f b b'
  | [], [], b, b', _ => by rw [if_neg (by simp [cmF])]; rfl
  | x :: a, y :: a', b, b', h => by
    rw [List.cons_append, List.cons_append, cmF, cmF, cmF_app a a' b b' (by simpa using h)]
    by_cases e : f x y = 0
    · simp [e]
    · simp [e]
theorem cmF_cut {f : Va → Va → Int} {l l' : List Va} (h : l.length = l'.length) (j : Nat) (hj : j < l.length) (hj' : j < l'.length) (h0 : cmF f (l.take j) (l'.take j) = 0) :
    (f l[j] l'[j] ≠ 0 → cmF f l l' = f l[j] l'[j]) ∧ (f l[j] l'[j] = 0 → cmF f (l.take (j + 1)) (l'.take (j + 1)) = 0) := by
  have e : cmF f (l.take (j + 1)) (l'.take (j + 1)) = f l[j] l'[j] := by
    rw [List.take_succ_eq_append_getElem hj, List.take_succ_eq_append_getElem hj', cmF_app _ _ _ _ (by simp; omega), if_neg (by omega)]
    simp only [cmF]
    split <;> omega
  refine ⟨fun hne => ?_, fun hz => by rw [e, hz]⟩
  have e2 := cmF_app (f := f) (l.take (j + 1)) (l'.take (j + 1)) (l.drop (j + 1)) (l'.drop (j + 1)) (by simp; omega)
  rw [List.take_append_drop, List.take_append_drop, e, if_pos hne] at e2
  exact e2
def compareF (br : Nat) : Value := .func (.func 52) #[] #[.pointer (some ⟨br, 0, none⟩)]
def OutC (z : Int) (w : World) (e : Ending) (w' : World) : Prop := e = .returned (.int .i64 z) ∧ Below w.heap.size w w'
theorem two (w : World) (o o' : Obj) : Below w.heap.size w ((w.alloc o).alloc o') := ((Below.refl _ _).alloc (Nat.le_refl _) o).alloc (by simp) o'

set_option maxRecDepth 100000 in
set_option maxHeartbeats 1600000 in
theorem compare1_any : ∀ (L : Nat) (t u : Va) (v v' : Value) (lev : Int) (w : World) (B br : Nat), lev + L = 17 → 1 ≤ L → L ≤ 16 → Rep w B v t → Rep w B v' u → B ≤ w.heap.size →
    Fun1 w br 82 (compareF br) →
    Calls Tryd.prog 52 #[v, v', .int .i64 lev, .pointer (some ⟨br, 0, none⟩)] w (OutC (cmv L t u) w) := by
  intro L
  induction L with
  | zero => omega
  | succ L ih =>
    intro t u v v' lev w B br hlev _ hL hrep hrep' hB hf
    obtain ⟨k, n, s, l⟩ := t
    obtain ⟨k', n', s', l'⟩ := u
    obtain ⟨y0, y1, y2, y3, rfl⟩ := hrep.form
    obtain ⟨z0, z1, z2, z3, rfl⟩ := hrep'.form
    obtain ⟨A, c, rfl, rfl, rfl, rfl, hk8, hn0, hn1, hs8, hsl, hcl, hcm, hl⟩ := hrep.parts
    obtain ⟨A', c', rfl, rfl, rfl, rfl, hk8', hn0', hn1', hs8', hsl', hcl', hcm', hl'⟩ := hrep'.parts
    have HS8 := Lib.hid hs8
    have HS8' := Lib.hid hs8'
    clear hs8 hs8' hrep hrep'
    by_cases hk : k = k'
    · subst hk
      have HV := Lib.hid (cmv_same L k n n' s s' l l')
      by_cases hnum : k = 1 ∨ k = 2 ∨ k = 5
      · have HK : Hid (cmv (L + 1) (.mk k n s l) (.mk k n' s' l') = sg n n') := by
          show _ = _
          rw [HV.out, cmb, if_pos hnum]
        clear HV
        rcases hnum with h | h | h
        · have g1 : ((k : Int) == 1) = true := by rw [h]; rfl
          clear h
          go_enter Tryd.func52, Tryd.ntmps52
          go_wp2_with (go_at_call 54; refine (cmp_int64 _ _ _).mono ?_; rintro e w2 ⟨rfl, rfl⟩)
          go_ret
          exact ⟨ret_int HK.out.symm, two _ _ _⟩
        · have g1 : ((k : Int) == 1) = false := by rw [h]; rfl
          have g2 : ((k : Int) == 2) = true := by rw [h]; rfl
          clear h
          go_enter Tryd.func52, Tryd.ntmps52
          go_wp2_with (go_at_call 54; refine (cmp_int64 _ _ _).mono ?_; rintro e w2 ⟨rfl, rfl⟩)
          go_ret
          exact ⟨ret_int HK.out.symm, two _ _ _⟩
        · have g1 : ((k : Int) == 1) = false := by rw [h]; rfl
          have g2 : ((k : Int) == 2) = false := by rw [h]; rfl
          have g5 : ((k : Int) == 5) = true := by rw [h]; rfl
          clear h
          go_enter Tryd.func52, Tryd.ntmps52
          go_wp2_with (go_at_call 54; refine (cmp_int64 _ _ _).mono ?_; rintro e w2 ⟨rfl, rfl⟩)
          go_ret
          exact ⟨ret_int HK.out.symm, two _ _ _⟩
      · have g1 : ((k : Int) == 1) = false := beq_eq_false_iff_ne.2 (by omega)
        have g2 : ((k : Int) == 2) = false := beq_eq_false_iff_ne.2 (by omega)
        have g5 : ((k : Int) == 5) = false := beq_eq_false_iff_ne.2 (by omega)
        have HN := Lib.hid hnum
        clear hnum
        by_cases h3 : k = 3
        · have HK : Hid (cmv (L + 1) (.mk k n s l) (.mk k n' s' l') = cml s s') := by
            show _ = _
            rw [HV.out, cmb, if_neg HN.out, if_pos h3]
          have g3 : ((k : Int) == 3) = true := by rw [h3]; rfl
          clear HV h3
          go_enter Tryd.func52, Tryd.ntmps52
          go_wp2_with (go_at_call 55; refine (cmp_string _ _ _ HS8.out HS8'.out).mono ?_; rintro e w2 ⟨rfl, rfl⟩)
          go_ret
          exact ⟨ret_int HK.out.symm, two _ _ _⟩
        · have g3 : ((k : Int) == 3) = false := beq_eq_false_iff_ne.2 (by omega)
          by_cases h4 : k = 4
          · have HK : Hid (cmv (L + 1) (.mk k n s l) (.mk k n' s' l') = if l.length ≠ l'.length then sg l.length l'.length else cmF (cmv L) l l') := by
              show _ = _
              rw [HV.out, cmb, if_neg HN.out, if_neg h3, if_pos h4]
            have g4 : ((k : Int) == 4) = true := by rw [h4]; rfl
            clear HV h3 h4
            by_cases hll : l.length = l'.length
            · have HSG : Hid (sg (l.length : Int) (l'.length : Int) = 0) := by
                show _ = _
                rw [hll, sg_self]
              have HK2 : Hid (cmv (L + 1) (.mk k n s l) (.mk k n' s' l') = cmF (cmv L) l l') := by
                show _ = _
                rw [HK.out, if_neg (by omega)]
              have HLL := Lib.hid hll
              clear HK hll
              by_cases hL0 : L = 0
              · have g6 : (lev == 16) = true := by rw [show lev = 16 by omega]; rfl
                have HZ : Hid (cmF (cmv L) l l' = 0) := by
                  show _ = _
                  subst hL0
                  have : ∀ a b : List Va, cmF (cmv 0) a b = 0 := by
                    intro a
                    induction a with
                    | nil => intro b; cases b <;> rfl
                    | cons x a ih => intro b; cases b with
                      | nil => rfl
                      | cons y b => rw [cmF, if_neg (by simp [cmv]), ih]
                  exact this l l'
                clear hL0 hlev
                go_enter Tryd.func52, Tryd.ntmps52
                go_wp2_with (go_at_call 56; refine (cmp_int _ _ _).mono ?_; rintro e w2 ⟨rfl, rfl⟩; rw [HSG.out])
                go_ret
                exact ⟨ret_int (by rw [HK2.out, HZ.out]), two _ _ _⟩
              · have g6 : (lev == 16) = false := beq_eq_false_iff_ne.2 (by omega)
                have hL1 : 1 ≤ L := by omega
                clear hL0
                go_enter Tryd.func52, Tryd.ntmps52
                go_wp2_with (go_at_call 56; refine (cmp_int _ _ _).mono ?_; rintro e w2 ⟨rfl, rfl⟩; rw [HSG.out])
                obtain ⟨W2, hW2⟩ : ∃ W2 : World, W2 = (w.alloc (.cells #[.int .u8 (k : Int), .int .i64 n, .string (strOf s), .slice A l.length c] 25)).alloc (.cells #[.int .u8 (k : Int), .int .i64 n', .string (strOf s'), .slice A' l'.length c'] 25) := ⟨_, rfl⟩
                have q1 : W2.heap[w.heap.size]? = some (.cells #[.int .u8 (k : Int), .int .i64 n, .string (strOf s), .slice A l.length c] 25 (0, 0)) := by
                  rw [hW2]; exact heap_old (heap_new _ _) _
                have q2 : W2.heap[w.heap.size + 1]? = some (.cells #[.int .u8 (k : Int), .int .i64 n', .string (strOf s'), .slice A' l'.length c'] 25 (0, 0)) := by
                  rw [hW2]; exact heap_new' _ _ _ (by simp)
                have q3 : Below w.heap.size w W2 := by rw [hW2]; exact two _ _ _
                have q4 : W2.heap.size = w.heap.size + 2 := by rw [hW2]; simp
                have Q4 := Lib.hid q4
                rw [← hW2]
                clear hW2 q4
                go_loopw [58] (fun i wr => ∃ j : Nat, j ≤ l.length ∧ i = .int .i64 (j : Int) ∧ Hid (cmF (cmv L) (l.take j) (l'.take j) = 0) ∧ Below W2.heap.size W2 wr) (fun i _ => l.length - (intOf i).toNat)
                case atStart => exact ⟨0, Nat.zero_le _, rfl, (by show cmF _ _ _ = 0; simp [cmF]), Below.refl _ _⟩
                case round =>
                  obtain ⟨j, hj, rfl, HF, hbr⟩ := hrel
                  by_cases hlt : j < l.length
                  · have hlt' : j < l'.length := by have := HLL.out; omega
                    obtain ⟨b, o, y0, y1, y2, y3, rfl, hbB, hrange, hrepj⟩ := hl.at j hlt
                    obtain ⟨b', o', z0, z1, z2, z3, rfl, hbB', hrange', hrepj'⟩ := hl'.at j hlt'
                    have hbel : Below B w wr := (q3.mono hB).trans (hbr.mono (by have := Q4.out; omega))
                    have HC := Lib.hid (cmF_cut (f := cmv L) HLL.out j hlt hlt' HF.out)
                    have hr1 := hrepj.under hbel
                    have hr2 := hrepj'.under hbel
                    generalize l[j] = tj at *
                    generalize l'[j] = uj at *
                    obtain ⟨kj, nj, sj, lj⟩ := tj
                    obtain ⟨kj', nj', sj', lj'⟩ := uj
                    obtain ⟨Aj, cj, rfl, rfl, rfl, rfl, -⟩ := hrepj.parts
                    obtain ⟨Aj', cj', rfl, rfl, rfl, rfl, -⟩ := hrepj'.parts
                    have d0 : wr.cell? ⟨b, o + j * 4, none⟩ = some _ := (hbel.cell hbB).trans (hrange 0 _ rfl)
                    have d1 : wr.cell? ⟨b, o + j * 4 + 1, none⟩ = some _ := (hbel.cell hbB).trans (hrange 1 _ rfl)
                    have d2 : wr.cell? ⟨b, o + j * 4 + 2, none⟩ = some _ := (hbel.cell hbB).trans (hrange 2 _ rfl)
                    have d3 : wr.cell? ⟨b, o + j * 4 + 3, none⟩ = some _ := (hbel.cell hbB).trans (hrange 3 _ rfl)
                    have e0 : wr.cell? ⟨b', o' + j * 4, none⟩ = some _ := (hbel.cell hbB').trans (hrange' 0 _ rfl)
                    have e1 : wr.cell? ⟨b', o' + j * 4 + 1, none⟩ = some _ := (hbel.cell hbB').trans (hrange' 1 _ rfl)
                    have e2 : wr.cell? ⟨b', o' + j * 4 + 2, none⟩ = some _ := (hbel.cell hbB').trans (hrange' 2 _ rfl)
                    have e3 : wr.cell? ⟨b', o' + j * 4 + 3, none⟩ = some _ := (hbel.cell hbB').trans (hrange' 3 _ rfl)
                    have p1 : wr.cell? ⟨w.heap.size, 3, none⟩ = some (.slice (some ⟨b, o, none⟩) l.length c) := by
                      have := range_new wr _ _ _ _ _ _ (heap_below q1 hbr) 3 _ rfl
                      simpa using this
                    have p2 : wr.cell? ⟨w.heap.size + 1, 3, none⟩ = some (.slice (some ⟨b', o', none⟩) l'.length c') := by
                      have := range_new wr _ _ _ _ _ _ (heap_below q2 hbr) 3 _ rfl
                      simpa using this
                    have hfr : Fun1 wr br 82 (compareF br) := heap_below (heap_below hf q3) hbr
                    have p3 : wr.cell? ⟨br, 0, none⟩ = some (compareF br) := hfr.cell
                    unfold compareF at p3
                    have p4 : IntKind.i64.wrap (lev + 1) = lev + 1 := IntWalk.i64_in _ (by omega)
                    have p5 : (j : Int) < l.length := by omega
                    have p6 : (j : Int) < l'.length := by omega
                    have p7 : (0 : Int) ≤ j := by omega
                    clear hrange hrange' hrepj hrepj' q1 q2
                    go_wp2_with fail
                    go_still_tail 13, (by kernel_rfl)
                    clear d0 d1 d2 d3 e0 e1 e2 e3 p1 p2 p3 p4
                    go_wp2_with fail
                    refine (ih _ _ _ _ (lev + 1) wr.drew B br (by omega) hL1 (by omega) (hr1.keep fun _ _ => rfl) (hr2.keep fun _ _ => rfl) (Nat.le_trans hB (Nat.le_trans q3.size hbr.size)) hfr).mono ?_
                    rintro e w3 ⟨rfl, hb3⟩
                    have hb4 : Below W2.heap.size W2 w3 := nxt hbr (of_drew hb3)
                    have hb5 : Below w.heap.size w w3 := q3.trans (hb4.mono (by have := Q4.out; omega))
                    clear hb3 hr1 hr2 hbr hbel hfr
                    generalize cmv L (.mk kj nj sj lj) (.mk kj' nj' sj' lj') = z at *
                    by_cases hz : z = 0
                    · have HC2 := Lib.hid (HC.out.2 hz)
                      have z1 : (z == 0) = true := by rw [hz]; rfl
                      have z2 : (z != 0) = false := by rw [hz]; rfl
                      clear hz HC
                      go_wp2_with fail
                      go_roundw
                      case rel => exact ⟨j + 1, by omega, by go_num, HC2, hb4⟩
                      case measure => simp [intOf]; omega
                    · have HC2 := Lib.hid (HC.out.1 hz)
                      have z1 : (z == 0) = false := beq_eq_false_iff_ne.2 hz
                      have z2 : (z != 0) = true := by simpa using hz
                      clear hz HC
                      go_wp2_with fail
                      go_ret
                      exact ⟨ret_int (by rw [HK2.out, HC2.out]), hb5⟩
                  · obtain rfl : j = l.length := by omega
                    rw [List.take_length, HLL.out, List.take_length] at HF
                    go_wp2_with fail
                    go_ret
                    exact ⟨ret_int (by rw [HK2.out, HF.out]), q3.trans (hbr.mono (by have := Q4.out; omega))⟩
            · have HSG : Hid (cmv (L + 1) (.mk k n s l) (.mk k n' s' l') = sg (l.length : Int) (l'.length : Int)) := by
                show _ = _
                rw [HK.out, if_pos hll]
              have hne : sg (l.length : Int) (l'.length : Int) ≠ 0 := fun h => hll (by have := sg_zero h; omega)
              have g6 : (sg (l.length : Int) (l'.length : Int) == 0) = false := beq_eq_false_iff_ne.2 hne
              have g7 : (sg (l.length : Int) (l'.length : Int) != 0) = true := by simpa using hne
              clear HK hll hne
              generalize hz : sg (l.length : Int) (l'.length : Int) = z at *
              have HZ := Lib.hid hz
              clear hz
              go_enter Tryd.func52, Tryd.ntmps52
              go_wp2_with (go_at_call 56; refine (cmp_int _ _ _).mono ?_; rintro e w2 ⟨rfl, rfl⟩; rw [HZ.out])
              go_ret
              exact ⟨ret_int HSG.out.symm, two _ _ _⟩
          · have g4 : ((k : Int) == 4) = false := beq_eq_false_iff_ne.2 (by omega)
            have HK : Hid (cmv (L + 1) (.mk k n s l) (.mk k n' s' l') = 0) := by
              show _ = _
              rw [HV.out, cmb, if_neg HN.out, if_neg h3, if_neg h4]
            clear HV h3 h4
            go_enter Tryd.func52, Tryd.ntmps52
            go_wp2_with fail
            go_ret
            exact ⟨ret_int HK.out.symm, two _ _ _⟩
    · have HK : Hid (cmv (L + 1) (.mk k n s l) (.mk k' n' s' l') = sg k k') := cmv_other hk
      have g1 : ((k : Int) == (k' : Int)) = false := beq_eq_false_iff_ne.2 (by omega)
      have g2 : ((k : Int) != (k' : Int)) = true := by simp; omega
      clear hk
      go_enter Tryd.func52, Tryd.ntmps52
      go_wp2_with (go_at_call 53; refine (cmp_kind _ _ _).mono ?_; rintro e w2 ⟨rfl, rfl⟩)
      go_ret
      exact ⟨ret_int HK.out.symm, two _ _ _⟩
end Go.Proofs.YtfobmlicmbelnaaDoor
