/- drover/droverlow.Alike and SameMsg, at any two: the walks. -/
import Derived.Test.YtjcefnlidophoaaSamem
namespace Go.Proofs.Ytjcefnlidophoaa
open Go.RowKit

/-- A truth is told: whether P. -/
def OutB (P : Prop) (w : World) (e : Ending) (w' : World) : Prop := (∃ b : Bool, e = .returned (.bool b) ∧ (b = true ↔ P)) ∧ Below w.heap.size w w'
theorem OutB.yes {P : Prop} {w w' : World} (h : P) (hb : Below w.heap.size w w') : OutB P w (.returned (.bool true)) w' := ⟨⟨true, rfl, ⟨fun _ => h, fun _ => rfl⟩⟩, hb⟩
theorem OutB.no {P : Prop} {w w' : World} (h : ¬ P) (hb : Below w.heap.size w w') : OutB P w (.returned (.bool false)) w' := ⟨⟨false, rfl, ⟨(fun h => by cases h), fun hp => absurd hp h⟩⟩, hb⟩
theorem va_mk {k k' : Nat} {n n' : Int} {s s' : List Nat} {l l' : List Va} : Va.mk k n s l = .mk k' n' s' l' ↔ k = k' ∧ n = n' ∧ s = s' ∧ l = l' := by simp
theorem ms_mk {m m' : Ms} : m = m' ↔ m.k = m'.k ∧ m.nums = m'.nums ∧ m.vals = m'.vals ∧ m.blobs = m'.blobs := by
  cases m; cases m'; simp
theorem take_more {α : Type} {a b : List α} {j : Nat} (h : a.take j = b.take j) (hj : j < a.length) (hj' : j < b.length) (he : a[j] = b[j]) : a.take (j + 1) = b.take (j + 1) := by
  rw [List.take_succ_eq_append_getElem hj, List.take_succ_eq_append_getElem hj', h, he]
theorem take_all {α : Type} {a b : List α} (h : a.take a.length = b.take a.length) (hl : b.length = a.length) : a = b := by
  rw [List.take_length, ← hl, List.take_length] at h
  exact h
theorem ne_at {α : Type} {a b : List α} {j : Nat} (hj : j < a.length) (hj' : j < b.length) (he : a[j] ≠ b[j]) : a ≠ b := by
  intro h
  subst h
  exact he rfl

set_option maxRecDepth 100000 in
set_option maxHeartbeats 3200000 in
theorem alikeb_any : ∀ (L : Nat) (t t' : Va) (v v' : Value) (w : World) (B : Nat), Rt L t → Rep w B v t → Rep w B v' t' → B ≤ w.heap.size →
    Calls Try.prog 77 #[v, v'] w (OutB (t = t') w) := by
  intro L
  induction L with
  | zero => intro t t' v v' w B h; exact h.elim
  | succ L ih =>
    intro t t' v v' w B hrt hrep hrep' hB
    obtain ⟨k, n, s, l⟩ := t
    obtain ⟨k', n', s', l'⟩ := t'
    obtain ⟨y0, y1, y2, y3, rfl⟩ := hrep.form
    obtain ⟨z0, z1, z2, z3, rfl⟩ := hrep'.form
    obtain ⟨A, c, rfl, rfl, rfl, rfl, hk8, hn0, hn1, hs8, hsl, hcl, hcm, hl⟩ := hrep.parts
    obtain ⟨A', c', rfl, rfl, rfl, rfl, -, -, -, hs8', -, hcl', hcm', hl'⟩ := hrep'.parts
    have hparts : ∀ i (h : i < l.length), Rt L l[i] := by
      intro i h
      rcases hrt with ⟨_, h2⟩ | ⟨_, _, _, h4⟩
      · obtain ⟨rfl, _⟩ := lf_cases h2
        simp at h
      · exact h4 _ (List.getElem_mem h)
    have HP := Lib.hid hparts
    have HT := Lib.hid (va_mk (k := k) (k' := k') (n := n) (n' := n') (s := s) (s' := s') (l := l) (l' := l'))
    have hse := strOf_eq s s' hs8 hs8'
    clear hparts hs8 hs8' hk8 hn0 hn1 hrep hrep' hrt
    obtain ⟨N, hN⟩ : ∃ N, Hid (l'.length = N) := ⟨_, Lib.hid rfl⟩
    rw [hN.out] at hcl'
    rw [hN.out]
    obtain ⟨W2, hW2⟩ : ∃ W2 : World, W2 = (w.alloc (.cells #[.int .u8 (k : Int), .int .i64 n, .string (strOf s), .slice A l.length c] 43)).alloc (.cells #[.int .u8 (k' : Int), .int .i64 n', .string (strOf s'), .slice A' N c'] 43) := ⟨_, rfl⟩
    have q1 : W2.heap[w.heap.size]? = some (.cells #[.int .u8 (k : Int), .int .i64 n, .string (strOf s), .slice A l.length c] 43 (0, 0)) := by rw [hW2]; exact heap_old (heap_new _ _) _
    have q2 : W2.heap[w.heap.size + 1]? = some (.cells #[.int .u8 (k' : Int), .int .i64 n', .string (strOf s'), .slice A' N c'] 43 (0, 0)) := by rw [hW2]; exact heap_new' _ _ _ (by simp)
    have q3 : Below w.heap.size w W2 := by rw [hW2]; exact two _ _ _
    have HW := Lib.hid hW2
    clear hW2
    obtain ⟨c0, c1, c2, c3⟩ := box4 q1
    obtain ⟨f0, f1, f2, f3⟩ := box4 q2
    rw [HW.out] at c0 c1 c2 c3 f0 f1 f2 f3
    generalize hP : (Va.mk k n s l = Va.mk k' n' s' l') = P at *
    have HQ : Hid (P ↔ k = k' ∧ n = n' ∧ s = s' ∧ l = l') := HT.out
    clear hP HT
    by_cases h1 : ¬ (k = k')
    · have g : ((k : Int) == (k' : Int)) = false := beq_eq_false_iff_ne.2 (by omega)
      have g' : ((k : Int) != (k' : Int)) = true := by simp only [bne, g, Bool.not_false]
      have HR : Hid (¬ P) := fun h => h1 (HQ.out.1 h).1
      clear h1 HQ hse
      go_enter Try.func77, Try.ntmps77
      go_wp2_with fail
      go_ret
      rw [← HW.out]
      exact OutB.no HR.out q3
    have h1 : k = k' := Classical.not_not.1 h1
    subst h1
    by_cases h2 : ¬ (n = n')
    · have g : (n == n') = false := beq_eq_false_iff_ne.2 h2
      have g' : (n != n') = true := by simp only [bne, g, Bool.not_false]
      have HR : Hid (¬ P) := fun h => h2 (HQ.out.1 h).2.1
      clear h2 HQ hse
      go_enter Try.func77, Try.ntmps77
      go_wp2_with fail
      go_ret
      rw [← HW.out]
      exact OutB.no HR.out q3
    have h2 : n = n' := Classical.not_not.1 h2
    subst h2
    by_cases h3 : ¬ (s = s')
    · rw [decide_eq_false h3] at hse
      have g' : ((strOf s).toList != (strOf s').toList) = true := by simp only [bne, hse, Bool.not_false]
      have HR : Hid (¬ P) := fun h => h3 (HQ.out.1 h).2.2.1
      clear h3 HQ
      generalize strOf s = S at *
      generalize strOf s' = S' at *
      go_enter Try.func77, Try.ntmps77
      go_wp2_with fail
      go_ret
      rw [← HW.out]
      exact OutB.no HR.out q3
    have h3 : s = s' := Classical.not_not.1 h3
    subst h3
    clear hse
    by_cases h4 : ¬ (N = l.length)
    · have g : ((l.length : Int) == (N : Int)) = false := beq_eq_false_iff_ne.2 (by omega)
      have g' : ((l.length : Int) != (N : Int)) = true := by simp only [bne, g, Bool.not_false]
      have HR : Hid (¬ P) := fun h => h4 (by rw [← hN.out, ← (HQ.out.1 h).2.2.2])
      clear h4 HQ
      go_enter Try.func77, Try.ntmps77
      go_wp2_with fail
      go_ret
      rw [← HW.out]
      exact OutB.no HR.out q3
    have h4 : N = l.length := Classical.not_not.1 h4
    subst h4
    have HQ2 : Hid (P ↔ l = l') := ⟨fun h => (HQ.out.1 h).2.2.2, fun h => HQ.out.2 ⟨rfl, rfl, rfl, h⟩⟩
    clear HQ c0 c1 c2 c3 f0 f1 f2 f3
    go_enter Try.func77, Try.ntmps77
    go_wp2_with fail
    rw [← HW.out]
    go_loopw [5] (fun i wr => ∃ j : Nat, j ≤ l.length ∧ i = .int .i64 (j : Int) ∧ Hid (l.take j = l'.take j) ∧ Below W2.heap.size W2 wr) (fun i _ => l.length - (intOf i).toNat)
    case atStart => exact ⟨0, Nat.zero_le _, rfl, Lib.hid (by simp), Below.refl _ _⟩
    case round =>
      obtain ⟨j, hj, rfl, htk, hbr⟩ := hrel
      obtain ⟨p0, p1, p2, p3⟩ := box4 (heap_below q1 hbr)
      obtain ⟨r0, r1, r2, r3⟩ := box4 (heap_below q2 hbr)
      have hb5 : Below w.heap.size w wr := q3.trans (hbr.mono q3.size)
      have hbel : Below B w wr := hb5.mono hB
      by_cases hlt : j < l.length
      · have hlt' : j < l'.length := by rw [hN.out]; exact hlt
        obtain ⟨b, o, y0, y1, y2, y3, rfl, hbB, hrange, hrepj⟩ := hl.at j hlt
        obtain ⟨b', o', z0, z1, z2, z3, rfl, hbB', hrange', hrepj'⟩ := hl'.at j hlt'
        have hrtj := HP.out j hlt
        have hr1 := hrepj.under hbel
        have hr2 := hrepj'.under hbel
        have HY : Hid (l[j] = l'[j] → l.take (j + 1) = l'.take (j + 1)) := fun h => take_more htk.out hlt hlt' h
        have HZ : Hid (l[j] ≠ l'[j] → ¬ P) := fun h hp => ne_at hlt hlt' h (HQ2.out.1 hp)
        generalize l[j] = tj at *
        generalize l'[j] = tj' at *
        obtain ⟨kj, nj, sj, lj⟩ := tj
        obtain ⟨kj', nj', sj', lj'⟩ := tj'
        obtain ⟨Aj, cj, rfl, rfl, rfl, rfl, -⟩ := hrepj.parts
        obtain ⟨Aj', cj', rfl, rfl, rfl, rfl, -⟩ := hrepj'.parts
        have d0 : wr.cell? ⟨b, o + j * 4, none⟩ = some _ := (hbel.cell hbB).trans (hrange 0 _ rfl)
        have d1 : wr.cell? ⟨b, o + j * 4 + 1, none⟩ = some _ := (hbel.cell hbB).trans (hrange 1 _ rfl)
        have d2 : wr.cell? ⟨b, o + j * 4 + 2, none⟩ = some _ := (hbel.cell hbB).trans (hrange 2 _ rfl)
        have d3 : wr.cell? ⟨b, o + j * 4 + 3, none⟩ = some _ := (hbel.cell hbB).trans (hrange 3 _ rfl)
        have e0 : wr.cell? ⟨b', o' + j * 4, none⟩ = some _ := (hbel.cell hbB').trans (hrange' 0 _ rfl)
        have e1 : wr.cell? ⟨b', o' + j * 4 + 1, none⟩ = some _ := (hbel.cell hbB').trans (hrange' 1 _ rfl)
        have e2 : wr.cell? ⟨b', o' + j * 4 + 2, none⟩ = some _ := (hbel.cell hbB').trans (hrange' 2 _ rfl)
        have e3 : wr.cell? ⟨b', o' + j * 4 + 3, none⟩ = some _ := (hbel.cell hbB').trans (hrange' 3 _ rfl)
        have x5 : (j : Int) < l.length := by omega
        have x7 : (0 : Int) ≤ j := by omega
        clear hrange hrange' hrepj hrepj'
        have HC := Lib.hid (ih _ _ _ _ wr.drew B hrtj (hr1.keep fun _ _ => rfl) (hr2.keep fun _ _ => rfl) (Nat.le_trans hB hb5.size))
        clear hr1 hr2
        go_wp2_with fail
        go_still_tail 10, (by kernel_rfl)
        clear d0 d1 d2 d3 e0 e1 e2 e3 p0 p1 p2 p3 r0 r1 r2 r3
        go_wp2_with fail
        refine HC.out.mono ?_
        rintro e w3 ⟨⟨bb, rfl, hbb⟩, hb3⟩
        have hb4 : Below W2.heap.size W2 w3 := nxt hbr (of_drew hb3)
        clear hb3 hbr
        cases bb with
        | true =>
          have htk2 := Lib.hid (HY.out (hbb.1 rfl))
          clear hbb
          go_wp2_with fail
          go_roundw
          case rel => exact ⟨j + 1, by omega, by go_num, htk2, hb4⟩
          case measure => simp [intOf]; omega
        | false =>
          have HR : Hid (¬ P) := HZ.out (fun h => by have := hbb.2 h; cases this)
          clear hbb
          go_wp2_with fail
          go_ret
          exact OutB.no HR.out (q3.trans (hb4.mono q3.size))
      · obtain rfl : j = l.length := by omega
        have HR : Hid P := HQ2.out.2 (take_all htk.out hN.out)
        go_wp2_with fail
        go_ret
        exact OutB.yes HR.out hb5
end Go.Proofs.Ytjcefnlidophoaa
