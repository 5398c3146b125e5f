/- drover/droverlow.SamePacket: the walk. -/
import Derived.Test.YtjcefnlidophoaaPack
namespace Go.Proofs.Ytjcefnlidophoaa
open Go.RowKit

theorem box5f {w : World} {g : Nat} {y0 y1 y2 y3 y4 : Value} {T : TypeId} (h : w.heap[g]? = some (.cells #[y0, y1, y2, y3, y4] T (0, 0))) :
    w.cell? ⟨g, 0, none⟩ = some y0 ∧ w.cell? ⟨g, 1, none⟩ = some y1 ∧ w.cell? ⟨g, 2, none⟩ = some y2 ∧ w.cell? ⟨g, 3, none⟩ = some y3 ∧ w.cell? ⟨g, 4, none⟩ = some y4 :=
  ⟨cell_block h 0, cell_block h 1, cell_block h 2, cell_block h 3, cell_block h 4⟩
set_option maxRecDepth 100000 in
set_option maxHeartbeats 1600000 in
theorem samep_any (f l s a f' l' s' a' : Int) (d d' : List Nat) (A A' : Option Addr) (c c' : Nat) (w : World) (hd : Bs w (.slice A d.length c) d) (hd' : Bs w (.slice A' d'.length c') d') :
    Calls Try.prog 17 #[.agg #[.int .i64 f, .int .i64 l, .int .i64 s, .int .i64 a, .slice A d.length c], .agg #[.int .i64 f', .int .i64 l', .int .i64 s', .int .i64 a', .slice A' d'.length c']] w
      fun e w' => e = .returned (.bool (decide (f = f' ∧ l = l' ∧ s = s' ∧ a = a' ∧ d = d'))) ∧ Below w.heap.size w w' := by
  obtain ⟨b1, hb1⟩ : ∃ o : Obj, o = .cells #[.int .i64 f, .int .i64 l, .int .i64 s, .int .i64 a, .slice A d.length c] 29 := ⟨_, rfl⟩
  obtain ⟨b2, hb2⟩ : ∃ o : Obj, o = .cells #[.int .i64 f', .int .i64 l', .int .i64 s', .int .i64 a', .slice A' d'.length c'] 29 := ⟨_, rfl⟩
  have q1 : ((w.alloc b1).alloc b2).heap[w.heap.size]? = some b1 := heap_old (heap_new _ _) _
  have q2 : ((w.alloc b1).alloc b2).heap[w.heap.size + 1]? = some b2 := heap_new' _ _ _ (by simp)
  have hbl : Below w.heap.size w ((w.alloc b1).alloc b2) := two _ _ _
  have k1 := hd.below hbl
  have k2 := hd'.below hbl
  clear hd hd'
  obtain ⟨c0, c1, c2, c3, c4⟩ := box5f (by rw [hb1] at q1; exact q1)
  obtain ⟨d0, d1, d2, d3, d4⟩ := box5f (by rw [hb2] at q2; exact q2)
  subst hb1 hb2
  clear q1 q2
  by_cases h1 : f = f'
  · subst h1
    by_cases h2 : l = l'
    · subst h2
      by_cases h3 : s = s'
      · subst h3
        by_cases h4 : a = a'
        · subst h4
          obtain ⟨r, hr⟩ : ∃ r, r = decide (d = d') := ⟨_, rfl⟩
          have HS := Lib.hid (same_bs _ _ _ _ r _ k1 k2 hr.symm)
          have HR : Hid (decide (f = f ∧ l = l ∧ s = s ∧ a = a ∧ d = d') = r) := by
            show _ = _
            rw [hr]
            simp
          clear hr k1 k2
          go_enter Try.func17, Try.ntmps17
          go_wp2_with fail
          refine HS.out.mono ?_
          rintro e w3 ⟨rfl, rfl⟩
          go_wp2_with fail
          go_ret
          exact ⟨congrArg Ending.returned (congrArg Value.bool (by first | exact HR.out.symm | simpa using HR.out.symm)), hbl⟩
        · have g : (a == a') = false := beq_eq_false_iff_ne.2 h4
          have HR : Hid (decide (f = f ∧ l = l ∧ s = s ∧ a = a' ∧ d = d') = false) := decide_eq_false (fun h => h4 h.2.2.2.1)
          clear h4 k1 k2
          go_enter Try.func17, Try.ntmps17
          go_wp2_with fail
          go_ret
          exact ⟨congrArg Ending.returned (congrArg Value.bool (by first | exact HR.out.symm | simpa using HR.out.symm)), hbl⟩
      · have g : (s == s') = false := beq_eq_false_iff_ne.2 h3
        have HR : Hid (decide (f = f ∧ l = l ∧ s = s' ∧ a = a' ∧ d = d') = false) := decide_eq_false (fun h => h3 h.2.2.1)
        clear h3 k1 k2
        go_enter Try.func17, Try.ntmps17
        go_wp2_with fail
        go_ret
        exact ⟨congrArg Ending.returned (congrArg Value.bool (by first | exact HR.out.symm | simpa using HR.out.symm)), hbl⟩
    · have g : (l == l') = false := beq_eq_false_iff_ne.2 h2
      have HR : Hid (decide (f = f ∧ l = l' ∧ s = s' ∧ a = a' ∧ d = d') = false) := decide_eq_false (fun h => h2 h.2.1)
      clear h2 k1 k2
      go_enter Try.func17, Try.ntmps17
      go_wp2_with fail
      go_ret
      exact ⟨congrArg Ending.returned (congrArg Value.bool (by first | exact HR.out.symm | simpa using HR.out.symm)), hbl⟩
  · have g : (f == f') = false := beq_eq_false_iff_ne.2 h1
    have HR : Hid (decide (f = f' ∧ l = l' ∧ s = s' ∧ a = a' ∧ d = d') = false) := decide_eq_false (fun h => h1 h.1)
    clear h1 k1 k2
    go_enter Try.func17, Try.ntmps17
    go_wp2_with fail
    go_ret
    exact ⟨congrArg Ending.returned (congrArg Value.bool (by first | exact HR.out.symm | simpa using HR.out.symm)), hbl⟩
end Go.Proofs.Ytjcefnlidophoaa
