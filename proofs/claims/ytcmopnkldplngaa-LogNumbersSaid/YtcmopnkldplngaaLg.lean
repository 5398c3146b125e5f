/- drover/log.Add: the walk. -/
import Derived.Test.YtcmopnkldplngaaLf
namespace Go.Proofs.Ytcmopnkldplngaa
open Go.RowKit

/-- What Add does, by definition: the log, the disk, the error. -/
def addL (l : Pl) (d : Pd) (x : List Nat) : Pl × Pd × Nat :=
  if takesE l x ≠ 0 then (l, d, takesE l x)
  else if (addD d (lrec x)).2 ≠ 0 then (⟨l.n, l.size, (addD d (lrec x)).2 != 5⟩, (addD d (lrec x)).1, (addD d (lrec x)).2)
  else (⟨l.n + 1, l.size + (lrec x).length, l.shut⟩, (addD d (lrec x)).1, 0)
/-- What a call on a log leaves. -/
def AfterL (w : World) (base p q : Nat) (r : Option Nat) (d' : Pd) (l' : Pl) (w' : World) : Prop := ∃ r', Lg w' base p q r' d' l' ∧ Kl p q r w w' ∧ Rw w r r'
section
variable {w w' : World} {base p q : Nat} {r : Option Nat} {d : Pd} {l : Pl}
theorem AfterL.refl (h : Lg w base p q r d l) : AfterL w base p q r d l w := ⟨r, h, Kl.refl _ _ _ _, .inl rfl⟩
theorem AfterL.of_below {w0 : World} {d' : Pd} {l' : Pl} (hb : Below w.heap.size w w0) (ha : AfterL w0 base p q r d' l' w') : AfterL w base p q r d' l' w' := by
  obtain ⟨r', h1, h2, h3⟩ := ha
  exact ⟨r', h1, (Kl.of_below hb).trans (.inl rfl) h2, Rw.trans hb.size (.inl rfl) h3⟩
theorem takesE_good {x : List Nat} (h : takesE l x = 0) (h8 : ∀ y ∈ x, y < 256) : lgood x ∧ l.shut = false := by
  unfold takesE at h
  split at h
  · omega
  · split at h
    · omega
    · split at h
      · omega
      · rename_i h1 h2 h3
        exact ⟨⟨by omega, by omega, h8⟩, by simpa using h3⟩
theorem Dk.setq (h : Dk w base p r d) (hpq : p ≠ q) (hrq : r ≠ some q) (i : Nat) (v : Value) : Dk (w.setCell ⟨q, i, none⟩ v) base p r d :=
  h.other (q := q) (r' := none) ((Kr.refl q none w).set i v) hpq (by simp) hrq (fun _ _ => by simp)
set_option maxRecDepth 100000 in
set_option maxHeartbeats 1600000 in
theorem add_any (v : Value) (x : List Nat) (h : Lg w base p q r d l) (hv : Bs w v x) (hn : l.n ≤ 1099511627776) (hsz : l.size ≤ 1099511627776) :
    Calls Try.prog 12 #[.pointer (some ⟨q, 0, none⟩), v] w fun e w' => e = .returned (.int .i64 ((addL l d x).2.2 : Int)) ∧ AfterL w base p q r (addL l d x).2.1 (addL l d x).1 w' := by
  have hW := (Below.refl w.heap.size w).alloc (Nat.le_refl _) (.cells #[.pointer (some ⟨q, 0, none⟩)] 29)
  have hbl := heap_new w (.cells #[.pointer (some ⟨q, 0, none⟩)] 29)
  have hq0 := lt_heap h.at_
  have hgW := h.below hW
  have hvW := hv.below hW
  have h8 := Lib.hid hv.2
  have HT := Lib.hid (takes_any v x hgW.at_ hvW)
  have hA1 : Hid (takesE l x ≠ 0 → addL l d x = (l, d, takesE l x)) := fun h => if_pos h
  have hA2 : Hid (takesE l x = 0 → (addD d (lrec x)).2 ≠ 0 → addL l d x = (⟨l.n, l.size, (addD d (lrec x)).2 != 5⟩, (addD d (lrec x)).1, (addD d (lrec x)).2)) := fun h k => (if_neg (by rw [h]; decide)).trans (if_pos k)
  have hA3 : Hid (takesE l x = 0 → (addD d (lrec x)).2 = 0 → addL l d x = (⟨l.n + 1, l.size + (lrec x).length, l.shut⟩, (addD d (lrec x)).1, 0)) := fun h k => (if_neg (by rw [h]; decide)).trans (if_neg (by rw [k]; decide))
  have hG := Lib.hid (takesE_good (l := l) (x := x))
  generalize addL l d x = R at *
  generalize takesE l x = t at *
  have e0 := cell_of_one hbl
  go_enter Try.func12, Try.ntmps12
  go_wp2_with fail
  refine HT.out.mono ?_
  rintro e w1 ⟨rfl, rfl⟩
  by_cases h0 : t = 0
  · subst h0
    obtain ⟨hg, hsh⟩ := hG.out rfl h8.out
    have HR := Lib.hid (record_any v x _ hvW hg)
    have hyl : (lrec x).length ≤ 1048584 := by have := lrec_length x; have := hg.2.1; omega
    have hy8 := Lib.hid (lrec_bytes x hg)
    clear hG hg HT hA1
    generalize lrec x = y at *
    go_wp2_with fail
    refine HR.out.mono ?_
    rintro e w2 ⟨vb, rfl, hob, hb2⟩
    obtain ⟨Ab, cb, rfl, hcb, -, -, -, -⟩ := id hob.form
    have hb2W := nxt hW hb2
    have hg2 := hgW.below hb2
    have hbl2 := heap_below hbl hb2
    have e0' := cell_of_one hbl2
    obtain ⟨⟨c0, c1, c2, c3, c4⟩, -⟩ := box5q hg2.at_
    have hlq2 := lt_heap hg2.at_
    have hlb2 := lt_heap hbl2
    go_wp2_with fail
    have hbt := two w2 (.cells #[.slice Ab y.length cb] 22) (.cells #[.func (.func 30) #[] #[.pointer (some ⟨w.heap.size, 0, none⟩), .pointer (some ⟨w2.heap.size, 0, none⟩)], .func (.func 31) #[.pointer (some ⟨p, 0, none⟩)] #[]] 43)
    have hbb := heap_old (heap_new w2 (.cells #[.slice Ab y.length cb] 22)) (.cells #[.func (.func 30) #[] #[.pointer (some ⟨w.heap.size, 0, none⟩), .pointer (some ⟨w2.heap.size, 0, none⟩)], .func (.func 31) #[.pointer (some ⟨p, 0, none⟩)] #[]] 43)
    have hgg := heap_new' (w2.alloc (.cells #[.slice Ab y.length cb] 22)) (.cells #[.func (.func 30) #[] #[.pointer (some ⟨w.heap.size, 0, none⟩), .pointer (some ⟨w2.heap.size, 0, none⟩)], .func (.func 31) #[.pointer (some ⟨p, 0, none⟩)] #[]] 43) (w2.heap.size + 1) (by simp)
    generalize hW4 : (w2.alloc (.cells #[.slice Ab y.length cb] 22)).alloc (.cells #[.func (.func 30) #[] #[.pointer (some ⟨w.heap.size, 0, none⟩), .pointer (some ⟨w2.heap.size, 0, none⟩)], .func (.func 31) #[.pointer (some ⟨p, 0, none⟩)] #[]] 43) = W4 at *
    clear hW4 e0 e0' c0 c1 c2 c3 c4
    have hg4 := hg2.below hbt
    have hbl4 := heap_below hbl2 hbt
    have hb4 := nxt hb2W hbt
    have hplt := h.dk.lt
    have HO := Lib.hid (oneByOne_any w.heap.size w2.heap.size (w2.heap.size + 1) _ y hg4 ((Bs.of_own hob hy8.out).below hbt) hbl4 hbb hgg)
    clear hob hg2 hbl2 hgg hbt hb2 hgW hbl hvW hb2W
    generalize addD d y = D at *
    obtain ⟨d1, e1⟩ := D
    dsimp only at HO hA2 hA3
    refine HO.out.mono ?_
    rintro e w5 ⟨rfl, r5, hd5, hk5, hr5⟩
    have hq5 : LgAt w5 q p l := hk5.heap hg4.at_ (fun e => hg4.ne e.symm) (hg4.dk.lg_row hg4.at_)
    have hbl5 := hk5.heap hbl4 (by omega) (hg4.dk.row_ne hbl4 (by decide))
    have hbb5 := hk5.heap hbb (by omega) (hg4.dk.row_ne hbb (by decide))
    have f0 := cell_of_one hbl5
    have f1 := cell_of_one hbb5
    have hkl : Kl p q r w w5 := (Kl.of_below hb4).trans (.inl rfl) (Kl.of_kr hk5)
    have hrw : Rw w r r5 := Rw.trans hb4.size (.inl rfl) hr5
    have hlow := h.low
    have hlq : w.heap.size ≤ w5.heap.size := hkl.size
    clear hk5 hr5 hbl4 hbb hg4 hb4 HO hbl5 hbb5
    obtain ⟨⟨c0, c1, c2, c3, c4⟩, ⟨g0, g1, g2, g3, g4⟩⟩ := box5q hq5
    have hpq := hd5.lg_ne hq5
    have hrq := hd5.lg_row hq5
    by_cases h0 : e1 = 0
    · subst h0
      have HR := Lib.hid (hA3.out trivial rfl)
      have s1 : IntKind.i64.wrap ((l.n : Int) + 1) = ((l.n + 1 : Nat) : Int) := by rw [IntKind.wrap_i64]; omega
      have s2 : IntKind.i64.wrap ((l.size : Int) + (y.length : Int)) = ((l.size + y.length : Nat) : Int) := by rw [IntKind.wrap_i64]; omega
      go_wp2_with fail
      go_region
      all_goals
        go_wp2_with fail
        go_ret
        rw [HR.out]
        exact ⟨rfl, r5, ⟨((hd5.setq hpq hrq _ _).drew).setq hpq hrq _ _, heap_set (heap_set hq5 2 _) 3 _, hlow⟩, ((hkl.set _ _).drew).set _ _, hrw⟩
    · have HR := Lib.hid (hA2.out trivial h0)
      have t1 : ((e1 : Int) == 0) = false := beq_eq_false_iff_ne.2 (by omega)
      have t2 : ((e1 : Int) != 0) = true := bne_iff_ne.2 (by omega)
      have t3 : ((e1 : Int) != 5) = (e1 != 5) := by
        rw [Bool.eq_iff_iff, bne_iff_ne, bne_iff_ne]
        omega
      clear h0
      generalize (e1 != 5) = b5 at *
      go_wp2_with fail
      go_ret
      rw [HR.out]
      refine ⟨rfl, r5, ⟨hd5.setq hpq hrq _ _, heap_set hq5 4 _, hlow⟩, hkl.set _ _, hrw⟩
  · have HR := Lib.hid (hA1.out h0)
    have t1 : ((t : Int) == 0) = false := beq_eq_false_iff_ne.2 (by omega)
    have t2 : ((t : Int) != 0) = true := bne_iff_ne.2 (by omega)
    clear h0
    go_wp2_with fail
    go_ret
    rw [HR.out]
    exact ⟨rfl, .of_below hW (.refl hgW)⟩
end
end Go.Proofs.Ytcmopnkldplngaa
