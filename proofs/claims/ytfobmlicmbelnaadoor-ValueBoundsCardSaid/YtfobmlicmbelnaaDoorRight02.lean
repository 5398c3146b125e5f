/- droverlaw02.right: the walk; and what Same says of two right values' bytes. -/
import Derived.Test.YtfobmlicmbelnaaDoorSmall
import Derived.Test.YtfobmlicmbelnaaDoorLaw02
import Derived.Test.YtfobmlicmbelnaaDoorCompare
namespace Go.Proofs.YtfobmlicmbelnaaDoor
open Go.RowKit

set_option maxRecDepth 100000 in
theorem right02_any (t : Va) (v : Value) (w : World) (B : Nat) (h : Rep w B v t) (hB : B ≤ w.heap.size) :
    Calls Tryd.prog 30 #[v] w fun e w' => e = .returned (.bool (smallV 60 20 t && right t)) ∧ Below w.heap.size w w' := by
  obtain ⟨y0, y1, y2, y3, rfl⟩ := h.form
  have hbox0 := heap_new w (.cells #[y0, y1, y2, y3] 25)
  have hb0 := (Below.refl w.heap.size w).alloc (Nat.le_refl _) (.cells #[y0, y1, y2, y3] 25)
  go_enter Tryd.func30, Tryd.ntmps30
  go_wp2_with fail
  refine (small_any 60 (by omega) 20 t _ _ B (by omega) (h.under (hb0.mono hB)) (Nat.le_trans hB hb0.size)).mono ?_
  rintro e w3 ⟨rfl, hb3'⟩
  have hb3 := nxt hb0 hb3'
  obtain ⟨d0, d1, d2, d3⟩ := box4 (heap_below hbox0 hb3')
  clear hb3' hb0 hbox0
  cases hs : smallV 60 20 t with
  | false =>
    go_wp2_with fail
    go_ret
    exact ⟨ret_bool (by simp [hs]), hb3⟩
  | true =>
    go_wp2_with fail
    refine (right_any t _ _ B (h.under (hb3.mono hB)) (Nat.le_trans hB hb3.size)).mono ?_
    rintro e w4 ⟨rfl, hb4⟩
    have hb5 := nxt hb3 hb4
    clear hb4 hb3
    go_wp2_with fail
    go_ret
    exact ⟨ret_bool (by simp [hs]), hb5⟩

theorem cmV_zero {t u : Va} (ht : right t = true) (hu : right u = true) : cmV t u = 0 ↔ t = u := by
  obtain ⟨m, hm⟩ := right_rgt ht
  obtain ⟨k, hk⟩ := right_rgt hu
  constructor
  · exact fun h => cmv_zero 16 t u (rgt_rt 16 _ 256 m hm).1 (rgt_rt 16 _ 256 k hk).1 h
  · rintro rfl
    exact cmv_self 16 t
theorem enc_same {t u : Va} (ht : right t = true) (hu : right u = true) (ot : Ok 16 t) (ou : Ok 16 u) (x y : List Nat) (h : enc 16 t ++ x = enc 16 u ++ y) : t = u := by
  obtain ⟨m, hm⟩ := right_rgt ht
  obtain ⟨k, hk⟩ := right_rgt hu
  exact enc_inj 16 t u x y m k hm hk ot ou h
theorem apart {t u : Va} (ht : right t = true) (hu : right u = true) (ot : Ok 16 t) (ou : Ok 16 u) (n : Nat) (hn : (n = (enc 16 t).length ∧ n ≤ (enc 16 u).length) ∨ (n = (enc 16 u).length ∧ n ≤ (enc 16 t).length)) :
    decide ((enc 16 t).take n = (enc 16 u).take n) = decide (cmV t u = 0) := by
  rw [decide_eq_decide, cmV_zero ht hu]
  constructor
  · intro h
    rcases hn with ⟨h1, h2⟩ | ⟨h1, h2⟩
    · rw [h1, List.take_length, ← h1] at h
      refine enc_same ht hu ot ou ((enc 16 u).drop n) [] ?_
      rw [h, List.append_nil, List.take_append_drop]
    · rw [h1, List.take_length, ← h1] at h
      refine enc_same ht hu ot ou [] ((enc 16 t).drop n) ?_
      rw [← h, List.append_nil, List.take_append_drop]
  · rintro rfl
    rfl
theorem getR_cut {t : Va} (ht : right t = true) (ot : Ok 16 t) (j : Nat) (hj : j < (enc 16 t).length) : getR ((enc 16 t).take j) 0 = .error 11 := by
  obtain ⟨m, hm⟩ := right_rgt ht
  unfold getR
  rw [if_neg (by simp)]
  exact dec_cut 16 _ t [] 256 m j (by simp) hj (by omega) hm ot
end Go.Proofs.YtfobmlicmbelnaaDoor
