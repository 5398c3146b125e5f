/- droverlaw02.awake: the walk. -/
import Derived.Test.YtfobmlicmbelnaaDoorHelp02
import Derived.Test.YtfobmlicmbelnaaDoorShow
import Derived.Deep.RegionHeld3
import Derived.Deep.DeepCutAuto
import Derived.BigQuiet
namespace Go.Proofs.YtfobmlicmbelnaaDoor
open Go.RowKit

theorem leaf_rep (k : Nat) (n : Int) (s : List Nat) (x : ByteArray) (w : World) (B : Nat) (hx : x = strOf s) (hk : k < 256) (hn0 : -9223372036854775808 ≤ n) (hn1 : n ≤ 9223372036854775807) (hs : ∀ y ∈ s, y < 256) (hsl : s.length ≤ 9223372036854775807) :
    Rep w B (.agg #[.int .u8 (k : Int), .int .i64 n, .string x, .slice none 0 0]) (.mk k n s []) := by
  subst hx
  exact (RepsS.nil w _ none).mk hk hn0 hn1 hs hsl (by simp) (by simp)
theorem reps_one (w : World) (B g : Nat) (y0 y1 y2 y3 : Value) (T : TypeId) (fr : Nat × Nat) (t : Va) (h : w.heap[g]? = some (.cells #[y0, y1, y2, y3] T fr)) (hg : g < B) (ht : Rep w B (.agg #[y0, y1, y2, y3]) t) : Reps w B (some ⟨g, 0, none⟩) [t] := by
  refine ⟨fun _ => .agg #[y0, y1, y2, y3], fun i hi => ?_, fun i t' ht' => ?_⟩
  · obtain rfl : i = 0 := by simpa using hi
    exact ⟨g, 0, y0, y1, y2, y3, rfl, hg, rfl, range_new w _ _ _ _ T fr h⟩
  · cases i with
    | zero => cases ht'; exact ht
    | succ i => simp at ht'
theorem range_at {w : World} {g : Nat} {c : Array Value} {T : TypeId} {fr : Nat × Nat} (h : w.heap[g]? = some (.cells c T fr)) (o : Nat) (y0 y1 y2 y3 : Value) (h0 : c[o]? = some y0) (h1 : c[o + 1]? = some y1) (h2 : c[o + 2]? = some y2) (h3 : c[o + 3]? = some y3) : w.rangeAt g o [y0, y1, y2, y3] := by
  have hc : ∀ j, w.cell? ⟨g, j, none⟩ = c[j]? := by
    intro j
    unfold World.cell?
    dsimp only
    rw [h]
    rfl
  intro j v hv
  rw [hc]
  match j, hv with
  | 0, hv => cases hv; exact h0
  | 1, hv => cases hv; exact h1
  | 2, hv => cases hv; exact h2
  | 3, hv => cases hv; exact h3
theorem reps_two (w : World) (B g : Nat) (y0 y1 y2 y3 z0 z1 z2 z3 : Value) (T : TypeId) (fr : Nat × Nat) (t u : Va) (h : w.heap[g]? = some (.cells #[y0, y1, y2, y3, z0, z1, z2, z3] T fr)) (hg : g < B) (ht : Rep w B (.agg #[y0, y1, y2, y3]) t) (hu : Rep w B (.agg #[z0, z1, z2, z3]) u) : Reps w B (some ⟨g, 0, none⟩) [t, u] := by
  refine ⟨fun i => if i = 0 then .agg #[y0, y1, y2, y3] else .agg #[z0, z1, z2, z3], fun i hi => ?_, fun i t' ht' => ?_⟩
  · have hi2 : i < 2 := by simpa using hi
    match i, hi2 with
    | 0, _ => exact ⟨g, 0, y0, y1, y2, y3, rfl, hg, rfl, range_at h _ _ _ _ _ rfl rfl rfl rfl⟩
    | 1, _ => exact ⟨g, 0, z0, z1, z2, z3, rfl, hg, rfl, range_at h _ _ _ _ _ rfl rfl rfl rfl⟩
  · match i, ht' with
    | 0, ht' => cases ht'; exact ht
    | 1, ht' => cases ht'; exact hu

set_option maxRecDepth 100000 in
set_option maxHeartbeats 1600000 in
theorem awake_any (w : World) (htab : Tab w w.heap.size) : Calls Tryd.prog 25 #[] w fun e w' => e = .returned (.bool true) ∧ Below w.heap.size w w' := by
  go_enter Tryd.func25, Tryd.ntmps25
  go_wp2_with fail
  refine (truth_any _ _).mono ?_
  rintro e w1 ⟨rfl, hb1⟩
  go_wp2_with fail
  refine (actor_any _ _).mono ?_
  rintro e w2 ⟨rfl, hb2'⟩
  have hb2 := nxt hb1 hb2'
  go_wp2_with fail
  refine (tuple_any _ _ _ _).mono ?_
  rintro e w3 ⟨rfl, hb3'⟩
  have hb3 : Below w.heap.size w w3 := nxt (hb2.alloc hb2.size _) hb3'
  have hA := heap_below (heap_new _ _) hb3'
  have hz2 := lt_heap hA
  have hR : Rep w3 w3.heap.size (.agg #[.int .u8 4, .int .i64 0, .string ⟨#[]⟩, .slice (some ⟨w2.heap.size, 0, none⟩) 2 2]) (.mk 4 0 [] [.mk 2 1 [] [], .mk 5 3 [] []]) :=
    (reps_two w3 w3.heap.size w2.heap.size _ _ _ _ _ _ _ _ _ _ _ _ hA hz2 (leaf_rep 2 1 [] _ _ _ rfl (by omega) (by omega) (by omega) (by simp) (by simp)) (leaf_rep 5 3 [] _ _ _ rfl (by omega) (by omega) (by omega) (by simp) (by simp))).mk (k := 4) (n := 0) (s := []) (c := 2) (by omega) (by omega) (by omega) (by simp) (by simp) (by simp) (by simp)
  clear hb1 hb2' hb2 hb3' hA hz2
  go_wp2_with fail
  obtain ⟨X, hX⟩ : ∃ X : World, X = w3.alloc (.cells #[.int .u8 4, .int .i64 0, .string ⟨#[]⟩, .slice (some ⟨w2.heap.size, 0, none⟩) 2 2] 25) := ⟨_, rfl⟩
  have hbX : Below w.heap.size w X := by rw [hX]; exact hb3.alloc hb3.size _
  have hBox : X.heap[w3.heap.size]? = some (.cells #[.int .u8 4, .int .i64 0, .string ⟨#[]⟩, .slice (some ⟨w2.heap.size, 0, none⟩) 2 2] 25 (0, 0)) := by rw [hX]; exact heap_new _ _
  have hRX : Rep X w3.heap.size (.agg #[.int .u8 4, .int .i64 0, .string ⟨#[]⟩, .slice (some ⟨w2.heap.size, 0, none⟩) 2 2]) (.mk 4 0 [] [.mk 2 1 [] [], .mk 5 3 [] []]) := by rw [hX]; exact hR.under ((Below.refl _ _).alloc (Nat.le_refl _) _)
  have hXz := lt_heap hBox
  rw [← hX]
  clear hX hb3 hR
  have htX := htab.below hbX
  have fin : ∀ w', Below X.heap.size X w' → Below w.heap.size w w' := fun w' h => hbX.trans (h.mono hbX.size)
  have tabs : ∀ w', Below X.heap.size X w' → Tab w' w'.heap.size := fun w' h => by
    have := htX.below (h.mono hbX.size)
    exact fun w2 h2 => this w2 (h2.mono (Nat.le_trans hbX.size h.size))
  clear htab hbX
  -- is(num(-1), 1, 1)
  refine (num_any _ _).mono ?_
  rintro e w4 ⟨rfl, hb4⟩
  go_wp2_with fail
  refine (is_any (.mk 1 (-1) [] []) _ _ _ 0 (leaf_rep 1 (-1) [] _ _ _ rfl (by omega) (by omega) (by omega) (by simp) (by simp)) (Nat.zero_le _) (by decide +kernel) (by rw [show enc 16 (.mk 1 (-1) [] []) = [1, 1] by decide +kernel]; exact Bs.made _ _ _ [1, 1] 2 rfl rfl (by simp))).mono ?_
  rintro e w5 ⟨rfl, hb5'⟩
  have hb5 := nxt (hb4.alloc hb4.size _) hb5'
  clear hb4 hb5'
  go_wp2_with fail
  refine (text_any _ _).mono ?_
  rintro e w6 ⟨rfl, hb6'⟩
  have hb6 := nxt hb5 hb6'
  clear hb5 hb6'
  go_wp2_with fail
  refine (is_any (.mk 3 0 [97, 98] []) _ _ _ 0 (leaf_rep 3 0 [97, 98] _ _ _ rfl (by omega) (by omega) (by omega) (by simp) (by simp)) (Nat.zero_le _) (by decide +kernel) (by rw [show enc 16 (.mk 3 0 [97, 98] []) = [3, 2, 97, 98] by decide +kernel]; exact Bs.made _ _ _ [3, 2, 97, 98] 4 rfl rfl (by simp))).mono ?_
  rintro e w7 ⟨rfl, hb7'⟩
  have hb7 := nxt (hb6.alloc hb6.size _) hb7'
  clear hb6 hb7'
  obtain ⟨d0, d1, d2, d3⟩ := box4 (heap_below hBox hb7)
  go_wp2_with fail
  refine (is_any _ _ _ _ _ (hRX.under ((hb7.alloc hb7.size _).mono (Nat.le_of_lt hXz))) (by have := hb7.size; simp; omega) (by decide +kernel) (by rw [show enc 16 (.mk 4 0 [] [.mk 2 1 [] [], .mk 5 3 [] []]) = [4, 2, 2, 1, 5, 6] by decide +kernel]; exact Bs.made _ _ _ [4, 2, 2, 1, 5, 6] 6 rfl rfl (by simp))).mono ?_
  rintro e w8 ⟨rfl, hb8'⟩
  have hb8 := nxt (hb7.alloc hb7.size _) hb8'
  clear hb7 hb8' d0 d1 d2 d3
  obtain ⟨d0, d1, d2, d3⟩ := box4 (heap_below hBox hb8)
  go_wp2_with fail
  refine (show_any _ _ _ _ (hRX.under (hb8.mono (Nat.le_of_lt hXz))) (by have := hb8.size; omega) (tabs _ hb8)).mono ?_
  rintro e w9 ⟨rfl, hb9'⟩
  have hb9 := nxt hb8 hb9'
  clear hb8 hb9' d0 d1 d2 d3 hRX hBox
  rw [show showT (.mk 4 0 [] [.mk 2 1 [] [], .mk 5 3 [] []]) = [40, 116, 114, 117, 101, 44, 32, 64, 51, 41] by decide +kernel]
  rw [show strOf [40, 116, 114, 117, 101, 44, 32, 64, 51, 41] = ⟨#[40, 116, 114, 117, 101, 44, 32, 64, 51, 41]⟩ from rfl]
  go_wp2_with fail
  -- Show(tuple(num(1)))
  refine (num_any _ _).mono ?_
  rintro e w10 ⟨rfl, hb10'⟩
  have hb10 := nxt hb9 hb10'
  clear hb9 hb10'
  go_wp2_with fail
  refine (tuple_any _ _ _ _).mono ?_
  rintro e w11 ⟨rfl, hb11'⟩
  have hb11 := nxt (hb10.alloc hb10.size _) hb11'
  have hA := heap_below (heap_new _ _) hb11'
  have hz := lt_heap hA
  have hR : Rep w11 w11.heap.size (.agg #[.int .u8 4, .int .i64 0, .string ⟨#[]⟩, .slice (some ⟨w10.heap.size, 0, none⟩) 1 1]) (.mk 4 0 [] [.mk 1 1 [] []]) :=
    (reps_one w11 w11.heap.size w10.heap.size _ _ _ _ _ _ _ hA hz (leaf_rep 1 1 [] _ _ _ rfl (by omega) (by omega) (by omega) (by simp) (by simp))).mk (k := 4) (n := 0) (s := []) (c := 1) (by omega) (by omega) (by omega) (by simp) (by simp) (by simp) (by simp)
  clear hb10 hb11' hA hz
  go_wp2_with fail
  refine (show_any _ _ _ _ hR (Nat.le_refl _) (tabs _ hb11)).mono ?_
  rintro e w12 ⟨rfl, hb12'⟩
  have hb12 := nxt hb11 hb12'
  clear hb11 hb12' hR
  rw [show showT (.mk 4 0 [] [.mk 1 1 [] []]) = [40, 49, 44, 41] by decide +kernel]
  rw [show strOf [40, 49, 44, 41] = ⟨#[40, 49, 44, 41]⟩ from rfl]
  go_wp2_with fail
  -- Show(text)
  refine (text_any _ _).mono ?_
  rintro e w13 ⟨rfl, hb13'⟩
  have hb13 := nxt hb12 hb13'
  clear hb12 hb13'
  go_wp2_with fail
  refine (show_any (.mk 3 0 [97, 34] []) _ _ 0 (leaf_rep 3 0 [97, 34] _ _ _ rfl (by omega) (by omega) (by omega) (by simp) (by simp)) (Nat.zero_le _) (tabs _ hb13)).mono ?_
  rintro e w14 ⟨rfl, hb14'⟩
  have hb14 := nxt hb13 hb14'
  clear hb13 hb14'
  rw [show showT (.mk 3 0 [97, 34] []) = [34, 97, 92, 50, 50, 34] by decide +kernel]
  rw [show strOf [34, 97, 92, 50, 50, 34] = ⟨#[34, 97, 92, 50, 50, 34]⟩ from rfl]
  go_wp2_with fail
  -- wrong
  refine (wrong_any 10 _ [9] _ (Bs.made _ _ _ [9] 1 rfl rfl (by simp)) (by simp) (by rfl)).mono ?_
  rintro e w15 ⟨rfl, hb15'⟩
  have hb15 := nxt (hb14.alloc hb14.size _) hb15'
  clear hb14 hb15'
  go_wp2_with fail
  refine (wrong_any 10 _ [2, 2] _ (Bs.made _ _ _ [2, 2] 2 rfl rfl (by simp)) (by simp) (by rfl)).mono ?_
  rintro e w16 ⟨rfl, hb16'⟩
  have hb16 := nxt (hb15.alloc hb15.size _) hb16'
  clear hb15 hb16'
  go_wp2_with fail
  refine (wrong_any 11 _ [3, 1] _ (Bs.made _ _ _ [3, 1] 2 rfl rfl (by simp)) (by simp) (by rfl)).mono ?_
  rintro e w17 ⟨rfl, hb17'⟩
  have hb17 := nxt (hb16.alloc hb16.size _) hb17'
  clear hb16 hb17'
  go_wp2_with fail
  refine (wrong_any 13 _ [5, 1] _ (Bs.made _ _ _ [5, 1] 2 rfl rfl (by simp)) (by simp) (by rfl)).mono ?_
  rintro e w18 ⟨rfl, hb18'⟩
  have hb18 := nxt (hb17.alloc hb17.size _) hb18'
  clear hb17 hb18'
  go_wp2_with fail
  -- Compare
  refine (num_any _ _).mono ?_
  rintro e w19 ⟨rfl, hb19'⟩
  have hb19 := nxt hb18 hb19'
  clear hb18 hb19'
  go_wp2_with fail
  refine (truth_any _ _).mono ?_
  rintro e w20 ⟨rfl, hb20'⟩
  have hb20 := nxt hb19 hb20'
  clear hb19 hb20'
  go_wp2_with fail
  refine (compare_any (.mk 1 9 [] []) (.mk 2 0 [] []) _ _ _ 0 (leaf_rep 1 9 [] _ _ _ rfl (by omega) (by omega) (by omega) (by simp) (by simp)) (leaf_rep 2 0 [] _ _ _ rfl (by omega) (by omega) (by omega) (by simp) (by simp)) (Nat.zero_le _)).mono ?_
  rintro e w21 ⟨rfl, hb21'⟩
  have hb21 := nxt hb20 hb21'
  clear hb20 hb21'
  rw [show cmV (.mk 1 9 [] []) (.mk 2 0 [] []) = -1 by decide +kernel]
  go_wp2_with fail
  refine (num_any _ _).mono ?_
  rintro e w22 ⟨rfl, hb22'⟩
  have hb22 := nxt hb21 hb22'
  clear hb21 hb22'
  go_wp2_with fail
  refine (tuple_any _ _ _ _).mono ?_
  rintro e w23 ⟨rfl, hb23'⟩
  have hb23 := nxt (hb22.alloc hb22.size _) hb23'
  have hA := heap_below (heap_new _ _) hb23'
  have hz := lt_heap hA
  have hR : Rep w23 w23.heap.size (.agg #[.int .u8 4, .int .i64 0, .string ⟨#[]⟩, .slice (some ⟨w22.heap.size, 0, none⟩) 1 1]) (.mk 4 0 [] [.mk 1 1 [] []]) :=
    (reps_one w23 w23.heap.size w22.heap.size _ _ _ _ _ _ _ hA hz (leaf_rep 1 1 [] _ _ _ rfl (by omega) (by omega) (by omega) (by simp) (by simp))).mk (k := 4) (n := 0) (s := []) (c := 1) (by omega) (by omega) (by omega) (by simp) (by simp) (by simp) (by simp)
  clear hb22 hb23' hA hz
  go_wp2_with fail
  refine (tuple_any _ _ _ _).mono ?_
  rintro e w24 ⟨rfl, hb24'⟩
  have hb24 := nxt hb23 hb24'
  have hR2 := hR.under hb24'
  have hz3 := hb24'.size
  clear hb23 hb24' hR
  go_wp2_with fail
  refine (compare_any _ (.mk 4 0 [] []) _ _ _ _ hR2 (leaf_rep 4 0 [] _ _ _ rfl (by omega) (by omega) (by omega) (by simp) (by simp)) hz3).mono ?_
  rintro e w25 ⟨rfl, hb25'⟩
  have hb25 := fin _ (nxt hb24 hb25')
  clear hb24 hb25' hR2 hz3 fin tabs
  rw [show cmV (.mk 4 0 [] [.mk 1 1 [] []]) (.mk 4 0 [] []) = 1 by decide +kernel]
  go_wp2_with fail
  go_ret
  exact ⟨rfl, hb25⟩
end Go.Proofs.YtfobmlicmbelnaaDoor
