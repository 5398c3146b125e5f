/- drover/droverlow.SmallMsg, at 70 and 1000: the walk. -/
import Derived.Test.YtjcefnlidophoaaMs
import Derived.Test.YtjcefnlidophoaaGd
namespace Go.Proofs.Ytjcefnlidophoaa
open Go.RowKit

/-- A message that is looked at. -/
def smallM (m : Ms) : Bool := decide (m.nums.length ≤ 70) && decide (m.vals.length ≤ 70) && decide (m.blobs.length ≤ 70) && m.vals.all (smallV 60 20) && m.blobs.all (fun x => decide (x.length ≤ 1000))
theorem all_take {α : Type} (p : α → Bool) (l : List α) (j : Nat) (h : j < l.length) (ht : (l.take j).all p = true) : (l.take (j + 1)).all p = p l[j] := by
  rw [List.take_succ_eq_append_getElem h, List.all_append, ht]
  simp
theorem all_no {α : Type} (p : α → Bool) (l : List α) (j : Nat) (h : j < l.length) (hp : p l[j] = false) : l.all p = false := by
  rw [List.all_eq_false]
  exact ⟨l[j], List.getElem_mem h, by rw [hp]; decide⟩
set_option maxRecDepth 100000 in
set_option maxHeartbeats 3200000 in
theorem smallm_any (m : Ms) (v : Value) (w : World) (h : MRep w (fun b => b < w.heap.size) v m) :
    Calls Try.prog 11 #[v, .int .i64 70, .int .i64 1000] w fun e w' => e = .returned (.bool (smallM m)) ∧ Below w.heap.size w w' := by
  obtain ⟨-, An, cn, Av, cv, Ab, cb, rfl, -, -, -, -, hv, hb⟩ := h
  obtain ⟨W, hW⟩ : ∃ W : World, W = w.alloc (.cells #[.int .u8 (m.k : Int), .slice An m.nums.length cn, .slice Av m.vals.length cv, .slice Ab m.blobs.length cb] 26) := ⟨_, rfl⟩
  have q : W.heap[w.heap.size]? = some (.cells #[.int .u8 (m.k : Int), .slice An m.nums.length cn, .slice Av m.vals.length cv, .slice Ab m.blobs.length cb] 26 (0, 0)) := by rw [hW]; exact heap_new _ _
  have hbW : Below w.heap.size w W := by rw [hW]; exact (Below.refl _ _).alloc (Nat.le_refl _) _
  obtain ⟨c0, c1, c2, c3⟩ := box4 q
  rw [hW] at c0 c1 c2 c3
  by_cases h1 : 70 < m.nums.length
  · have g1 : decide ((70 : Int) < (m.nums.length : Int)) = true := by rw [decide_eq_true_iff]; omega
    have g1' : decide (70 < m.nums.length) = true := by rw [decide_eq_true_iff]; omega
    have HS : Hid (smallM m = false) := by
      show _ = _
      unfold smallM
      rw [decide_eq_false (show ¬ m.nums.length ≤ 70 by omega)]
      rfl
    clear h1
    go_enter Try.func11, Try.ntmps11
    go_wp2_with fail
    go_ret
    rw [HS.out, ← hW]
    exact ⟨rfl, hbW⟩
  have g1 : decide ((70 : Int) < (m.nums.length : Int)) = false := by rw [decide_eq_false_iff_not]; omega
  have g1' : decide (70 < m.nums.length) = false := by rw [decide_eq_false_iff_not]; omega
  by_cases h2 : 70 < m.vals.length
  · have g2 : decide ((70 : Int) < (m.vals.length : Int)) = true := by rw [decide_eq_true_iff]; omega
    have g2' : decide (70 < m.vals.length) = true := by rw [decide_eq_true_iff]; omega
    have HS : Hid (smallM m = false) := by
      show _ = _
      unfold smallM
      rw [decide_eq_false (show ¬ m.vals.length ≤ 70 by omega)]
      simp
    clear h1 h2
    go_enter Try.func11, Try.ntmps11
    go_wp2_with fail
    go_ret
    rw [HS.out, ← hW]
    exact ⟨rfl, hbW⟩
  have g2 : decide ((70 : Int) < (m.vals.length : Int)) = false := by rw [decide_eq_false_iff_not]; omega
  have g2' : decide (70 < m.vals.length) = false := by rw [decide_eq_false_iff_not]; omega
  by_cases h3 : 70 < m.blobs.length
  · have g3 : decide ((70 : Int) < (m.blobs.length : Int)) = true := by rw [decide_eq_true_iff]; omega
    have g3' : decide (70 < m.blobs.length) = true := by rw [decide_eq_true_iff]; omega
    have HS : Hid (smallM m = false) := by
      show _ = _
      unfold smallM
      rw [decide_eq_false (show ¬ m.blobs.length ≤ 70 by omega)]
      simp
    clear h1 h2 h3
    go_enter Try.func11, Try.ntmps11
    go_wp2_with fail
    go_ret
    rw [HS.out, ← hW]
    exact ⟨rfl, hbW⟩
  have g3 : decide ((70 : Int) < (m.blobs.length : Int)) = false := by rw [decide_eq_false_iff_not]; omega
  have g3' : decide (70 < m.blobs.length) = false := by rw [decide_eq_false_iff_not]; omega
  have HS : Hid (smallM m = (m.vals.all (smallV 60 20) && m.blobs.all (fun x => decide (x.length ≤ 1000)))) := by
    show _ = _
    unfold smallM
    rw [decide_eq_true (show m.nums.length ≤ 70 by omega), decide_eq_true (show m.vals.length ≤ 70 by omega), decide_eq_true (show m.blobs.length ≤ 70 by omega)]
    simp
  go_enter Try.func11, Try.ntmps11
  go_wp2_with fail
  rw [← hW]
  clear hW c0 c1 c2 c3 g1 g1' g2 g2' g3 g3'
  go_loopw [7] (fun i wr => ∃ j : Nat, j ≤ m.vals.length ∧ i = .int .i64 (j : Int) ∧ Hid ((m.vals.take j).all (smallV 60 20) = true) ∧ Below W.heap.size W wr) (fun i _ => m.vals.length - (intOf i).toNat)
  case atStart => exact ⟨0, Nat.zero_le _, rfl, rfl, Below.refl _ _⟩
  case round =>
    obtain ⟨j, hj, rfl, HT, hbr⟩ := hrel
    obtain ⟨p0, p1, p2, p3⟩ := box4 (heap_below q hbr)
    have hb5 : Below w.heap.size w wr := hbW.trans (hbr.mono hbW.size)
    by_cases hlt : j < m.vals.length
    · obtain ⟨b, o, y0, y1, y2, y3, rfl, hbB, hrange, hrepj⟩ := hv.at j hlt
      have hr1 := hrepj.under hb5
      have HN := Lib.hid (all_take (smallV 60 20) m.vals j hlt HT.out)
      have HF := Lib.hid (all_no (smallV 60 20) m.vals j hlt)
      generalize m.vals[j] = tj at *
      obtain ⟨kj, nj, sj, lj⟩ := tj
      obtain ⟨Aj, cj, rfl, rfl, rfl, rfl, -⟩ := hrepj.parts
      have d0 : wr.cell? ⟨b, o + j * 4, none⟩ = some _ := (hb5.cell hbB).trans (hrange 0 _ rfl)
      have d1 : wr.cell? ⟨b, o + j * 4 + 1, none⟩ = some _ := (hb5.cell hbB).trans (hrange 1 _ rfl)
      have d2 : wr.cell? ⟨b, o + j * 4 + 2, none⟩ = some _ := (hb5.cell hbB).trans (hrange 2 _ rfl)
      have d3 : wr.cell? ⟨b, o + j * 4 + 3, none⟩ = some _ := (hb5.cell hbB).trans (hrange 3 _ rfl)
      have hcall := Lib.hid (small_any 60 (by omega) 20 _ _ wr w.heap.size (by omega) hr1 hb5.size)
      clear hrange hrepj hr1
      generalize smallV 60 20 (.mk kj nj sj lj) = sb at *
      go_wp2_with fail
      refine hcall.out.mono ?_
      rintro e w3 ⟨rfl, hb3⟩
      have hb4 : Below W.heap.size W w3 := nxt hbr hb3
      have hb6 := nxt hb5 hb3
      clear hb3 hbr hcall hb5
      cases sb with
      | true =>
        go_wp2_with fail
        go_roundw
        case rel => exact ⟨j + 1, by omega, by go_num, HN, hb4⟩
        case measure => simp [intOf]; omega
      | false =>
        go_wp2_with fail
        go_ret
        rw [HS.out, HF.out trivial]
        exact ⟨rfl, hb6⟩
    · obtain rfl : j = m.vals.length := by omega
      have HT' : Hid (m.vals.all (smallV 60 20) = true) := by
        have := HT.out
        rw [List.take_length] at this
        exact this
      have hbr1 : Below W.heap.size W wr := hbr
      clear HT
      go_wp2_with fail
      clear hbr hb5 hlt hj p0 p1 p2 p3 hv
      go_loopw [8] (fun i wr => ∃ j : Nat, j ≤ m.blobs.length ∧ i = .int .i64 (j : Int) ∧ Hid ((m.blobs.take j).all (fun x => decide (x.length ≤ 1000)) = true) ∧ Below W.heap.size W wr) (fun i _ => m.blobs.length - (intOf i).toNat)
      case atStart => exact ⟨0, Nat.zero_le _, rfl, rfl, hbr1⟩
      case round =>
        clear hbr1
        obtain ⟨j, hj, rfl, HT, hbr⟩ := hrel
        obtain ⟨p0, p1, p2, p3⟩ := box4 (heap_below q hbr)
        have hb5 : Below w.heap.size w wr := hbW.trans (hbr.mono hbW.size)
        by_cases hlt : j < m.blobs.length
        · obtain ⟨x, hx⟩ : ∃ x, x = m.blobs[j] := ⟨_, rfl⟩
          obtain ⟨b, o, Ae, ce, rfl, hbB, hc, -, -, -⟩ := hb j x (by rw [hx]; exact List.getElem?_eq_getElem hlt)
          have d0 : wr.cell? ⟨b, o + j, none⟩ = some (.slice Ae x.length ce) := (hb5.cell hbB).trans hc
          have HN := Lib.hid (all_take (fun x => decide (x.length ≤ 1000)) m.blobs j hlt HT.out)
          have HF := Lib.hid (all_no (fun x => decide (x.length ≤ 1000)) m.blobs j hlt)
          rw [← hx] at HN HF
          clear hx hc
          by_cases hbig : 1000 < x.length
          · have k1 : decide ((1000 : Int) < (x.length : Int)) = true := by rw [decide_eq_true_iff]; omega
            have k2 : decide (1000 < x.length) = true := by rw [decide_eq_true_iff]; omega
            have HF' := Lib.hid (HF.out (decide_eq_false (by omega)))
            clear hbig HF HN
            go_wp2_with fail
            go_ret
            rw [HS.out, HF'.out, Bool.and_false]
            exact ⟨rfl, hb5⟩
          · have k1 : decide ((1000 : Int) < (x.length : Int)) = false := by rw [decide_eq_false_iff_not]; omega
            have k2 : decide (1000 < x.length) = false := by rw [decide_eq_false_iff_not]; omega
            have HN' := Lib.hid (HN.out.trans (decide_eq_true (by omega)))
            clear hbig HF HN
            go_wp2_with fail
            go_roundw
            case rel => exact ⟨j + 1, by omega, by go_num, HN', hbr⟩
            case measure => simp [intOf]; omega
        · obtain rfl : j = m.blobs.length := by omega
          have HT2 : Hid (m.blobs.all (fun x => decide (x.length ≤ 1000)) = true) := by
            have := HT.out
            rw [List.take_length] at this
            exact this
          clear HT
          go_wp2_with fail
          go_ret
          rw [HS.out, HT'.out, HT2.out]
          exact ⟨rfl, hb5⟩
end Go.Proofs.Ytjcefnlidophoaa
