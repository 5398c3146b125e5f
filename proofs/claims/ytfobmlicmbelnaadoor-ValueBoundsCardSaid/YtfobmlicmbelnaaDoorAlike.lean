/- drover/droverlow.Alike, at a value and the same: the walk. -/
import Derived.Test.YtfobmlicmbelnaaDoorBuf
import Derived.StillTailTactics
import Derived.BigQuiet
namespace Go.Proofs.YtfobmlicmbelnaaDoor
open Go.RowKit

set_option maxRecDepth 100000 in
set_option maxHeartbeats 1600000 in
theorem alike_any : ∀ (L : Nat) (t : Va) (v v' : Value) (w : World) (B : Nat), Rt L t → Rep w B v t → Rep w B v' t → B ≤ w.heap.size →
    Calls Tryd.prog 29 #[v, v'] w fun e w' => e = .returned (.bool true) ∧ Below w.heap.size w w' := by
  intro L
  induction L with
  | zero => intro t v v' w B h; exact h.elim
  | succ L ih =>
    intro t v v' w B hrt hrep hrep' hB
    obtain ⟨k, n, s, l⟩ := t
    obtain ⟨y0, y1, y2, y3, rfl⟩ := hrep.form
    obtain ⟨z0, z1, z2, z3, rfl⟩ := hrep'.form
    obtain ⟨A, c, rfl, rfl, rfl, rfl, hk8, hn0, hn1, hs8, hsl, hcl, hcm, hl⟩ := hrep.parts
    obtain ⟨A', c', rfl, rfl, rfl, rfl, -, -, -, -, -, hcl', hcm', hl'⟩ := hrep'.parts
    have hparts : ∀ i (h : i < l.length), Rt L l[i] := by
      intro i h
      rcases hrt with ⟨_, h2⟩ | ⟨_, _, _, h4⟩
      · obtain ⟨rfl, _⟩ := lf_cases h2
        simp at h
      · exact h4 _ (List.getElem_mem h)
    have HP := Lib.hid hparts
    clear hparts hs8 hk8 hn0 hn1 hrep hrep' hrt
    obtain ⟨W2, hW2⟩ : ∃ W2 : World, W2 = (w.alloc (.cells #[.int .u8 (k : Int), .int .i64 n, .string (strOf s), .slice A l.length c] 25)).alloc (.cells #[.int .u8 (k : Int), .int .i64 n, .string (strOf s), .slice A' l.length c'] 25) := ⟨_, rfl⟩
    have q1 : W2.heap[w.heap.size]? = some (.cells #[.int .u8 (k : Int), .int .i64 n, .string (strOf s), .slice A l.length c] 25 (0, 0)) := by rw [hW2]; exact heap_old (heap_new _ _) _
    have q2 : W2.heap[w.heap.size + 1]? = some (.cells #[.int .u8 (k : Int), .int .i64 n, .string (strOf s), .slice A' l.length c'] 25 (0, 0)) := by rw [hW2]; exact heap_new' _ _ _ (by simp)
    have q3 : Below w.heap.size w W2 := by rw [hW2]; exact two _ _ _
    have HW := Lib.hid hW2
    clear hW2
    go_enter Tryd.func29, Tryd.ntmps29
    go_wp2_with fail
    rw [← HW.out]
    go_loopw [5] (fun i wr => ∃ j : Nat, j ≤ l.length ∧ i = .int .i64 (j : Int) ∧ Below W2.heap.size W2 wr) (fun i _ => l.length - (intOf i).toNat)
    case atStart => exact ⟨0, Nat.zero_le _, rfl, Below.refl _ _⟩
    case round =>
      obtain ⟨j, hj, rfl, hbr⟩ := hrel
      obtain ⟨p0, p1, p2, p3⟩ := box4 (heap_below q1 hbr)
      obtain ⟨r0, r1, r2, r3⟩ := box4 (heap_below q2 hbr)
      have hb5 : Below w.heap.size w wr := q3.trans (hbr.mono q3.size)
      have hbel : Below B w wr := hb5.mono hB
      by_cases hlt : j < l.length
      · obtain ⟨b, o, y0, y1, y2, y3, rfl, hbB, hrange, hrepj⟩ := hl.at j hlt
        obtain ⟨b', o', z0, z1, z2, z3, rfl, hbB', hrange', hrepj'⟩ := hl'.at j hlt
        have hrtj := HP.out j hlt
        have hr1 := hrepj.under hbel
        have hr2 := hrepj'.under hbel
        generalize l[j] = tj at *
        obtain ⟨kj, nj, sj, lj⟩ := tj
        obtain ⟨Aj, cj, rfl, rfl, rfl, rfl, -⟩ := hrepj.parts
        obtain ⟨Aj', cj', rfl, rfl, rfl, rfl, -⟩ := hrepj'.parts
        have d0 : wr.cell? ⟨b, o + j * 4, none⟩ = some _ := (hbel.cell hbB).trans (hrange 0 _ rfl)
        have d1 : wr.cell? ⟨b, o + j * 4 + 1, none⟩ = some _ := (hbel.cell hbB).trans (hrange 1 _ rfl)
        have d2 : wr.cell? ⟨b, o + j * 4 + 2, none⟩ = some _ := (hbel.cell hbB).trans (hrange 2 _ rfl)
        have d3 : wr.cell? ⟨b, o + j * 4 + 3, none⟩ = some _ := (hbel.cell hbB).trans (hrange 3 _ rfl)
        have e0 : wr.cell? ⟨b', o' + j * 4, none⟩ = some _ := (hbel.cell hbB').trans (hrange' 0 _ rfl)
        have e1 : wr.cell? ⟨b', o' + j * 4 + 1, none⟩ = some _ := (hbel.cell hbB').trans (hrange' 1 _ rfl)
        have e2 : wr.cell? ⟨b', o' + j * 4 + 2, none⟩ = some _ := (hbel.cell hbB').trans (hrange' 2 _ rfl)
        have e3 : wr.cell? ⟨b', o' + j * 4 + 3, none⟩ = some _ := (hbel.cell hbB').trans (hrange' 3 _ rfl)
        have x5 : (j : Int) < l.length := by omega
        have x7 : (0 : Int) ≤ j := by omega
        clear hrange hrange' hrepj hrepj'
        go_wp2_with fail
        go_still_tail 10, (by kernel_rfl)
        clear d0 d1 d2 d3 e0 e1 e2 e3 p0 p1 p2 p3 r0 r1 r2 r3
        go_wp2_with fail
        refine (ih _ _ _ wr.drew B hrtj (hr1.keep fun _ _ => rfl) (hr2.keep fun _ _ => rfl) (Nat.le_trans hB hb5.size)).mono ?_
        rintro e w3 ⟨rfl, hb3⟩
        have hb4 : Below W2.heap.size W2 w3 := nxt hbr (of_drew hb3)
        clear hb3 hbr hr1 hr2
        go_wp2_with fail
        go_roundw
        case rel => exact ⟨j + 1, by omega, by go_num, hb4⟩
        case measure => simp [intOf]; omega
      · obtain rfl : j = l.length := by omega
        go_wp2_with fail
        go_ret
        exact ⟨rfl, hb5⟩
end Go.Proofs.YtfobmlicmbelnaaDoor
