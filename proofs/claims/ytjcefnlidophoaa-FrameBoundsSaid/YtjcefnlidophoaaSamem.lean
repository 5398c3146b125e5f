/- drover/droverlow.SameMsg, at a message and the same: the walk. -/
import Derived.Test.YtjcefnlidophoaaMs
import Derived.Test.YtjcefnlidophoaaGd
namespace Go.Proofs.Ytjcefnlidophoaa
open Go.RowKit

theorem keepM {w w' : World} {v : Value} {m : Ms} (h : MRep w (fun b => b < w.heap.size) v m) (hb : Below w.heap.size w w') : MRep w' (fun b => b < w.heap.size) v m := h.keep (fun _ hp => hb.cell hp) (fun _ h => h)
set_option maxRecDepth 100000 in
set_option maxHeartbeats 3200000 in
theorem samem_any (m : Ms) (v v' : Value) (w : World) (hm : ∀ x ∈ m.vals, Rt 16 x) (n1 : m.nums.length ≤ 1000) (n2 : m.vals.length ≤ 1000) (n3 : m.blobs.length ≤ 1000) (h : MRep w (fun b => b < w.heap.size) v m) (h' : MRep w (fun b => b < w.heap.size) v' m) :
    Calls Try.prog 15 #[v, v'] w fun e w' => e = .returned (.bool true) ∧ Below w.heap.size w w' := by
  obtain ⟨-, An, cn, Av, cv, Ab, cb, rfl, -, -, -, hn, hv, hb⟩ := h
  obtain ⟨-, An', cn', Av', cv', Ab', cb', rfl, -, -, -, hn', hv', hb'⟩ := h'
  have HM := Lib.hid hm
  clear hm
  obtain ⟨W2, hW2⟩ : ∃ W2 : World, W2 = (w.alloc (.cells #[.int .u8 (m.k : Int), .slice An m.nums.length cn, .slice Av m.vals.length cv, .slice Ab m.blobs.length cb] 26)).alloc (.cells #[.int .u8 (m.k : Int), .slice An' m.nums.length cn', .slice Av' m.vals.length cv', .slice Ab' m.blobs.length cb'] 26) := ⟨_, rfl⟩
  have q1 : W2.heap[w.heap.size]? = some (.cells #[.int .u8 (m.k : Int), .slice An m.nums.length cn, .slice Av m.vals.length cv, .slice Ab m.blobs.length cb] 26 (0, 0)) := by rw [hW2]; exact heap_old (heap_new _ _) _
  have q2 : W2.heap[w.heap.size + 1]? = some (.cells #[.int .u8 (m.k : Int), .slice An' m.nums.length cn', .slice Av' m.vals.length cv', .slice Ab' m.blobs.length cb'] 26 (0, 0)) := by rw [hW2]; exact heap_new' _ _ _ (by simp)
  have q3 : Below w.heap.size w W2 := by rw [hW2]; exact two _ _ _
  have HW := Lib.hid hW2
  clear hW2
  go_enter Try.func15, Try.ntmps15
  go_wp2_with fail
  rw [← HW.out]
  go_loopw [5] (fun i wr => ∃ j : Nat, j ≤ m.nums.length ∧ i = .int .i64 (j : Int) ∧ Below W2.heap.size W2 wr) (fun i _ => m.nums.length - (intOf i).toNat)
  case atStart => exact ⟨0, Nat.zero_le _, rfl, Below.refl _ _⟩
  case round =>
    obtain ⟨j, hj, rfl, hbr⟩ := hrel
    obtain ⟨p0, p1, p2, p3⟩ := box4 (heap_below q1 hbr)
    obtain ⟨r0, r1, r2, r3⟩ := box4 (heap_below q2 hbr)
    have hb5 : Below w.heap.size w wr := q3.trans (hbr.mono q3.size)
    by_cases hlt : j < m.nums.length
    · obtain ⟨b, o, rfl, hbB, hc⟩ := hn (by intro h0; rw [List.map_eq_nil_iff.1 h0] at hlt; simp at hlt)
      obtain ⟨b', o', rfl, hbB', hc'⟩ := hn' (by intro h0; rw [List.map_eq_nil_iff.1 h0] at hlt; simp at hlt)
      have d0 : wr.cell? ⟨b, o + j, none⟩ = some (.int .i64 (m.nums.getD j 0)) := (hb5.cell hbB).trans (hc j _ (by simp [zv, hlt]))
      have e0 : wr.cell? ⟨b', o' + j, none⟩ = some (.int .i64 (m.nums.getD j 0)) := (hb5.cell hbB').trans (hc' j _ (by simp [zv, hlt]))
      have x5 : (j : Int) < m.nums.length := by omega
      have x7 : (0 : Int) ≤ j := by omega
      generalize m.nums.getD j 0 = x at *
      clear hc hc'
      go_wp2_with fail
      go_quiet (fail)
      go_wp2_with fail
      go_roundw
      case rel => exact ⟨j + 1, by omega, by go_num, below_drewN hbr _⟩
      case measure => simp [intOf]; omega
    · obtain rfl : j = m.nums.length := by omega
      have hbr1 : Below W2.heap.size W2 wr := hbr
      go_wp2_with fail
      clear hbr hb5 hlt hj p0 p1 p2 p3 r0 r1 r2 r3 hn hn'
      go_loopw [6] (fun i wr => ∃ j : Nat, j ≤ m.vals.length ∧ i = .int .i64 (j : Int) ∧ Below W2.heap.size W2 wr) (fun i _ => m.vals.length - (intOf i).toNat)
      case atStart => exact ⟨0, Nat.zero_le _, rfl, hbr1⟩
      case round =>
        clear hbr1
        obtain ⟨j, hj, rfl, hbr⟩ := hrel
        obtain ⟨p0, p1, p2, p3⟩ := box4 (heap_below q1 hbr)
        obtain ⟨r0, r1, r2, r3⟩ := box4 (heap_below q2 hbr)
        have hb5 : Below w.heap.size w wr := q3.trans (hbr.mono q3.size)
        by_cases hlt : j < m.vals.length
        · obtain ⟨b, o, y0, y1, y2, y3, rfl, hbB, hrange, hrepj⟩ := hv.at j hlt
          obtain ⟨b', o', z0, z1, z2, z3, rfl, hbB', hrange', hrepj'⟩ := hv'.at j hlt
          have hrtj := HM.out _ (List.getElem_mem hlt)
          have hr1 := hrepj.under hb5
          have hr2 := hrepj'.under hb5
          generalize m.vals[j] = tj at *
          obtain ⟨kj, nj, sj, lj⟩ := tj
          obtain ⟨Aj, cj, rfl, rfl, rfl, rfl, -⟩ := hrepj.parts
          obtain ⟨Aj', cj', rfl, rfl, rfl, rfl, -⟩ := hrepj'.parts
          have d0 : wr.cell? ⟨b, o + j * 4, none⟩ = some _ := (hb5.cell hbB).trans (hrange 0 _ rfl)
          have d1 : wr.cell? ⟨b, o + j * 4 + 1, none⟩ = some _ := (hb5.cell hbB).trans (hrange 1 _ rfl)
          have d2 : wr.cell? ⟨b, o + j * 4 + 2, none⟩ = some _ := (hb5.cell hbB).trans (hrange 2 _ rfl)
          have d3 : wr.cell? ⟨b, o + j * 4 + 3, none⟩ = some _ := (hb5.cell hbB).trans (hrange 3 _ rfl)
          have e0 : wr.cell? ⟨b', o' + j * 4, none⟩ = some _ := (hb5.cell hbB').trans (hrange' 0 _ rfl)
          have e1 : wr.cell? ⟨b', o' + j * 4 + 1, none⟩ = some _ := (hb5.cell hbB').trans (hrange' 1 _ rfl)
          have e2 : wr.cell? ⟨b', o' + j * 4 + 2, none⟩ = some _ := (hb5.cell hbB').trans (hrange' 2 _ rfl)
          have e3 : wr.cell? ⟨b', o' + j * 4 + 3, none⟩ = some _ := (hb5.cell hbB').trans (hrange' 3 _ rfl)
          have x5 : (j : Int) < m.vals.length := by omega
          have x7 : (0 : Int) ≤ j := by omega
          clear hrange hrange' hrepj hrepj'
          go_wp2_with fail
          go_still_tail 10, (by kernel_rfl)
          clear d0 d1 d2 d3 e0 e1 e2 e3 p0 p1 p2 p3 r0 r1 r2 r3
          go_wp2_with fail
          refine (alike_any 16 _ _ _ wr.drew w.heap.size hrtj (hr1.keep fun _ _ => rfl) (hr2.keep fun _ _ => rfl) hb5.size).mono ?_
          rintro e w3 ⟨rfl, hb3⟩
          have hb4 : Below W2.heap.size W2 w3 := nxt hbr (of_drew hb3)
          clear hb3 hbr hr1 hr2
          go_wp2_with fail
          go_roundw
          case rel => exact ⟨j + 1, by omega, by go_num, hb4⟩
          case measure => simp [intOf]; omega
        · obtain rfl : j = m.vals.length := by omega
          have hbr1 : Below W2.heap.size W2 wr := hbr
          go_wp2_with fail
          clear hbr hb5 hlt hj p0 p1 p2 p3 r0 r1 r2 r3 hv hv'
          go_loopw [7] (fun i wr => ∃ j : Nat, j ≤ m.blobs.length ∧ i = .int .i64 (j : Int) ∧ Below W2.heap.size W2 wr) (fun i _ => m.blobs.length - (intOf i).toNat)
          case atStart => exact ⟨0, Nat.zero_le _, rfl, hbr1⟩
          case round =>
            clear hbr1
            obtain ⟨j, hj, rfl, hbr⟩ := hrel
            obtain ⟨p0, p1, p2, p3⟩ := box4 (heap_below q1 hbr)
            obtain ⟨r0, r1, r2, r3⟩ := box4 (heap_below q2 hbr)
            have hb5 : Below w.heap.size w wr := q3.trans (hbr.mono q3.size)
            by_cases hlt : j < m.blobs.length
            · obtain ⟨x, hx⟩ : ∃ x, x = m.blobs[j] := ⟨_, rfl⟩
              obtain ⟨b, o, Ae, ce, rfl, hbB, hc, hce, hae, he8⟩ := hb j x (by rw [hx]; exact List.getElem?_eq_getElem hlt)
              obtain ⟨b', o', Ae', ce', rfl, hbB', hc', hce', hae', -⟩ := hb' j x (by rw [hx]; exact List.getElem?_eq_getElem hlt)
              have d0 : wr.cell? ⟨b, o + j, none⟩ = some (.slice Ae x.length ce) := (hb5.cell hbB).trans hc
              have e0 : wr.cell? ⟨b', o' + j, none⟩ = some (.slice Ae' x.length ce') := (hb5.cell hbB').trans hc'
              have hs1 : Bs wr (.slice Ae x.length ce) x := ⟨⟨Ae, ce, rfl, hce, ((hae.at_ (fun _ h => h)).below hb5).more hb5.size⟩, he8⟩
              have hs2 : Bs wr (.slice Ae' x.length ce') x := ⟨⟨Ae', ce', rfl, hce', ((hae'.at_ (fun _ h => h)).below hb5).more hb5.size⟩, he8⟩
              have SB : Hid (∀ n, Calls Try.prog 14 #[.slice Ae x.length ce, .slice Ae' x.length ce'] (wr.drewN n) fun e w' => e = .returned (.bool true) ∧ w' = wr.drewN n) := fun n => (same_bs _ _ x x true _ (hs1.drewN n) (hs2.drewN n) (by simp)).mono fun e w' h => ⟨h.1, h.2.symm⟩
              have x5 : (j : Int) < m.blobs.length := by omega
              have x7 : (0 : Int) ≤ j := by omega
              clear hc hc' hs1 hs2 hae hae' he8 hx
              go_wp2_with fail
              go_quiet (first | (go_at_call 14; exact Calls.quiet_of_same (SB.out _)) | (fail))
              go_wp2_with fail
              go_roundw
              case rel => exact ⟨j + 1, by omega, by go_num, below_drewN hbr _⟩
              case measure => simp [intOf]; omega
            · obtain rfl : j = m.blobs.length := by omega
              go_wp2_with fail
              go_ret
              exact ⟨rfl, hb5⟩
end Go.Proofs.Ytjcefnlidophoaa
