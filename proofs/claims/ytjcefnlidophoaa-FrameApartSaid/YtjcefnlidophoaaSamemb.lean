/- drover/droverlow.SameMsg, at any two messages: the walk. -/
import Derived.Test.YtjcefnlidophoaaAlikeb
namespace Go.Proofs.Ytjcefnlidophoaa
open Go.RowKit

set_option maxRecDepth 100000 in
set_option maxHeartbeats 6400000 in
theorem samemb_any (m m' : Ms) (v v' : Value) (w : World) (hm : ∀ x ∈ m.vals, Rt 16 x) (n1 : m.nums.length ≤ 1000) (n2 : m.vals.length ≤ 1000) (n3 : m.blobs.length ≤ 1000) (h : MRep w (fun b => b < w.heap.size) v m) (h' : MRep w (fun b => b < w.heap.size) v' m') :
    Calls Try.prog 15 #[v, v'] w (OutB (m = m') w) := by
  obtain ⟨-, An, cn, Av, cv, Ab, cb, rfl, -, -, -, hn, hv, hb⟩ := h
  obtain ⟨-, An', cn', Av', cv', Ab', cb', rfl, -, -, -, hn', hv', hb'⟩ := h'
  have HM := Lib.hid hm
  clear hm
  obtain ⟨N1, hN1⟩ : ∃ N, Hid (m'.nums.length = N) := ⟨_, Lib.hid rfl⟩
  obtain ⟨N2, hN2⟩ : ∃ N, Hid (m'.vals.length = N) := ⟨_, Lib.hid rfl⟩
  obtain ⟨N3, hN3⟩ : ∃ N, Hid (m'.blobs.length = N) := ⟨_, Lib.hid rfl⟩
  obtain ⟨k2, hk2⟩ : ∃ k, Hid (m'.k = k) := ⟨_, Lib.hid rfl⟩
  rw [hN1.out, hN2.out, hN3.out, hk2.out]
  obtain ⟨W2, hW2⟩ : ∃ W2 : World, W2 = (w.alloc (.cells #[.int .u8 (m.k : Int), .slice An m.nums.length cn, .slice Av m.vals.length cv, .slice Ab m.blobs.length cb] 26)).alloc (.cells #[.int .u8 (k2 : Int), .slice An' N1 cn', .slice Av' N2 cv', .slice Ab' N3 cb'] 26) := ⟨_, rfl⟩
  have q1 : W2.heap[w.heap.size]? = some (.cells #[.int .u8 (m.k : Int), .slice An m.nums.length cn, .slice Av m.vals.length cv, .slice Ab m.blobs.length cb] 26 (0, 0)) := by rw [hW2]; exact heap_old (heap_new _ _) _
  have q2 : W2.heap[w.heap.size + 1]? = some (.cells #[.int .u8 (k2 : Int), .slice An' N1 cn', .slice Av' N2 cv', .slice Ab' N3 cb'] 26 (0, 0)) := by rw [hW2]; exact heap_new' _ _ _ (by simp)
  have q3 : Below w.heap.size w W2 := by rw [hW2]; exact two _ _ _
  have HW := Lib.hid hW2
  clear hW2
  obtain ⟨c0, c1, c2, c3⟩ := box4 q1
  obtain ⟨f0, f1, f2, f3⟩ := box4 q2
  rw [HW.out] at c0 c1 c2 c3 f0 f1 f2 f3
  have HQ : Hid (m = m' ↔ m.k = m'.k ∧ m.nums = m'.nums ∧ m.vals = m'.vals ∧ m.blobs = m'.blobs) := ms_mk
  generalize hP : (m = m') = P at *
  clear hP
  by_cases h1 : ¬ (k2 = m.k)
  · have g : ((m.k : Int) == (k2 : Int)) = false := beq_eq_false_iff_ne.2 (by omega)
    have g' : ((m.k : Int) != (k2 : Int)) = true := by simp only [bne, g, Bool.not_false]
    have HR : Hid (¬ P) := fun h => h1 (by rw [← hk2.out, ← (HQ.out.1 h).1])
    clear h1 HQ n1 n2 n3
    go_enter Try.func15, Try.ntmps15
    go_wp2_with fail
    go_ret
    rw [← HW.out]
    exact OutB.no HR.out q3
  have h1 : k2 = m.k := Classical.not_not.1 h1
  subst h1
  by_cases h1 : ¬ (N1 = m.nums.length)
  · have g : ((m.nums.length : Int) == (N1 : Int)) = false := beq_eq_false_iff_ne.2 (by omega)
    have g' : ((m.nums.length : Int) != (N1 : Int)) = true := by simp only [bne, g, Bool.not_false]
    have HR : Hid (¬ P) := fun h => h1 (by rw [← hN1.out, ← (HQ.out.1 h).2.1])
    clear h1 HQ n1 n2 n3
    go_enter Try.func15, Try.ntmps15
    go_wp2_with fail
    go_ret
    rw [← HW.out]
    exact OutB.no HR.out q3
  have h1 : N1 = m.nums.length := Classical.not_not.1 h1
  subst h1
  by_cases h1 : ¬ (N2 = m.vals.length)
  · have g : ((m.vals.length : Int) == (N2 : Int)) = false := beq_eq_false_iff_ne.2 (by omega)
    have g' : ((m.vals.length : Int) != (N2 : Int)) = true := by simp only [bne, g, Bool.not_false]
    have HR : Hid (¬ P) := fun h => h1 (by rw [← hN2.out, ← (HQ.out.1 h).2.2.1])
    clear h1 HQ n1 n2 n3
    go_enter Try.func15, Try.ntmps15
    go_wp2_with fail
    go_ret
    rw [← HW.out]
    exact OutB.no HR.out q3
  have h1 : N2 = m.vals.length := Classical.not_not.1 h1
  subst h1
  by_cases h1 : ¬ (N3 = m.blobs.length)
  · have g : ((m.blobs.length : Int) == (N3 : Int)) = false := beq_eq_false_iff_ne.2 (by omega)
    have g' : ((m.blobs.length : Int) != (N3 : Int)) = true := by simp only [bne, g, Bool.not_false]
    have HR : Hid (¬ P) := fun h => h1 (by rw [← hN3.out, ← (HQ.out.1 h).2.2.2])
    clear h1 HQ n1 n2 n3
    go_enter Try.func15, Try.ntmps15
    go_wp2_with fail
    go_ret
    rw [← HW.out]
    exact OutB.no HR.out q3
  have h1 : N3 = m.blobs.length := Classical.not_not.1 h1
  subst h1
  have HQ2 : Hid (P ↔ m.nums = m'.nums ∧ m.vals = m'.vals ∧ m.blobs = m'.blobs) := ⟨fun h => (HQ.out.1 h).2, fun h => HQ.out.2 ⟨hk2.out.symm, h⟩⟩
  clear HQ c0 c1 c2 c3 f0 f1 f2 f3
  go_enter Try.func15, Try.ntmps15
  go_wp2_with fail
  rw [← HW.out]
  go_loopw [5] (fun i wr => ∃ j : Nat, j ≤ m.nums.length ∧ i = .int .i64 (j : Int) ∧ Hid (m.nums.take j = m'.nums.take j) ∧ Below W2.heap.size W2 wr) (fun i _ => m.nums.length - (intOf i).toNat)
  case atStart => exact ⟨0, Nat.zero_le _, rfl, Lib.hid (by simp), Below.refl _ _⟩
  case round =>
    obtain ⟨j, hj, rfl, htk, hbr⟩ := hrel
    obtain ⟨p0, p1, p2, p3⟩ := box4 (heap_below q1 hbr)
    obtain ⟨r0, r1, r2, r3⟩ := box4 (heap_below q2 hbr)
    have hb5 : Below w.heap.size w wr := q3.trans (hbr.mono q3.size)
    by_cases hlt : j < m.nums.length
    · have hlt' : j < m'.nums.length := by rw [hN1.out]; exact hlt
      obtain ⟨b, o, rfl, hbB, hc⟩ := hn (by intro h0; rw [List.map_eq_nil_iff.1 h0] at hlt; simp at hlt)
      obtain ⟨b', o', rfl, hbB', hc'⟩ := hn' (by intro h0; rw [List.map_eq_nil_iff.1 h0] at hlt'; simp at hlt')
      have d0 : wr.cell? ⟨b, o + j, none⟩ = some (.int .i64 m.nums[j]) := (hb5.cell hbB).trans (hc j _ (by simp [zv, hlt]))
      have e0 : wr.cell? ⟨b', o' + j, none⟩ = some (.int .i64 m'.nums[j]) := (hb5.cell hbB').trans (hc' j _ (by simp [zv, hlt']))
      have HY : Hid (m.nums[j] = m'.nums[j] → m.nums.take (j + 1) = m'.nums.take (j + 1)) := fun h => take_more htk.out hlt hlt' h
      have HZ : Hid (m.nums[j] ≠ m'.nums[j] → ¬ P) := fun h hp => ne_at hlt hlt' h (HQ2.out.1 hp).1
      have x5 : (j : Int) < m.nums.length := by omega
      have x7 : (0 : Int) ≤ j := by omega
      generalize m.nums[j] = x at *
      generalize m'.nums[j] = x' at *
      clear hc hc'
      by_cases hxx : x = x'
      · have htk2 := Lib.hid (HY.out hxx)
        subst hxx
        clear HY HZ
        go_wp2_with fail
        go_quiet (fail)
        go_wp2_with fail
        go_roundw
        case rel => exact ⟨j + 1, by omega, by go_num, htk2, below_drewN hbr _⟩
        case measure => simp [intOf]; omega
      · have HR := Lib.hid (HZ.out hxx)
        have g : (x == x') = false := beq_eq_false_iff_ne.2 hxx
        have g' : (x != x') = true := by simp only [bne, g, Bool.not_false]
        clear HY HZ hxx
        go_wp2_with fail
        go_quiet (fail)
        go_wp2_with fail
        go_ret
        exact OutB.no HR.out (q3.trans ((below_drewN hbr _).mono q3.size))
    · obtain rfl : j = m.nums.length := by omega
      have HQ3 : Hid (P ↔ m.vals = m'.vals ∧ m.blobs = m'.blobs) := ⟨fun h => (HQ2.out.1 h).2, fun h => HQ2.out.2 ⟨take_all htk.out hN1.out, h⟩⟩
      have hbr1 : Below W2.heap.size W2 wr := hbr
      go_wp2_with fail
      clear hbr hb5 hlt hj p0 p1 p2 p3 r0 r1 r2 r3 hn hn' htk
      go_loopw [6] (fun i wr => ∃ j : Nat, j ≤ m.vals.length ∧ i = .int .i64 (j : Int) ∧ Hid (m.vals.take j = m'.vals.take j) ∧ Below W2.heap.size W2 wr) (fun i _ => m.vals.length - (intOf i).toNat)
      case atStart => exact ⟨0, Nat.zero_le _, rfl, Lib.hid (by simp), hbr1⟩
      case round =>
        clear hbr1
        obtain ⟨j, hj, rfl, htk, hbr⟩ := hrel
        obtain ⟨p0, p1, p2, p3⟩ := box4 (heap_below q1 hbr)
        obtain ⟨r0, r1, r2, r3⟩ := box4 (heap_below q2 hbr)
        have hb5 : Below w.heap.size w wr := q3.trans (hbr.mono q3.size)
        by_cases hlt : j < m.vals.length
        · have hlt' : j < m'.vals.length := by rw [hN2.out]; exact hlt
          obtain ⟨b, o, y0, y1, y2, y3, rfl, hbB, hrange, hrepj⟩ := hv.at j hlt
          obtain ⟨b', o', z0, z1, z2, z3, rfl, hbB', hrange', hrepj'⟩ := hv'.at j hlt'
          have hrtj := HM.out _ (List.getElem_mem hlt)
          have hr1 := hrepj.under hb5
          have hr2 := hrepj'.under hb5
          have HY : Hid (m.vals[j] = m'.vals[j] → m.vals.take (j + 1) = m'.vals.take (j + 1)) := fun h => take_more htk.out hlt hlt' h
          have HZ : Hid (m.vals[j] ≠ m'.vals[j] → ¬ P) := fun h hp => ne_at hlt hlt' h (HQ3.out.1 hp).1
          generalize m.vals[j] = tj at *
          generalize m'.vals[j] = tj' at *
          obtain ⟨kj, nj, sj, lj⟩ := tj
          obtain ⟨kj', nj', sj', lj'⟩ := tj'
          obtain ⟨Aj, cj, rfl, rfl, rfl, rfl, -⟩ := hrepj.parts
          obtain ⟨Aj', cj', rfl, rfl, rfl, rfl, -⟩ := hrepj'.parts
          have d0 : wr.cell? ⟨b, o + j * 4, none⟩ = some _ := (hb5.cell hbB).trans (hrange 0 _ rfl)
          have d1 : wr.cell? ⟨b, o + j * 4 + 1, none⟩ = some _ := (hb5.cell hbB).trans (hrange 1 _ rfl)
          have d2 : wr.cell? ⟨b, o + j * 4 + 2, none⟩ = some _ := (hb5.cell hbB).trans (hrange 2 _ rfl)
          have d3 : wr.cell? ⟨b, o + j * 4 + 3, none⟩ = some _ := (hb5.cell hbB).trans (hrange 3 _ rfl)
          have e0 : wr.cell? ⟨b', o' + j * 4, none⟩ = some _ := (hb5.cell hbB').trans (hrange' 0 _ rfl)
          have e1 : wr.cell? ⟨b', o' + j * 4 + 1, none⟩ = some _ := (hb5.cell hbB').trans (hrange' 1 _ rfl)
          have e2 : wr.cell? ⟨b', o' + j * 4 + 2, none⟩ = some _ := (hb5.cell hbB').trans (hrange' 2 _ rfl)
          have e3 : wr.cell? ⟨b', o' + j * 4 + 3, none⟩ = some _ := (hb5.cell hbB').trans (hrange' 3 _ rfl)
          have x5 : (j : Int) < m.vals.length := by omega
          have x7 : (0 : Int) ≤ j := by omega
          clear hrange hrange' hrepj hrepj'
          have HC := Lib.hid (alikeb_any 16 _ _ _ _ wr.drew w.heap.size hrtj (hr1.keep fun _ _ => rfl) (hr2.keep fun _ _ => rfl) hb5.size)
          clear hr1 hr2
          go_wp2_with fail
          go_still_tail 10, (by kernel_rfl)
          clear d0 d1 d2 d3 e0 e1 e2 e3 p0 p1 p2 p3 r0 r1 r2 r3
          go_wp2_with fail
          refine HC.out.mono ?_
          rintro e w3 ⟨⟨bb, rfl, hbb⟩, hb3⟩
          have hb4 : Below W2.heap.size W2 w3 := nxt hbr (of_drew hb3)
          clear hb3 hbr
          cases bb with
          | true =>
            have htk2 := Lib.hid (HY.out (hbb.1 rfl))
            clear hbb
            go_wp2_with fail
            go_roundw
            case rel => exact ⟨j + 1, by omega, by go_num, htk2, hb4⟩
            case measure => simp [intOf]; omega
          | false =>
            have HR : Hid (¬ P) := HZ.out (fun h => by have := hbb.2 h; cases this)
            clear hbb
            go_wp2_with fail
            go_ret
            exact OutB.no HR.out (q3.trans (hb4.mono q3.size))
        · obtain rfl : j = m.vals.length := by omega
          have HQ4 : Hid (P ↔ m.blobs = m'.blobs) := ⟨fun h => (HQ3.out.1 h).2, fun h => HQ3.out.2 ⟨take_all htk.out hN2.out, h⟩⟩
          have hbr1 : Below W2.heap.size W2 wr := hbr
          go_wp2_with fail
          clear hbr hb5 hlt hj p0 p1 p2 p3 r0 r1 r2 r3 hv hv' htk
          go_loopw [7] (fun i wr => ∃ j : Nat, j ≤ m.blobs.length ∧ i = .int .i64 (j : Int) ∧ Hid (m.blobs.take j = m'.blobs.take j) ∧ Below W2.heap.size W2 wr) (fun i _ => m.blobs.length - (intOf i).toNat)
          case atStart => exact ⟨0, Nat.zero_le _, rfl, Lib.hid (by simp), hbr1⟩
          case round =>
            clear hbr1
            obtain ⟨j, hj, rfl, htk, hbr⟩ := hrel
            obtain ⟨p0, p1, p2, p3⟩ := box4 (heap_below q1 hbr)
            obtain ⟨r0, r1, r2, r3⟩ := box4 (heap_below q2 hbr)
            have hb5 : Below w.heap.size w wr := q3.trans (hbr.mono q3.size)
            by_cases hlt : j < m.blobs.length
            · have hlt' : j < m'.blobs.length := by rw [hN3.out]; exact hlt
              have HY : Hid (m.blobs[j] = m'.blobs[j] → m.blobs.take (j + 1) = m'.blobs.take (j + 1)) := fun h => take_more htk.out hlt hlt' h
              have HZ : Hid (m.blobs[j] ≠ m'.blobs[j] → ¬ P) := fun h hp => ne_at hlt hlt' h (HQ4.out.1 hp)
              obtain ⟨x, hx⟩ : ∃ x, x = m.blobs[j] := ⟨_, rfl⟩
              obtain ⟨x', hx'⟩ : ∃ x', x' = m'.blobs[j] := ⟨_, rfl⟩
              obtain ⟨b, o, Ae, ce, rfl, hbB, hc, hce, hae, he8⟩ := hb j x (by rw [hx]; exact List.getElem?_eq_getElem hlt)
              obtain ⟨b', o', Ae', ce', rfl, hbB', hc', hce', hae', he8'⟩ := hb' j x' (by rw [hx']; exact List.getElem?_eq_getElem hlt')
              rw [← hx, ← hx'] at HY HZ
              have d0 : wr.cell? ⟨b, o + j, none⟩ = some (.slice Ae x.length ce) := (hb5.cell hbB).trans hc
              have e0 : wr.cell? ⟨b', o' + j, none⟩ = some (.slice Ae' x'.length ce') := (hb5.cell hbB').trans hc'
              have hs1 : Bs wr (.slice Ae x.length ce) x := ⟨⟨Ae, ce, rfl, hce, ((hae.at_ (fun _ h => h)).below hb5).more hb5.size⟩, he8⟩
              have hs2 : Bs wr (.slice Ae' x'.length ce') x' := ⟨⟨Ae', ce', rfl, hce', ((hae'.at_ (fun _ h => h)).below hb5).more hb5.size⟩, he8'⟩
              obtain ⟨bb, hbb⟩ : ∃ bb, Hid (decide (x = x') = bb) := ⟨_, Lib.hid rfl⟩
              have SB : Hid (∀ n, Calls Try.prog 14 #[.slice Ae x.length ce, .slice Ae' x'.length ce'] (wr.drewN n) fun e w' => e = .returned (.bool bb) ∧ w' = wr.drewN n) := fun n => (same_bs _ _ x x' bb _ (hs1.drewN n) (hs2.drewN n) hbb.out).mono fun e w' h => ⟨h.1, h.2.symm⟩
              have x5 : (j : Int) < m.blobs.length := by omega
              have x7 : (0 : Int) ≤ j := by omega
              clear hc hc' hs1 hs2 hae hae' he8 he8' hx hx'
              cases bb with
              | true =>
                have htk2 := Lib.hid (HY.out (of_decide_eq_true hbb.out))
                clear HY HZ hbb
                go_wp2_with fail
                go_quiet (first | (go_at_call 14; exact Calls.quiet_of_same (SB.out _)) | (fail))
                go_wp2_with fail
                go_roundw
                case rel => exact ⟨j + 1, by omega, by go_num, htk2, below_drewN hbr _⟩
                case measure => simp [intOf]; omega
              | false =>
                have HR := Lib.hid (HZ.out (of_decide_eq_false hbb.out))
                clear HY HZ hbb
                go_wp2_with fail
                go_quiet (first | (go_at_call 14; exact Calls.quiet_of_same (SB.out _)) | (fail))
                go_wp2_with fail
                go_ret
                exact OutB.no HR.out (q3.trans ((below_drewN hbr _).mono q3.size))
            · obtain rfl : j = m.blobs.length := by omega
              have HR : Hid P := HQ4.out.2 (take_all htk.out hN3.out)
              go_wp2_with fail
              go_ret
              exact OutB.yes HR.out hb5
end Go.Proofs.Ytjcefnlidophoaa
