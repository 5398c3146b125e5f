/- drover/droverlaw03.is: the walk. -/
import Derived.Test.YtjcefnlidophoaaGetm
import Derived.Test.YtjcefnlidophoaaPutm
import Derived.Test.YtjcefnlidophoaaSamem
import Derived.Test.YtjcefnlidophoaaRseal
import Derived.Test.YtjcefnlidophoaaGa
namespace Go.Proofs.Ytjcefnlidophoaa
open Go.RowKit

theorem mget_put {m : Ms} (hr : mright m = true) (ok : MOk m) : mget (menc m ++ be4 (crcN (menc m))) = .ok m := by
  have hl := (mright_iff.1 hr).2.2.2.2.2
  unfold mget
  rw [if_neg (by rw [List.length_append, be4_length]; omega), us_seal]
  rw [if_neg (by simp)]
  exact mdec_menc hr ok
theorem right_rt {v : Va} (h : right v = true) : Rt 16 v := by
  obtain ⟨m, hm⟩ := right_rgt h
  exact (rgt_rt 16 _ 256 m hm).1
theorem MRep.ok {w : World} {S : Nat → Prop} {v : Value} {m : Ms} (h : MRep w S v m) : MOk m := h.1
set_option maxRecDepth 100000 in
set_option maxHeartbeats 1600000 in
theorem is03_any (m : Ms) (v vw : Value) (l : List Nat) (w : World) (h : MRep w (fun b => b < w.heap.size) v m) (hr : mright m = true) (hw : Bs w vw l) (hl : l = menc m) :
    Calls Try.prog 74 #[v, vw] w fun e w' => e = .returned (.bool true) ∧ Below w.heap.size w w' := by
  have h0 := Lib.hid h
  have hget := Lib.hid (mget_put hr h.ok)
  obtain ⟨hn1, hn2, hrv, hn3, -, hlen⟩ := mright_iff.1 hr
  have hrt := Lib.hid (fun x hx => right_rt (hrv x hx))
  have HR := Lib.hid hr
  have HL := Lib.hid hl
  have hll : l.length ≤ 1048576 := by rw [hl]; omega
  obtain ⟨-, An, cn, Av, cv, Ab, cb, rfl, -, -, -, -, -, -⟩ := h
  clear hr hl hrv
  obtain ⟨box, hbox⟩ : ∃ o : Obj, o = .cells #[.int .u8 (m.k : Int), .slice An m.nums.length cn, .slice Av m.vals.length cv, .slice Ab m.blobs.length cb] 26 := ⟨_, rfl⟩
  have q0 := heap_new w box
  have hbW := (Below.refl w.heap.size w).alloc (Nat.le_refl _) box
  have hput := Lib.hid (putm_any m _ _ (h0.out.under hbW (show w.heap.size ≤ (w.alloc box).heap.size from hbW.size)))
  have hwW := hw.below hbW
  obtain ⟨c0, c1, c2, c3⟩ := box4 (by rw [hbox] at q0; exact q0)
  have hsz : (w.alloc box).heap.size = w.heap.size + 1 := by simp
  clear hw
  subst hbox
  go_enter Try.func74, Try.ntmps74
  go_wp2_with fail
  refine hput.out.mono ?_
  rintro e w1 ⟨hb1, -, hP⟩
  obtain ⟨u, rfl, -, hu⟩ := hP HR.out
  clear hP hput
  have q1 := heap_below q0 hb1
  have hbw1 := nxt hbW hb1
  have hw1 := hwW.below hb1
  generalize hsl : menc m ++ be4 (crcN (menc m)) = sl at *
  have hsll : sl.length ≤ 1048580 := by rw [← hsl, List.length_append, be4_length]; omega
  have HSL : Hid (l ++ be4 (crcN l) = sl) := by
    show _ = _
    rw [HL.out, hsl]
  clear hsl hb1 hwW q0 hbW
  go_wp2_with fail
  refine (getm_any u sl w1 hu (by omega)).mono ?_
  rw [hget.out]
  rintro e w2 ⟨hb2, v2, rfl, hm2⟩
  have hm2' := Lib.hid hm2
  obtain ⟨-, Bn, dn, Bv, dv, Bb, db, rfl, -, -, -, -, -, -⟩ := hm2
  have q2 := heap_below q1 hb2
  have hbw2 := nxt hbw1 hb2
  have hw2 := hw1.below hb2
  have hu2 := hu.below hb2
  clear hu hw1 q1 c0 c1 c2 c3
  obtain ⟨box2, hbox2⟩ : ∃ o : Obj, o = .cells #[.int .u8 (m.k : Int), .slice Bn m.nums.length dn, .slice Bv m.vals.length dv, .slice Bb m.blobs.length db] 26 := ⟨_, rfl⟩
  have hb3 := (Below.refl w2.heap.size w2).alloc (Nat.le_refl _) box2
  have q3 := heap_below q2 hb3
  have r3 := heap_new w2 box2
  have hbw3 := nxt hbw2 hb3
  have hw3 := hw2.below hb3
  have hu3 := hu2.below hb3
  subst hbox2
  go_wp2_with fail
  refine (refseal_bs vw l _ hw3 (by omega)).mono ?_
  rw [HSL.out]
  rintro e w4 ⟨u4, rfl, -, hu4, hb4⟩
  have q4 := heap_below q3 hb4
  have r4 := heap_below r3 hb4
  have hbw4 := nxt hbw3 hb4
  have hu5 := hu3.below hb4
  have hb24 := nxt hb3 hb4
  obtain ⟨c0, c1, c2, c3⟩ := box4 q4
  obtain ⟨d0, d1, d2, d3⟩ := box4 r4
  go_wp2_with fail
  refine (same_bs _ _ sl sl true _ hu5 hu4 (by simp)).mono ?_
  rintro e w5 ⟨rfl, rfl⟩
  have hs4 := hbw4.size
  have hs2 := hbw2.size
  have hm4 : MRep w4 (fun b => b < w4.heap.size) _ m := h0.out.under hbw4 hs4
  have hm5 : MRep w4 (fun b => b < w4.heap.size) _ m := hm2'.out.keep (fun p hp => hb24.cell hp.2) (fun b hb => Nat.lt_of_lt_of_le hb.2 hb24.size)
  go_wp2_with fail
  refine (samem_any m _ _ w4 hrt.out (by omega) (by omega) (by omega) hm5 hm4).mono ?_
  rintro e w6 ⟨rfl, hb6⟩
  have hbw6 := nxt hbw4 hb6
  go_wp2_with fail
  go_ret
  exact ⟨rfl, hbw6⟩
end Go.Proofs.Ytjcefnlidophoaa
