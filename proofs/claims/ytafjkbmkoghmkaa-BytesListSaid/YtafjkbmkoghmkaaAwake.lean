/- droverlaw01.is, wrong, awake: the walks. -/
import Derived.Test.YtafjkbmkoghmkaaBs
import Derived.BigQuiet
import Derived.Lib.SlBytesConst
namespace Go.Proofs.Ytafjkbmkoghmkaa
open Go.RowKit

set_option maxHeartbeats 400000 in
theorem is_bs (v v' : Value) (l l' : List Nat) (r : Bool) (w : World) (h : Bs w v l) (h' : Bs w v' l') (hr : decide (l = l') = r) :
    Calls Try.prog 19 #[v, v'] w fun e w' => e = .returned (.bool r) ∧ w = w' := by
  go_enter Try.func19, Try.ntmps19
  go_wp2_with fail
  refine (same_bs v v' l l' r w h h' hr).mono ?_
  rintro e w1 ⟨rfl, rfl⟩
  go_wp2
  go_ret
  exact ⟨rfl, rfl⟩

set_option maxHeartbeats 1000000 in
theorem wrong_bs (e : Nat) (v : Value) (l : List Nat) (w : World) (h : Bs w v l) (hn : l.length ≤ 1099511627776) (hg : gu l 0 = (0, 0, e)) :
    Calls Try.prog 15 #[.int .i64 (e : Int), v] w fun r w' => r = .returned (.bool true) ∧ w = w' := by
  have HG := Lib.hid hg
  clear hg
  go_enter Try.func15, Try.ntmps15
  go_wp2_with fail
  refine (getuint_bs v l 0 w h hn (by omega)).mono ?_
  rintro r w1 ⟨rfl, rfl⟩
  rw [HG.out]
  go_wp2_with fail
  refine (getint_bs v l 0 w h hn (by omega)).mono ?_
  rintro r w1 ⟨rfl, rfl⟩
  rw [HG.out]
  go_wp2
  go_ret
  exact ⟨rfl, rfl⟩

set_option maxRecDepth 100000 in
set_option maxHeartbeats 1000000 in
theorem awake_any (w : World) : Calls Try.prog 20 #[] w fun e w' => e = .returned (.bool true) ∧ Below w.heap.size w w' := by
  have hcv : ∀ (w : World) (C : Array Value) (n c g : Nat), g = w.heap.size → (convert 23 23 (.slice (some ⟨g, 0, none⟩) n c)).run Try.prog (w.alloc (.cells C 5)) = .ok (.slice (some ⟨g, 0, none⟩) n c) (w.alloc (.cells C 5 (C.size, C.size + 1))) := by
    intro w C n c g hg
    subst hg
    exact Lib.run_convert_bytes_const (P := Try.prog) w 23 5 C n c Try.underlying23 Try.underlying5
  go_enter Try.func20, Try.ntmps20
  go_wp2_with fail
  refine (uint_bs _ [] 0 _ (Bs.nil _) (by simp) (by omega)).mono ?_
  rintro e w1 ⟨v1, rfl, _, hv1, hq1⟩
  have hb1 : Below w.heap.size w w1 := ((Below.refl _ _ : Below w.heap.size w w)).trans (hq1.mono ((Below.refl _ _ : Below w.heap.size w w)).size)
  go_wp2_with fail
  have hc1 : Below w.heap.size w (w1.alloc (.cells #[.int .u8 0] 5)) := hb1.alloc hb1.size _
  refine (is_bs _ _ _ _ true _ (hv1.alloc _) (Bs.made w1 #[.int .u8 0] 5 [0] 1 rfl rfl (by simp)) (by decide +kernel)).mono ?_
  rintro e w1x ⟨rfl, rfl⟩
  go_wp2_with fail
  refine (uint_bs _ [] 127 _ (Bs.nil _) (by simp) (by omega)).mono ?_
  rintro e w2 ⟨v2, rfl, _, hv2, hq2⟩
  have hb2 : Below w.heap.size w w2 := (hc1).trans (hq2.mono (hc1).size)
  go_wp2_with fail
  have hc2 : Below w.heap.size w (w2.alloc (.cells #[.int .u8 127] 5)) := hb2.alloc hb2.size _
  refine (is_bs _ _ _ _ true _ (hv2.alloc _) (Bs.made w2 #[.int .u8 127] 5 [127] 1 rfl rfl (by simp)) (by decide +kernel)).mono ?_
  rintro e w2x ⟨rfl, rfl⟩
  go_wp2_with fail
  have hm3 := Bs.made' (w2.alloc (.cells #[.int .u8 127] 5)) #[.int .u8 9] 5 [9] 1 (w2.heap.size + 1) (by simp) rfl rfl (by simp)
  have hbm3 : Below w.heap.size w ((w2.alloc (.cells #[.int .u8 127] 5)).alloc (.cells #[.int .u8 9] 5)) := (hc2).alloc (hc2).size _
  refine (uint_bs _ [9] 128 _ hm3 (by simp) (by omega)).mono ?_
  rintro e w3 ⟨v3, rfl, _, hv3, hq3⟩
  have hb3 : Below w.heap.size w w3 := (hbm3).trans (hq3.mono (hbm3).size)
  go_wp2_with fail
  have hc3 : Below w.heap.size w (w3.alloc (.cells #[.int .u8 9, .int .u8 128, .int .u8 1] 5)) := hb3.alloc hb3.size _
  refine (is_bs _ _ _ _ true _ (hv3.alloc _) (Bs.made w3 #[.int .u8 9, .int .u8 128, .int .u8 1] 5 [9, 128, 1] 3 rfl rfl (by simp)) (by decide +kernel)).mono ?_
  rintro e w3x ⟨rfl, rfl⟩
  go_wp2_with fail
  refine (uint_bs _ [] 300 _ (Bs.nil _) (by simp) (by omega)).mono ?_
  rintro e w4 ⟨v4, rfl, _, hv4, hq4⟩
  have hb4 : Below w.heap.size w w4 := (hc3).trans (hq4.mono (hc3).size)
  go_wp2_with fail
  have hc4 : Below w.heap.size w (w4.alloc (.cells #[.int .u8 172, .int .u8 2] 5)) := hb4.alloc hb4.size _
  refine (is_bs _ _ _ _ true _ (hv4.alloc _) (Bs.made w4 #[.int .u8 172, .int .u8 2] 5 [172, 2] 2 rfl rfl (by simp)) (by decide +kernel)).mono ?_
  rintro e w4x ⟨rfl, rfl⟩
  go_wp2_with fail
  refine (int_bs _ [] (-1) _ (Bs.nil _) (by simp) (by omega) (by omega)).mono ?_
  rintro e w5 ⟨v5, rfl, _, hv5, hq5⟩
  have hb5 : Below w.heap.size w w5 := (hc4).trans (hq5.mono (hc4).size)
  go_wp2_with fail
  have hc5 : Below w.heap.size w (w5.alloc (.cells #[.int .u8 1] 5)) := hb5.alloc hb5.size _
  refine (is_bs _ _ _ _ true _ (hv5.alloc _) (Bs.made w5 #[.int .u8 1] 5 [1] 1 rfl rfl (by simp)) (by decide +kernel)).mono ?_
  rintro e w5x ⟨rfl, rfl⟩
  go_wp2_with fail
  refine (int_bs _ [] 1 _ (Bs.nil _) (by simp) (by omega) (by omega)).mono ?_
  rintro e w6 ⟨v6, rfl, _, hv6, hq6⟩
  have hb6 : Below w.heap.size w w6 := (hc5).trans (hq6.mono (hc5).size)
  go_wp2_with fail
  have hc6 : Below w.heap.size w (w6.alloc (.cells #[.int .u8 2] 5)) := hb6.alloc hb6.size _
  refine (is_bs _ _ _ _ true _ (hv6.alloc _) (Bs.made w6 #[.int .u8 2] 5 [2] 1 rfl rfl (by simp)) (by decide +kernel)).mono ?_
  rintro e w6x ⟨rfl, rfl⟩
  go_wp2_with fail
  refine (int_bs _ [] (-64) _ (Bs.nil _) (by simp) (by omega) (by omega)).mono ?_
  rintro e w7 ⟨v7, rfl, _, hv7, hq7⟩
  have hb7 : Below w.heap.size w w7 := (hc6).trans (hq7.mono (hc6).size)
  go_wp2_with fail
  have hc7 : Below w.heap.size w (w7.alloc (.cells #[.int .u8 127] 5)) := hb7.alloc hb7.size _
  refine (is_bs _ _ _ _ true _ (hv7.alloc _) (Bs.made w7 #[.int .u8 127] 5 [127] 1 rfl rfl (by simp)) (by decide +kernel)).mono ?_
  rintro e w7x ⟨rfl, rfl⟩
  go_wp2_with fail
  have hm8 := Bs.made' (w7.alloc (.cells #[.int .u8 127] 5)) #[.int .u8 97, .int .u8 98] 5 [97, 98] 2 (w7.heap.size + 1) (by simp) rfl rfl (by simp) (2, 3)
  have hbm8 : Below w.heap.size w ((w7.alloc (.cells #[.int .u8 127] 5)).alloc (.cells #[.int .u8 97, .int .u8 98] 5 (2, 3))) := (hc7).alloc (hc7).size _
  refine (blob_bs _ [] _ [97, 98] _ (Bs.nil _) hm8 (by simp) (by simp)).mono ?_
  rintro e w8 ⟨v8, rfl, _, hv8, hq8⟩
  have hb8 : Below w.heap.size w w8 := (hbm8).trans (hq8.mono (hbm8).size)
  go_wp2_with fail
  have hc8 : Below w.heap.size w (w8.alloc (.cells #[.int .u8 2, .int .u8 97, .int .u8 98] 5)) := hb8.alloc hb8.size _
  refine (is_bs _ _ _ _ true _ (hv8.alloc _) (Bs.made w8 #[.int .u8 2, .int .u8 97, .int .u8 98] 5 [2, 97, 98] 3 rfl rfl (by simp)) (by decide +kernel)).mono ?_
  rintro e w8x ⟨rfl, rfl⟩
  go_wp2_with fail
  have hm9 := Bs.made' (w8.alloc (.cells #[.int .u8 2, .int .u8 97, .int .u8 98] 5)) #[.int .u8 128, .int .u8 0] 5 [128, 0] 2 (w8.heap.size + 1) (by simp) rfl rfl (by simp)
  have hc9 : Below w.heap.size w ((w8.alloc (.cells #[.int .u8 2, .int .u8 97, .int .u8 98] 5)).alloc (.cells #[.int .u8 128, .int .u8 0] 5)) := (hc8).alloc (hc8).size _
  refine (wrong_bs 10 _ _ _ hm9 (by simp) (by decide +kernel)).mono ?_
  rintro e w9x ⟨rfl, rfl⟩
  go_wp2_with fail
  have hm10 := Bs.made' ((w8.alloc (.cells #[.int .u8 2, .int .u8 97, .int .u8 98] 5)).alloc (.cells #[.int .u8 128, .int .u8 0] 5)) #[.int .u8 128] 5 [128] 1 (w8.heap.size + 1 + 1) (by simp) rfl rfl (by simp)
  have hc10 : Below w.heap.size w (((w8.alloc (.cells #[.int .u8 2, .int .u8 97, .int .u8 98] 5)).alloc (.cells #[.int .u8 128, .int .u8 0] 5)).alloc (.cells #[.int .u8 128] 5)) := (hc9).alloc (hc9).size _
  refine (wrong_bs 11 _ _ _ hm10 (by simp) (by decide +kernel)).mono ?_
  rintro e w10x ⟨rfl, rfl⟩
  go_wp2_with fail
  have hm11 := Bs.made' (((w8.alloc (.cells #[.int .u8 2, .int .u8 97, .int .u8 98] 5)).alloc (.cells #[.int .u8 128, .int .u8 0] 5)).alloc (.cells #[.int .u8 128] 5)) #[.int .u8 49, .int .u8 50, .int .u8 51, .int .u8 52, .int .u8 53, .int .u8 54, .int .u8 55, .int .u8 56, .int .u8 57] 5 [49, 50, 51, 52, 53, 54, 55, 56, 57] 9 (w8.heap.size + 1 + 1 + 1) (by simp) rfl rfl (by simp) (9, 10)
  have hc11 : Below w.heap.size w ((((w8.alloc (.cells #[.int .u8 2, .int .u8 97, .int .u8 98] 5)).alloc (.cells #[.int .u8 128, .int .u8 0] 5)).alloc (.cells #[.int .u8 128] 5)).alloc (.cells #[.int .u8 49, .int .u8 50, .int .u8 51, .int .u8 52, .int .u8 53, .int .u8 54, .int .u8 55, .int .u8 56, .int .u8 57] 5 (9, 10))) := (hc10).alloc (hc10).size _
  refine (crc_bs _ _ _ hm11 (by simp)).mono ?_
  rintro e w11x ⟨rfl, rfl⟩
  rw [show crcN [49, 50, 51, 52, 53, 54, 55, 56, 57] = 3421780262 by decide +kernel]
  go_wp2_with fail
  refine (seal_bs _ [] _ (Bs.nil _) (by simp)).mono ?_
  rintro e w12 ⟨v12, rfl, _, hv12, hq12⟩
  have hb12 : Below w.heap.size w w12 := (hc11).trans (hq12.mono (hc11).size)
  go_wp2_with fail
  have hc12 : Below w.heap.size w (w12.alloc (.cells #[.int .u8 0, .int .u8 0, .int .u8 0, .int .u8 0] 5)) := hb12.alloc hb12.size _
  refine (is_bs _ _ _ _ true _ (hv12.alloc _) (Bs.made w12 #[.int .u8 0, .int .u8 0, .int .u8 0, .int .u8 0] 5 [0, 0, 0, 0] 4 rfl rfl (by simp)) (by decide +kernel)).mono ?_
  rintro e w12x ⟨rfl, rfl⟩
  go_wp2
  go_ret
  exact ⟨rfl, hc12⟩
end Go.Proofs.Ytafjkbmkoghmkaa
