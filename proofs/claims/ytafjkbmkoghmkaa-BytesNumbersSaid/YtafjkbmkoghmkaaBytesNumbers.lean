/- droverlaw01.BytesNumbers returns true: the fixed examples of the chapter come out as written. For every input, without conditions. -/
import Derived.Test.YtafjkbmkoghmkaaRow
import Derived.Test.YtafjkbmkoghmkaaAwake
import Derived.Test.YtafjkbmkoghmkaaOwn2
import Derived.Test.YtafjkbmkoghmkaaRef01
import Derived.Lib.SlBytesConst
namespace Go.Proofs.Ytafjkbmkoghmkaa.bytesNumbers
open Go.ChangeShapes Go.WideShapes Go.ChangeAt Go.RowKit
set_option linter.unusedVariables false

def zs : List Int := [0, 1, -1, 63, 64, -64, -65, 9223372036854775807, -9223372036854775808, -9223372036854775807]
theorem zs_bound (j : Nat) (hj : j < 10) : -9223372036854775808 ≤ zs.getD j 0 ∧ zs.getD j 0 ≤ 9223372036854775807 := by
  have all : ∀ i : Fin 10, -9223372036854775808 ≤ zs.getD i.val 0 ∧ zs.getD i.val 0 ≤ 9223372036854775807 := by decide
  exact all ⟨j, hj⟩
theorem zs_cells (w : World) (t : TypeId) : ∀ j, j < 10 → (w.alloc (.cells #[.int .i64 0, .int .i64 1, .int .i64 (-1), .int .i64 63, .int .i64 64, .int .i64 (-64), .int .i64 (-65), .int .i64 9223372036854775807, .int .i64 (-9223372036854775808), .int .i64 (-9223372036854775807)] t)).cell? ⟨w.heap.size, j, none⟩ = some (.int .i64 (zs.getD j 0)) := by
  intro j hj
  rw [World.cell?_alloc_at _ _ _ _ rfl]
  have all : ∀ i : Fin 10, (#[Value.int .i64 0, .int .i64 1, .int .i64 (-1), .int .i64 63, .int .i64 64, .int .i64 (-64), .int .i64 (-65), .int .i64 9223372036854775807, .int .i64 (-9223372036854775808), .int .i64 (-9223372036854775807)] : Array Value)[i.val]? = some (.int .i64 (zs.getD i.val 0)) := by
    intro i
    match i with
    | 0 => rfl
    | 1 => rfl
    | 2 => rfl
    | 3 => rfl
    | 4 => rfl
    | 5 => rfl
    | 6 => rfl
    | 7 => rfl
    | 8 => rfl
    | 9 => rfl
  exact all ⟨j, hj⟩
theorem seven (z : Int) (h0 : -9223372036854775808 ≤ z) (h1 : z ≤ 9223372036854775807) : gu ([7] ++ varint (zz z)) 1 = (zz z, 1 + (varint (zz z)).length, 0) := by
  have := gu_at [7] (zz z) [] (zz_lt z h0 h1) 1 rfl
  simpa using this

set_option maxRecDepth 100000 in
set_option maxHeartbeats 4000000 in
theorem walk (w : World)   :
    Calls Try.prog 3 #[] w fun e w' => e = .returned (.bool true) ∧ Below w.heap.size w w' := by
  have hcv : ∀ (w : World) (C : Array Value) (n c g : Nat), g = w.heap.size → (convert 23 23 (.slice (some ⟨g, 0, none⟩) n c)).run Try.prog (w.alloc (.cells C 5)) = .ok (.slice (some ⟨g, 0, none⟩) n c) (w.alloc (.cells C 5 (C.size, C.size + 1))) := by
    intro w C n c g hg
    subst hg
    exact Lib.run_convert_bytes_const (P := Try.prog) w 23 5 C n c Try.underlying23 Try.underlying5
  have hWc := zs_cells w 2
  have HWc := Lib.hid hWc
  clear hWc
  have hbW : Below w.heap.size w (w.alloc (.cells #[.int .i64 0, .int .i64 1, .int .i64 (-1), .int .i64 63, .int .i64 64, .int .i64 (-64), .int .i64 (-65), .int .i64 9223372036854775807, .int .i64 (-9223372036854775808), .int .i64 (-9223372036854775807)] 2)) := (Below.refl _ _).alloc (Nat.le_refl _) _
  have hWs : (w.alloc (.cells #[.int .i64 0, .int .i64 1, .int .i64 (-1), .int .i64 63, .int .i64 64, .int .i64 (-64), .int .i64 (-65), .int .i64 9223372036854775807, .int .i64 (-9223372036854775808), .int .i64 (-9223372036854775807)] 2)).heap.size = w.heap.size + 1 := by simp
  go_enter Try.func3, Try.ntmps3
  go_wp2_with fail
  generalize w.alloc (.cells #[.int .i64 0, .int .i64 1, .int .i64 (-1), .int .i64 63, .int .i64 64, .int .i64 (-64), .int .i64 (-65), .int .i64 9223372036854775807, .int .i64 (-9223372036854775808), .int .i64 (-9223372036854775807)] 2) = W0 at *
  have hG : w.heap.size < W0.heap.size := by omega
  clear hWs
  go_loopw [46] (fun i wr => ∃ j : Nat, j ≤ 10 ∧ i = .int .i64 (j : Int) ∧ Below W0.heap.size W0 wr) (fun i _ => 10 - (intOf i).toNat)
  case atStart => exact ⟨0, by omega, rfl, Below.refl _ _⟩
  case round =>
    obtain ⟨j, hj, rfl, hbr⟩ := hrel
    by_cases hlt : j < 10
    · have hcell : wr.cell? ⟨w.heap.size, j, none⟩ = some (.int .i64 (zs.getD j 0)) := (hbr.cell (p := ⟨w.heap.size, j, none⟩) hG).trans (HWc.out j hlt)
      obtain ⟨hz0, hz1⟩ := zs_bound j hlt
      generalize zs.getD j 0 = z at *
      have HS := Lib.hid (seven z hz0 hz1)
      have hlv := varint_length (zz z)
      have hzz : (z != z) = false := by simp
      have hzz' : (z == z) = true := by simp
      go_wp2_with fail
      refine (int_bs _ [7] z _ (Bs.made' wr #[.int .u8 7] 5 [7] 1 wr.heap.size rfl rfl rfl (by simp)) (by simp) hz0 hz1).mono ?_
      rintro e w1 ⟨v1, rfl, _, hv1, hb1⟩
      have hlen : ([7] ++ varint (zz z)).length = 1 + (varint (zz z)).length := by simp; omega
      obtain ⟨⟨A1, c1, rfl, -, -⟩, -⟩ := id hv1
      rw [hlen]
      rw [hlen] at hv1
      go_wp2_with fail
      refine (getint_bs _ ([7] ++ varint (zz z)) 1 _ hv1 (by omega) (by omega)).mono ?_
      rintro e w2 ⟨rfl, rfl⟩
      rw [HS.out]
      dsimp only
      rw [un_zz]
      have hbr1 := hbr.alloc hbr.size (.cells #[.int .u8 7] 5)
      have hb01 := hbr1.trans (hb1.mono hbr1.size)
      go_wp2_with fail
      refine (refint_bs _ [7] z _ (Bs.made' w1 #[.int .u8 7] 5 [7] 1 w1.heap.size rfl rfl rfl (by simp)) (by simp) hz0 hz1).mono ?_
      rintro e w3 ⟨v3, rfl, _, hv3, hb3⟩
      have hv1' := (hv1.alloc (.cells #[.int .u8 7] 5)).below hb3
      have hb02 := (hb01.alloc hb01.size (.cells #[.int .u8 7] 5)).trans (hb3.mono (hb01.alloc hb01.size (.cells #[.int .u8 7] 5)).size)
      generalize (varint (zz z)).length = L at *
      go_wp2_with fail
      refine (same_bs _ _ ([7] ++ varint (zz z)) ([7] ++ varint (zz z)) true _ hv1' hv3 (by simp)).mono ?_
      rintro e w4 ⟨rfl, rfl⟩
      go_wp2
      go_roundw
      case rel => exact ⟨j + 1, by omega, by go_num, hb02⟩
      case measure => simp [intOf]; omega
    · have hbl := hbW.trans (hbr.mono (Nat.le_of_lt hG))
      clear hbW hbr HWc
      obtain ⟨wl, hwl⟩ : ∃ wl, wl = wr := ⟨wr, rfl⟩
      rw [← hwl]
      rw [← hwl] at hbl
      clear hwl
      go_wp2_with fail
      have hm1 := Bs.made' wl #[.int .u8 255, .int .u8 255, .int .u8 255, .int .u8 255, .int .u8 255, .int .u8 255, .int .u8 255, .int .u8 255, .int .u8 255, .int .u8 1] 5 [255, 255, 255, 255, 255, 255, 255, 255, 255, 1] 10 (wl.heap.size) rfl rfl rfl (by simp)
      have hc1 : Below w.heap.size w (wl.alloc (.cells #[.int .u8 255, .int .u8 255, .int .u8 255, .int .u8 255, .int .u8 255, .int .u8 255, .int .u8 255, .int .u8 255, .int .u8 255, .int .u8 1] 5)) := hbl.alloc hbl.size _
      refine (getuint_bs _ [255, 255, 255, 255, 255, 255, 255, 255, 255, 1] 0 _ hm1 (by simp) (by omega)).mono ?_
      rintro e wq ⟨rfl, rfl⟩
      rw [show gu [255, 255, 255, 255, 255, 255, 255, 255, 255, 1] 0 = (18446744073709551615, 10, 0) by decide +kernel]
      go_wp2_with fail
      have hm2 := Bs.made' (wl.alloc (.cells #[.int .u8 255, .int .u8 255, .int .u8 255, .int .u8 255, .int .u8 255, .int .u8 255, .int .u8 255, .int .u8 255, .int .u8 255, .int .u8 1] 5)) #[.int .u8 255, .int .u8 255, .int .u8 255, .int .u8 255, .int .u8 255, .int .u8 255, .int .u8 255, .int .u8 255, .int .u8 255, .int .u8 2] 5 [255, 255, 255, 255, 255, 255, 255, 255, 255, 2] 10 (wl.heap.size + 1) (by simp) rfl rfl (by simp)
      have hc2 : Below w.heap.size w ((wl.alloc (.cells #[.int .u8 255, .int .u8 255, .int .u8 255, .int .u8 255, .int .u8 255, .int .u8 255, .int .u8 255, .int .u8 255, .int .u8 255, .int .u8 1] 5)).alloc (.cells #[.int .u8 255, .int .u8 255, .int .u8 255, .int .u8 255, .int .u8 255, .int .u8 255, .int .u8 255, .int .u8 255, .int .u8 255, .int .u8 2] 5)) := hc1.alloc hc1.size _
      refine (wrong_bs 10 _ _ _ hm2 (by simp) (by decide +kernel)).mono ?_
      rintro e wq ⟨rfl, rfl⟩
      go_wp2_with fail
      have hm3 := Bs.made' ((wl.alloc (.cells #[.int .u8 255, .int .u8 255, .int .u8 255, .int .u8 255, .int .u8 255, .int .u8 255, .int .u8 255, .int .u8 255, .int .u8 255, .int .u8 1] 5)).alloc (.cells #[.int .u8 255, .int .u8 255, .int .u8 255, .int .u8 255, .int .u8 255, .int .u8 255, .int .u8 255, .int .u8 255, .int .u8 255, .int .u8 2] 5)) #[.int .u8 255, .int .u8 255, .int .u8 255, .int .u8 255, .int .u8 255, .int .u8 255, .int .u8 255, .int .u8 255, .int .u8 255, .int .u8 128] 5 [255, 255, 255, 255, 255, 255, 255, 255, 255, 128] 10 (wl.heap.size + 1 + 1) (by simp) rfl rfl (by simp)
      have hc3 : Below w.heap.size w (((wl.alloc (.cells #[.int .u8 255, .int .u8 255, .int .u8 255, .int .u8 255, .int .u8 255, .int .u8 255, .int .u8 255, .int .u8 255, .int .u8 255, .int .u8 1] 5)).alloc (.cells #[.int .u8 255, .int .u8 255, .int .u8 255, .int .u8 255, .int .u8 255, .int .u8 255, .int .u8 255, .int .u8 255, .int .u8 255, .int .u8 2] 5)).alloc (.cells #[.int .u8 255, .int .u8 255, .int .u8 255, .int .u8 255, .int .u8 255, .int .u8 255, .int .u8 255, .int .u8 255, .int .u8 255, .int .u8 128] 5)) := hc2.alloc hc2.size _
      refine (wrong_bs 10 _ _ _ hm3 (by simp) (by decide +kernel)).mono ?_
      rintro e wq ⟨rfl, rfl⟩
      go_wp2_with fail
      have hm4 := Bs.made' (((wl.alloc (.cells #[.int .u8 255, .int .u8 255, .int .u8 255, .int .u8 255, .int .u8 255, .int .u8 255, .int .u8 255, .int .u8 255, .int .u8 255, .int .u8 1] 5)).alloc (.cells #[.int .u8 255, .int .u8 255, .int .u8 255, .int .u8 255, .int .u8 255, .int .u8 255, .int .u8 255, .int .u8 255, .int .u8 255, .int .u8 2] 5)).alloc (.cells #[.int .u8 255, .int .u8 255, .int .u8 255, .int .u8 255, .int .u8 255, .int .u8 255, .int .u8 255, .int .u8 255, .int .u8 255, .int .u8 128] 5)) #[.int .u8 255, .int .u8 255, .int .u8 255, .int .u8 255, .int .u8 255, .int .u8 255, .int .u8 255, .int .u8 255, .int .u8 255] 5 [255, 255, 255, 255, 255, 255, 255, 255, 255] 9 (wl.heap.size + 1 + 1 + 1) (by simp) rfl rfl (by simp)
      have hc4 : Below w.heap.size w ((((wl.alloc (.cells #[.int .u8 255, .int .u8 255, .int .u8 255, .int .u8 255, .int .u8 255, .int .u8 255, .int .u8 255, .int .u8 255, .int .u8 255, .int .u8 1] 5)).alloc (.cells #[.int .u8 255, .int .u8 255, .int .u8 255, .int .u8 255, .int .u8 255, .int .u8 255, .int .u8 255, .int .u8 255, .int .u8 255, .int .u8 2] 5)).alloc (.cells #[.int .u8 255, .int .u8 255, .int .u8 255, .int .u8 255, .int .u8 255, .int .u8 255, .int .u8 255, .int .u8 255, .int .u8 255, .int .u8 128] 5)).alloc (.cells #[.int .u8 255, .int .u8 255, .int .u8 255, .int .u8 255, .int .u8 255, .int .u8 255, .int .u8 255, .int .u8 255, .int .u8 255] 5)) := hc3.alloc hc3.size _
      refine (wrong_bs 11 _ _ _ hm4 (by simp) (by decide +kernel)).mono ?_
      rintro e wq ⟨rfl, rfl⟩
      go_wp2_with fail
      refine (wrong_bs 11 _ [] _ (Bs.nil _) (by simp) (by decide +kernel)).mono ?_
      rintro e wq ⟨rfl, rfl⟩
      go_wp2_with fail
      have hm5 := Bs.made' ((((wl.alloc (.cells #[.int .u8 255, .int .u8 255, .int .u8 255, .int .u8 255, .int .u8 255, .int .u8 255, .int .u8 255, .int .u8 255, .int .u8 255, .int .u8 1] 5)).alloc (.cells #[.int .u8 255, .int .u8 255, .int .u8 255, .int .u8 255, .int .u8 255, .int .u8 255, .int .u8 255, .int .u8 255, .int .u8 255, .int .u8 2] 5)).alloc (.cells #[.int .u8 255, .int .u8 255, .int .u8 255, .int .u8 255, .int .u8 255, .int .u8 255, .int .u8 255, .int .u8 255, .int .u8 255, .int .u8 128] 5)).alloc (.cells #[.int .u8 255, .int .u8 255, .int .u8 255, .int .u8 255, .int .u8 255, .int .u8 255, .int .u8 255, .int .u8 255, .int .u8 255] 5)) #[.int .u8 129, .int .u8 0] 5 [129, 0] 2 (wl.heap.size + 1 + 1 + 1 + 1) (by simp) rfl rfl (by simp)
      have hc5 : Below w.heap.size w (((((wl.alloc (.cells #[.int .u8 255, .int .u8 255, .int .u8 255, .int .u8 255, .int .u8 255, .int .u8 255, .int .u8 255, .int .u8 255, .int .u8 255, .int .u8 1] 5)).alloc (.cells #[.int .u8 255, .int .u8 255, .int .u8 255, .int .u8 255, .int .u8 255, .int .u8 255, .int .u8 255, .int .u8 255, .int .u8 255, .int .u8 2] 5)).alloc (.cells #[.int .u8 255, .int .u8 255, .int .u8 255, .int .u8 255, .int .u8 255, .int .u8 255, .int .u8 255, .int .u8 255, .int .u8 255, .int .u8 128] 5)).alloc (.cells #[.int .u8 255, .int .u8 255, .int .u8 255, .int .u8 255, .int .u8 255, .int .u8 255, .int .u8 255, .int .u8 255, .int .u8 255] 5)).alloc (.cells #[.int .u8 129, .int .u8 0] 5)) := hc4.alloc hc4.size _
      refine (wrong_bs 10 _ _ _ hm5 (by simp) (by decide +kernel)).mono ?_
      rintro e wq ⟨rfl, rfl⟩
      go_wp2_with fail
      refine (getuint_bad none 0 0 (-1) _ (by omega)).mono ?_
      rintro e wq ⟨rfl, rfl⟩
      go_wp2_with fail
      refine (getuint_bad none 0 0 1 _ (by omega)).mono ?_
      rintro e wq ⟨rfl, rfl⟩
      go_wp2_with fail
      have hm6 := Bs.made' (((((wl.alloc (.cells #[.int .u8 255, .int .u8 255, .int .u8 255, .int .u8 255, .int .u8 255, .int .u8 255, .int .u8 255, .int .u8 255, .int .u8 255, .int .u8 1] 5)).alloc (.cells #[.int .u8 255, .int .u8 255, .int .u8 255, .int .u8 255, .int .u8 255, .int .u8 255, .int .u8 255, .int .u8 255, .int .u8 255, .int .u8 2] 5)).alloc (.cells #[.int .u8 255, .int .u8 255, .int .u8 255, .int .u8 255, .int .u8 255, .int .u8 255, .int .u8 255, .int .u8 255, .int .u8 255, .int .u8 128] 5)).alloc (.cells #[.int .u8 255, .int .u8 255, .int .u8 255, .int .u8 255, .int .u8 255, .int .u8 255, .int .u8 255, .int .u8 255, .int .u8 255] 5)).alloc (.cells #[.int .u8 129, .int .u8 0] 5)) #[.int .u8 3, .int .u8 1, .int .u8 2] 5 [3, 1, 2] 3 (wl.heap.size + 1 + 1 + 1 + 1 + 1) (by simp) rfl rfl (by simp)
      have hc6 : Below w.heap.size w ((((((wl.alloc (.cells #[.int .u8 255, .int .u8 255, .int .u8 255, .int .u8 255, .int .u8 255, .int .u8 255, .int .u8 255, .int .u8 255, .int .u8 255, .int .u8 1] 5)).alloc (.cells #[.int .u8 255, .int .u8 255, .int .u8 255, .int .u8 255, .int .u8 255, .int .u8 255, .int .u8 255, .int .u8 255, .int .u8 255, .int .u8 2] 5)).alloc (.cells #[.int .u8 255, .int .u8 255, .int .u8 255, .int .u8 255, .int .u8 255, .int .u8 255, .int .u8 255, .int .u8 255, .int .u8 255, .int .u8 128] 5)).alloc (.cells #[.int .u8 255, .int .u8 255, .int .u8 255, .int .u8 255, .int .u8 255, .int .u8 255, .int .u8 255, .int .u8 255, .int .u8 255] 5)).alloc (.cells #[.int .u8 129, .int .u8 0] 5)).alloc (.cells #[.int .u8 3, .int .u8 1, .int .u8 2] 5)) := hc5.alloc hc5.size _
      refine (getblob_bs _ [3, 1, 2] 0 9 _ hm6 (by simp) (by simp) (by omega) (by omega)).mono ?_
      rintro e x1 ⟨y1, rfl, _, hy1, hb1⟩
      have hd1 : Below w.heap.size w x1 := nxt hc6 hb1
      rw [show gb [3, 1, 2] 0 9 = ([], 0, 11) by decide +kernel] at hy1 ⊢
      dsimp only at hy1
      go_wp2_with fail
      have hm7 := Bs.made' x1 #[.int .u8 3, .int .u8 1, .int .u8 2, .int .u8 3] 5 [3, 1, 2, 3] 4 (x1.heap.size) rfl rfl rfl (by simp)
      have hc7 : Below w.heap.size w (x1.alloc (.cells #[.int .u8 3, .int .u8 1, .int .u8 2, .int .u8 3] 5)) := hd1.alloc hd1.size _
      refine (getblob_bs _ [3, 1, 2, 3] 0 2 _ hm7 (by simp) (by simp) (by omega) (by omega)).mono ?_
      rintro e x2 ⟨y2, rfl, _, hy2, hb2⟩
      have hd2 : Below w.heap.size w x2 := nxt hc7 hb2
      rw [show gb [3, 1, 2, 3] 0 2 = ([], 0, 3) by decide +kernel] at hy2 ⊢
      dsimp only at hy2
      go_wp2_with fail
      have hm8 := Bs.made' x2 #[.int .u8 0] 5 [0] 1 (x2.heap.size) rfl rfl rfl (by simp)
      have hc8 : Below w.heap.size w (x2.alloc (.cells #[.int .u8 0] 5)) := hd2.alloc hd2.size _
      refine (getblob_bs _ [0] 0 (-1) _ hm8 (by simp) (by simp) (by omega) (by omega)).mono ?_
      rintro e x3 ⟨y3, rfl, _, hy3, hb3⟩
      have hd3 : Below w.heap.size w x3 := nxt hc8 hb3
      rw [show gb [0] 0 (-1) = ([], 0, 3) by decide +kernel] at hy3 ⊢
      dsimp only at hy3
      go_wp2_with fail
      have hm9 := Bs.made' x3 #[.int .u8 255, .int .u8 255, .int .u8 255, .int .u8 255, .int .u8 255, .int .u8 255, .int .u8 255, .int .u8 255, .int .u8 255, .int .u8 1] 5 [255, 255, 255, 255, 255, 255, 255, 255, 255, 1] 10 (x3.heap.size) rfl rfl rfl (by simp)
      have hc9 : Below w.heap.size w (x3.alloc (.cells #[.int .u8 255, .int .u8 255, .int .u8 255, .int .u8 255, .int .u8 255, .int .u8 255, .int .u8 255, .int .u8 255, .int .u8 255, .int .u8 1] 5)) := hd3.alloc hd3.size _
      refine (getblob_bs _ [255, 255, 255, 255, 255, 255, 255, 255, 255, 1] 0 4611686018427387904 _ hm9 (by simp) (by simp) (by omega) (by omega)).mono ?_
      rintro e x4 ⟨y4, rfl, _, hy4, hb4⟩
      have hd4 : Below w.heap.size w x4 := nxt hc9 hb4
      rw [show gb [255, 255, 255, 255, 255, 255, 255, 255, 255, 1] 0 4611686018427387904 = ([], 0, 3) by decide +kernel] at hy4 ⊢
      dsimp only at hy4
      go_wp2_with fail
      have hm10 := Bs.made' x4 #[.int .u8 9, .int .u8 2, .int .u8 5, .int .u8 6, .int .u8 7] 5 [9, 2, 5, 6, 7] 5 (x4.heap.size) rfl rfl rfl (by simp)
      have hc10 : Below w.heap.size w (x4.alloc (.cells #[.int .u8 9, .int .u8 2, .int .u8 5, .int .u8 6, .int .u8 7] 5)) := hd4.alloc hd4.size _
      refine (getblob_bs _ [9, 2, 5, 6, 7] 1 2 _ hm10 (by simp) (by simp) (by omega) (by omega)).mono ?_
      rintro e x5 ⟨y5, rfl, _, hy5, hb5⟩
      have hd5 : Below w.heap.size w x5 := nxt hc10 hb5
      rw [show gb [9, 2, 5, 6, 7] 1 2 = ([5, 6], 4, 0) by decide +kernel] at hy5 ⊢
      dsimp only at hy5
      go_wp2_with fail
      have hm11 := Bs.made' x5 #[.int .u8 0, .int .u8 0, .int .u8 0] 5 [0, 0, 0] 3 (x5.heap.size) rfl rfl rfl (by simp)
      have hc11 : Below w.heap.size w (x5.alloc (.cells #[.int .u8 0, .int .u8 0, .int .u8 0] 5)) := hd5.alloc hd5.size _
      refine (unseal_bs _ [0, 0, 0] _ hm11 (by simp)).mono ?_
      rintro e x6 ⟨y6, rfl, _, hy6, hb6⟩
      have hd6 : Below w.heap.size w x6 := nxt hc11 hb6
      rw [show us [0, 0, 0] = ([], 11) by decide +kernel]
      have hz6 := (hy5.alloc _).below hb6
      go_wp2_with fail
      have hm12 := Bs.made' x6 #[.int .u8 0, .int .u8 0, .int .u8 0, .int .u8 1] 5 [0, 0, 0, 1] 4 (x6.heap.size) rfl rfl rfl (by simp)
      have hc12 : Below w.heap.size w (x6.alloc (.cells #[.int .u8 0, .int .u8 0, .int .u8 0, .int .u8 1] 5)) := hd6.alloc hd6.size _
      refine (unseal_bs _ [0, 0, 0, 1] _ hm12 (by simp)).mono ?_
      rintro e x7 ⟨y7, rfl, _, hy7, hb7⟩
      have hd7 : Below w.heap.size w x7 := nxt hc12 hb7
      rw [show us [0, 0, 0, 1] = ([], 12) by decide +kernel]
      have hz7 := (hz6.alloc _).below hb7
      go_wp2_with fail
      have hm13 := Bs.made' x7 #[.int .u8 97, .int .u8 98, .int .u8 99] 5 [97, 98, 99] 3 (x7.heap.size) rfl rfl rfl (by simp) (3, 4)
      have hc13 : Below w.heap.size w (x7.alloc (.cells #[.int .u8 97, .int .u8 98, .int .u8 99] 5 (3, 4))) := hd7.alloc hd7.size _
      refine (seal_bs _ [97, 98, 99] _ hm13 (by simp)).mono ?_
      rintro e x8 ⟨y8, rfl, _, hy8, hb8⟩
      have hd8 : Below w.heap.size w x8 := nxt hc13 hb8
      have hz8 := (hz7.alloc _).below hb8
      go_wp2_with fail
      refine (unseal_bs _ _ _ hy8 (by decide +kernel)).mono ?_
      rintro e x9 ⟨y9, rfl, _, hy9, hb9⟩
      have hd9 : Below w.heap.size w x9 := nxt hd8 hb9
      rw [us_seal] at hy9 ⊢
      dsimp only at hy9
      have hz9 := hz8.below hb9
      obtain ⟨⟨A4, c4, rfl, _, hA4⟩, h48⟩ := id hy9
      go_wp2_with fail
      have hm14 := Bs.made' x9 #[.int .u8 5, .int .u8 6] 5 [5, 6] 2 (x9.heap.size) rfl rfl rfl (by simp)
      have hc14 : Below w.heap.size w (x9.alloc (.cells #[.int .u8 5, .int .u8 6] 5)) := hd9.alloc hd9.size _
      have hs0 := run_strOf _ _ A4 c4 [97, 98, 99] ((hA4.alloc (Nat.le_refl _) (.cells #[.int .u8 5, .int .u8 6] 5))) h48
      rw [show ([97, 98, 99] : List Nat).length = 3 from rfl] at hs0
      have hs1 : (strOf [97, 98, 99]).toList = [97, 98, 99] := by rw [ByteArray.toList_eq]; decide +kernel
      generalize strOf [97, 98, 99] = sabc at *
      refine (is_bs _ _ [5, 6] [5, 6] true _ (hz9.alloc _) hm14 (by simp)).mono ?_
      rintro e wq ⟨rfl, rfl⟩
      go_wp2_with fail
      refine (awake_any _).mono ?_
      rintro e wz ⟨rfl, hbz⟩
      go_wp2
      go_ret
      exact ⟨rfl, nxt hc14 hbz⟩

set_option maxRecDepth 100000 in
theorem lifted (os : Os) (started : os.Started) (H : Type) (enc : TypeId × Value → H) :
    ReturnsInHanded {} Try.checked os 3 .any (Rows.bytesNumbersSpec.pre6 enc Try.prog Try.f3 Rows.bytesNumbersRow.domain false) (Rows.bytesNumbersSpec.post enc Try.prog Try.f3 false true false false) := by
  refine returnsInHanded_of_change (C := Try.checked) knob_own started (by kernel_rfl) Try.func3
    (ChangeSpec.witness6 (enc := enc) (C := Try.checked) false ⟨#[], #[], []⟩ 8 (by kernel_rfl) (by kernel_rfl) (by kernel_rfl) (by kernel_rfl)) ?_
  intro W base args ds gs before hval0 hW hcnd _
  have hval : ∀ (j : Nat) t v, Try.f3.params[j]? = some t → args[j]? = some v → Value.okWide Try.prog W .any base t v := hval0
  have hW' := hW
  obtain ⟨p, q, hA0, hV, rfl, hfz, hnd⟩ := hW
  have hA : DataW.TrodAll enc Try.prog W 0 (fun _ => true) true Try.f3.params.toList args.toList ds p := hA0
  rw [Try.params3] at hA hval
  obtain ⟨rfl, rfl, rfl⟩ := trodAll_none hA
  obtain ⟨rfl, rfl⟩ := trodVars_none hV

  clear hA0 hval0
  refine (walk W  ).mono fun e W' ⟨he, bel⟩ => ?_
  subst he
  exact ⟨_, rfl, _, _, _, [], _, [], hW', trodAll_mk1 (shut_bool Try.underlying4 _), (trodAll_mk0), rfl, bel.frame _, fun h => by cases h⟩

theorem over : Rows.bytesNumbersRow.holds Try.pinned (OpenSpec.ofChange Rows.bytesNumbersSpec) :=
  OpenClaim.holds_of_wide 3 Try.f3 rfl rfl rfl rfl rfl rfl rfl ⟨rfl, rfl, rfl, rfl, rfl⟩ rfl rfl rfl rfl rfl (by kernel_rfl) Try.func3 (by kernel_rfl)
    (of_decide_eq_true (by kernel_rfl)) (by unfold Func.isWrapper; first | (rw [if_pos (by decide +kernel)]; kernel_rfl) | (rw [if_neg (by decide +kernel)]; exact ⟨rfl, rfl⟩))
    (fun os started H enc _ => lifted os started H enc)

theorem proved : Rows.BytesNumbersSaid := over
end Go.Proofs.Ytafjkbmkoghmkaa.bytesNumbers
