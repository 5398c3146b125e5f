/- droverlaw04.reads, awake: the walks. -/
import Derived.Test.YtmjgoeigjjabmaaDop3
import Derived.Lib.SlBytesConst
namespace Go.Proofs.Ytmjgoeigjjabmaa
open Go.RowKit

section
variable {w : World} {base p : Nat} {r : Option Nat} {d : Pd}
set_option maxHeartbeats 400000 in
theorem reads_any (S : ByteArray) (hS : S = strOf d.bs) (hd : d.down = false) (h : Dk w base p r d) :
    Calls Try.prog 14 #[.pointer (some ⟨p, 0, none⟩), .string S] w fun e w' => e = .returned (.bool true) ∧ Below w.heap.size w w' := by
  have hr1 : d.read = (d.bs, 0) := by unfold Pd.read; rw [if_neg (by rw [hd]; decide)]
  have h8 := h.ok.byte
  have HS := Lib.hid hS
  have HR := Lib.hid hr1
  have hsz : Hid (S.size = d.bs.length) := by rw [hS]; exact strOf_size _
  clear hS
  go_enter Try.func14, Try.ntmps14
  go_wp2_with fail
  refine (read_any h).mono ?_
  rintro e w1 ⟨v, rfl, ho, hv, hb⟩
  rw [HR.out] at ho hv ⊢
  obtain ⟨⟨A, c, rfl, hc, ha⟩, -⟩ := id hv
  have hcv := run_strOf w1 _ A c d.bs ha h8
  have hd1 := h.below hb
  have heq : ((strOf d.bs).toList == S.toList) = true := by rw [HS.out]; simp
  have hse : ((d.bs.length : Int) == (S.size : Int)) = true := by rw [hsz.out]; simp
  go_wp2_with fail
  refine (size_any hd1).mono ?_
  rintro e w2 ⟨rfl, rfl⟩
  go_wp2_with fail
  go_ret
  exact ⟨rfl, hb⟩
end

set_option maxRecDepth 100000 in
set_option maxHeartbeats 2000000 in
theorem awake_any (w : World) : Calls Try.prog 20 #[] w fun e w' => e = .returned (.bool true) ∧ Below w.heap.size w w' := by
  have hcv : ∀ (w : World) (C : Array Value) (n c g : Nat), g = w.heap.size → (convert 26 26 (.slice (some ⟨g, 0, none⟩) n c)).run Try.prog (w.alloc (.cells C 5)) = .ok (.slice (some ⟨g, 0, none⟩) n c) (w.alloc (.cells C 5 (C.size, C.size + 1))) := by
    intro w C n c g hg
    subst hg
    exact Lib.run_convert_bytes_const (P := Try.prog) w 26 5 C n c Try.underlying26 Try.underlying5
  go_enter Try.func20, Try.ntmps20
  go_wp2_with fail
  refine (new_any 100 (by omega) w).mono ?_
  rintro e w0 ⟨rfl, hd0, hb0⟩
  obtain ⟨p, hp⟩ : ∃ p, p = w.heap.size := ⟨_, rfl⟩
  have hd0 : Dk w0 w.heap.size p none (.new 100) := by rw [hp]; exact hd0
  rw [← hp]
  have HP := Lib.hid hp
  clear hp
  have hd0 : Dk w0 w.heap.size p none ⟨100, [], 0, false, 0, false⟩ := hd0
  go_wp2_with fail
  have ha1 : Below w.heap.size w (w0.alloc (.cells #[.int .u8 97, .int .u8 98, .int .u8 99] 5 (3, 4))) := hb0.alloc hb0.size _
  have hv1 := Bs.made' w0 #[.int .u8 97, .int .u8 98, .int .u8 99] 5 [97, 98, 99] 3 w0.heap.size rfl rfl rfl (by simp) (3, 4)
  have hq1 := hd0.alloc (.cells #[.int .u8 97, .int .u8 98, .int .u8 99] 5 (3, 4))
  refine (append_any _ [97, 98, 99] hq1 hv1).mono ?_
  rintro e w1 ⟨rfl, r1, hd1, hk1, -⟩
  have e1 : Pd.app ⟨100, [], 0, false, 0, false⟩ [97, 98, 99] = (⟨100, [97, 98, 99], 0, false, 0, false⟩, 0) := rfl
  rw [e1] at hd1 ⊢
  have hb1 := ha1.trans (hq1.low hk1)
  clear ha1 hv1 hq1 hk1 hd0 hb0 e1
  go_wp2_with fail
  refine (sync_any hd1).mono ?_
  rintro e w2 ⟨rfl, r2, hd2, hk2, -⟩
  have e2 : Pd.sync ⟨100, [97, 98, 99], 0, false, 0, false⟩ = (⟨100, [97, 98, 99], 3, false, 0, false⟩, 0) := rfl
  rw [e2] at hd2 ⊢
  have hb2 := hb1.trans (hd1.low hk2)
  clear hk2 hd1 hb1 e2
  go_wp2_with fail
  have ha3 : Below w.heap.size w (w2.alloc (.cells #[.int .u8 100, .int .u8 101] 5 (2, 3))) := hb2.alloc hb2.size _
  have hv3 := Bs.made' w2 #[.int .u8 100, .int .u8 101] 5 [100, 101] 2 w2.heap.size rfl rfl rfl (by simp) (2, 3)
  have hq3 := hd2.alloc (.cells #[.int .u8 100, .int .u8 101] 5 (2, 3))
  refine (append_any _ [100, 101] hq3 hv3).mono ?_
  rintro e w3 ⟨rfl, r3, hd3, hk3, -⟩
  have e3 : Pd.app ⟨100, [97, 98, 99], 3, false, 0, false⟩ [100, 101] = (⟨100, [97, 98, 99, 100, 101], 3, false, 0, false⟩, 0) := rfl
  rw [e3] at hd3 ⊢
  have hb3 := ha3.trans (hq3.low hk3)
  clear ha3 hv3 hq3 hk3 hd2 hb2 e3
  go_wp2_with fail
  refine (size_any hd3).mono ?_
  rintro e wx ⟨rfl, rfl⟩
  go_wp2_with fail
  refine (synced_any hd3).mono ?_
  rintro e wx ⟨rfl, rfl⟩
  go_wp2_with fail
  refine (crash_any 1 (by omega) (by omega) hd3).mono ?_
  rintro e w4 ⟨rfl, r4, hd4, hk4, -⟩
  have e4 : Pd.crash ⟨100, [97, 98, 99, 100, 101], 3, false, 0, false⟩ 1 = ⟨100, [97, 98, 99, 100], 4, false, 0, false⟩ := rfl
  rw [e4] at hd4
  have hb4 := hb3.trans (hd3.low hk4)
  clear hk4 hd3 hb3 e4
  go_wp2_with fail
  refine (reads_any ⟨#[97, 98, 99, 100]⟩ rfl rfl hd4).mono ?_
  rintro e w5 ⟨rfl, hq5⟩
  have hd5 := hd4.below hq5
  have hb5 := nxt hb4 hq5
  clear hq5 hd4 hb4
  go_wp2_with fail
  refine (synced_any hd5).mono ?_
  rintro e wx ⟨rfl, rfl⟩
  go_wp2_with fail
  refine (arm_any 1 (by omega) hd5).mono ?_
  rintro e w6 ⟨rfl, r6, hd6, hk6, -⟩
  have e6 : Pd.arm ⟨100, [97, 98, 99, 100], 4, false, 0, false⟩ 1 = ⟨100, [97, 98, 99, 100], 4, true, 1, false⟩ := rfl
  rw [e6] at hd6
  have hb6 := hb5.trans (hd5.low hk6)
  clear hk6 hd5 hb5 e6
  go_wp2_with fail
  have ha7 : Below w.heap.size w (w6.alloc (.cells #[.int .u8 120] 5 (1, 2))) := hb6.alloc hb6.size _
  have hv7 := Bs.made' w6 #[.int .u8 120] 5 [120] 1 w6.heap.size rfl rfl rfl (by simp) (1, 2)
  have hq7 := hd6.alloc (.cells #[.int .u8 120] 5 (1, 2))
  refine (append_any _ [120] hq7 hv7).mono ?_
  rintro e w7 ⟨rfl, r7, hd7, hk7, -⟩
  have e7 : Pd.app ⟨100, [97, 98, 99, 100], 4, true, 1, false⟩ [120] = (⟨100, [97, 98, 99, 100, 120], 4, true, 0, false⟩, 0) := rfl
  rw [e7] at hd7 ⊢
  have hb7 := ha7.trans (hq7.low hk7)
  clear ha7 hv7 hq7 hk7 hd6 hb6 e7
  go_wp2_with fail
  have ha8 : Below w.heap.size w (w7.alloc (.cells #[.int .u8 121] 5 (1, 2))) := hb7.alloc hb7.size _
  have hv8 := Bs.made' w7 #[.int .u8 121] 5 [121] 1 w7.heap.size rfl rfl rfl (by simp) (1, 2)
  have hq8 := hd7.alloc (.cells #[.int .u8 121] 5 (1, 2))
  refine (append_any _ [121] hq8 hv8).mono ?_
  rintro e w8 ⟨rfl, r8, hd8, hk8, -⟩
  have e8 : Pd.app ⟨100, [97, 98, 99, 100, 120], 4, true, 0, false⟩ [121] = (⟨100, [97, 98, 99, 100, 120], 4, false, 0, true⟩, 15) := rfl
  rw [e8] at hd8 ⊢
  have hb8 := ha8.trans (hq8.low hk8)
  clear ha8 hv8 hq8 hk8 hd7 hb7 e8
  go_wp2_with fail
  refine (read_any hd8).mono ?_
  rintro e w9 ⟨v9, rfl, ho9, hv9, hq9⟩
  have e9 : Pd.read ⟨100, [97, 98, 99, 100, 120], 4, false, 0, true⟩ = ([], 15) := rfl
  rw [e9] at ho9 hv9 ⊢
  have hd9 := hd8.below hq9
  have hb9 := nxt hb8 hq9
  clear hq9 hd8 hb8 e9
  obtain ⟨⟨A, c, rfl, -, -⟩, -⟩ := id hv9
  go_wp2_with fail
  refine (down_any hd9).mono ?_
  rintro e wx ⟨rfl, rfl⟩
  go_wp2_with fail
  refine (crash_any 0 (by omega) (by omega) hd9).mono ?_
  rintro e w10 ⟨rfl, r10, hd10, hk10, -⟩
  have e10 : Pd.crash ⟨100, [97, 98, 99, 100, 120], 4, false, 0, true⟩ 0 = ⟨100, [97, 98, 99, 100], 4, false, 0, false⟩ := rfl
  rw [e10] at hd10
  have hb10 := hb9.trans (hd9.low hk10)
  clear hk10 hd9 hb9 e10
  go_wp2_with fail
  refine (down_any hd10).mono ?_
  rintro e wx ⟨rfl, rfl⟩
  go_wp2_with fail
  refine (reads_any ⟨#[97, 98, 99, 100]⟩ rfl rfl hd10).mono ?_
  rintro e w11 ⟨rfl, hq11⟩
  have hd11 := hd10.below hq11
  have hb11 := nxt hb10 hq11
  clear hq11 hd10 hb10
  go_wp2_with fail
  go_ret
  exact ⟨rfl, hb11⟩
end Go.Proofs.Ytmjgoeigjjabmaa
