/- droverlaw05.awake: the walk. -/
import Derived.Test.YtcmopnkldplngaaLj
import Derived.Lib.SlBytesConst
namespace Go.Proofs.Ytcmopnkldplngaa
open Go.RowKit

theorem addL_ok (l : Pl) (d : Pd) (x : List Nat) (hx : 1 ≤ x.length ∧ x.length ≤ 1048576) (hs : l.shut = false) (hd : d.down = false) (ha : d.armed = false) (hr : ¬ d.most - d.bs.length < (lrec x).length) :
    addL l d x = (⟨l.n + 1, l.size + (lrec x).length, false⟩, ⟨d.most, d.bs ++ lrec x, (d.bs ++ lrec x).length, false, d.left, false⟩, 0) := by
  have ht : takesE l x = 0 := by
    unfold takesE
    rw [if_neg (by omega), if_neg (by omega), if_neg (by rw [hs]; decide)]
  have h1 : d.app (lrec x) = (⟨d.most, d.bs ++ lrec x, d.syn, false, d.left, false⟩, 0) := by
    unfold Pd.app Pd.op Pd.less
    rw [if_neg (by rw [hd]; decide), if_neg hr, if_neg (by rw [ha]; simp), if_neg (by rw [ha]; decide)]
    simp [Pd.put, ha, hd]
  have h2 : addD d (lrec x) = (⟨d.most, d.bs ++ lrec x, (d.bs ++ lrec x).length, false, d.left, false⟩, 0) := by
    unfold addD
    rw [h1]
    rfl
  unfold addL
  rw [ht, h2]
  simp [hs]
theorem lrec_a : (lrec [97]).length = 9 := by rw [lrec_length]; rfl
theorem open_new (m : Nat) : openL (.new m) = (.new m, .ok []) := by
  have : whole (Pd.new m).bs = [] := whole_end _ lfirst_nil
  unfold openL
  rw [this]
  rfl
theorem lgood_a : lgood [97] := ⟨by simp, by simp, by simp⟩
theorem open_axyz (l : Nat) : openL ⟨100, lrec [97] ++ [120, 121, 122], l, false, 0, false⟩ = (⟨100, lrec [97], 9, false, 0, false⟩, .ok [[97]]) := by
  have hw : whole (lrec [97] ++ [120, 121, 122]) = [[97]] := by
    rw [whole_rec _ _ lgood_a, whole_end _ (by unfold lfirst; rw [if_pos (by decide)])]
  have hl : (lrecs [[97]]).length = 9 := by rw [show lrecs [[97]] = lrec [97] by simp [lrecs], lrec_a]
  have hc : Pd.cut ⟨100, lrec [97] ++ [120, 121, 122], l, false, 0, false⟩ ((9 : Nat) : Int) = (⟨100, lrec [97], 9, false, 0, false⟩, 0) := by
    unfold Pd.cut Pd.op Pd.less
    have e : (lrec [97] ++ [120, 121, 122]).take 9 = lrec [97] := List.take_left' lrec_a
    rw [if_neg (by simp), if_neg (by simp [lrec_a]), if_neg (by simp), if_neg (by simp)]
    simp [Pd.leave, e]
  unfold openL
  dsimp only
  rw [hw, hl, hc, if_neg (by simp), if_pos (by simp [lrec_a]), if_neg (by simp)]
set_option maxRecDepth 100000 in
set_option maxHeartbeats 3200000 in
theorem awake05_any (w : World) : Calls Try.prog 17 #[] w fun e w' => e = .returned (.bool true) ∧ Below w.heap.size w w' := by
  have hcv : ∀ (w : World) (C : Array Value) (n c g : Nat), g = w.heap.size → (convert 22 22 (.slice (some ⟨g, 0, none⟩) n c)).run Try.prog (w.alloc (.cells C 5)) = .ok (.slice (some ⟨g, 0, none⟩) n c) (w.alloc (.cells C 5 (C.size, C.size + 1))) := by
    intro w C n c g hg
    subst hg
    exact Lib.run_convert_bytes_const (P := Try.prog) w 22 5 C n c Try.underlying22 Try.underlying5
  have HY := Lib.hid lrec_a
  have HYb := Lib.hid (lrec_bytes [97] lgood_a)
  have HO2 := Lib.hid open_axyz
  have HA1 : Hid (addL (plOf []) (.new 100) [97] = (⟨1, 9, false⟩, ⟨100, lrec [97], 9, false, 0, false⟩, 0)) := by
    show _ = _
    rw [addL_ok _ _ _ (by simp) rfl rfl rfl (by rw [lrec_a]; decide), lrec_a]
    simp [Pd.new, plOf, lrec_a, lrecs]
  have HRR := Lib.hid (fun v w h => refrecord_any v [97] w h (by simp))
  generalize lrec [97] = Y at *
  go_enter Try.func17, Try.ntmps17
  go_wp2_with fail
  refine (new_any 100 (by omega) w).mono ?_
  rintro e w0 ⟨rfl, hd0, hb0⟩
  obtain ⟨p, hp⟩ : ∃ p, p = w.heap.size := ⟨_, rfl⟩
  have hd0 : Dk w0 w.heap.size p none (.new 100) := by rw [hp]; exact hd0
  rw [← hp]
  have HP := Lib.hid hp
  clear hp
  go_wp2_with fail
  refine (open_any hd0).mono ?_
  rintro e w1 ⟨r1, hd1, hk1, hr1, hop⟩
  rw [open_new] at hd1 hop
  obtain ⟨A1, c1, q1, m1, rfl, -, hm1, hmq1, -, hq1, -⟩ := hop
  have hb1 := hb0.trans (hd0.low hk1)
  have hg1 : Lg w1 w.heap.size p q1 r1 (.new 100) (plOf []) := ⟨hd1, hq1, by have := hb0.size; omega⟩
  clear hd0 hb0 hk1 hr1 hd1 hq1 hm1 hmq1
  go_wp2_with fail
  have ha2 : Below w.heap.size w (w1.alloc (.cells #[.int .u8 97] 5 (1, 2))) := hb1.alloc hb1.size _
  have hv2 := Bs.made' w1 #[.int .u8 97] 5 [97] 1 w1.heap.size rfl rfl rfl (by simp) (1, 2)
  have hg1' := hg1.below ((Below.refl w1.heap.size w1).alloc (Nat.le_refl _) (.cells #[.int .u8 97] 5 (1, 2)))
  have HAdd := Lib.hid (add_any _ [97] hg1' hv2 (by simp [plOf]) (by simp [plOf, lrecs]))
  rw [HA1.out] at HAdd
  refine HAdd.out.mono ?_
  rintro e w2 ⟨rfl, r2, hg2, hk2, hr2⟩
  have hb2 := ha2.trans (hg1'.low_of hk2)
  clear ha2 hv2 hg1' HAdd hk2 hr2 hg1 hb1 HA1
  dsimp only at hg2 ⊢
  go_wp2_with fail
  refine (read_any hg2.dk).mono ?_
  rintro e w3 ⟨v3, rfl, hov3, hv3, hq3⟩
  have e3 : Pd.read ⟨100, Y, 9, false, 0, false⟩ = (Y, 0) := rfl
  rw [e3] at hv3 hov3 ⊢
  have hs3 := dk_beside hg2.dk hq3 hov3
  have hg3 := hg2.below hq3
  have hb3 := nxt hb2 hq3
  obtain ⟨⟨Av, cv, rfl, -, -⟩, -⟩ := id hv3
  clear hg2 hb2 hq3 e3 hv3 hov3
  go_wp2_with fail
  have hal4 := (Below.refl w3.heap.size w3).alloc (Nat.le_refl _) (.cells #[.int .u8 120, .int .u8 121, .int .u8 122] 5 (3, 4))
  have hv4 := Bs.made' w3 #[.int .u8 120, .int .u8 121, .int .u8 122] 5 [120, 121, 122] 3 w3.heap.size rfl rfl rfl (by simp) (3, 4)
  have hg4 := hg3.below hal4
  have hs4 := hs3.below hal4
  have hb4 := nxt hb3 hal4
  refine (append_any _ [120, 121, 122] hs4.dk hv4).mono ?_
  rintro e w5 ⟨rfl, ha5⟩
  have e5 : Pd.app ⟨100, Y, 9, false, 0, false⟩ [120, 121, 122] = (⟨100, Y ++ [120, 121, 122], 9, false, 0, false⟩, 0) := by
    unfold Pd.app Pd.op Pd.less
    rw [if_neg (by simp), if_neg (by simp [HY.out]), if_neg (by simp), if_neg (by simp)]
    rfl
  rw [e5] at ha5 ⊢
  obtain ⟨r5, hs5, hk5⟩ := hs4.disk ha5
  have hq5 : LgAt w5 q1 p ⟨1, 9, false⟩ := hk5.heap hg4.at_ (fun e => hg4.ne e.symm) (hs4.dk.lg_row hg4.at_)
  have hb5 := hb4.trans (hs4.dk.low hk5)
  clear e5 hal4 hv4 hg3 hb3 hs3 hk5 hb4 hs4 ha5
  have hlow := hg4.low
  clear hg4
  go_wp2_with fail
  refine (open_any hs5.dk).mono ?_
  rintro e w6 ⟨r6', hd6, hk6', hr6, hop⟩
  rw [HO2.out] at hd6 hop
  obtain ⟨A6, c6, q6, m6, rfl, hc6, hm6, hmq6, hrr6, hq6, hB6, -⟩ := hop
  have hoff6 := Off.opened (fun g e => (hs5.dk.row_lt e).2) hrr6
  have hs6 := hs5.to hd6 hk6' hr6
  have hb6 := hb5.trans (hs5.dk.low hk6')
  have hq16 : LgAt w6 q1 p ⟨1, 9, false⟩ := hk6'.heap hq5 (fun e => (hs5.dk.lg_ne hq5) e.symm) (hs5.dk.lg_row hq5)
  have hp5 := hs5.dk.lt
  have hqlt6 := lt_heap hq6
  clear hk6' hr6 hs5 hq5 hb5 hd6 hrr6
  go_wp2_with fail
  refine (arm_any 0 (by omega) hs6.dk).mono ?_
  rintro e w7 ⟨rfl, r7, hd7, hk7, hr7⟩
  have e7 : Pd.arm ⟨100, Y, 9, false, 0, false⟩ 0 = ⟨100, Y, 9, true, 0, false⟩ := rfl
  rw [e7] at hd7
  have hs7 := hs6.to hd7 hk7 hr7
  have hb7 := hb6.trans (hs6.dk.low hk7)
  have hq17 : LgAt w7 q1 p ⟨1, 9, false⟩ := hk7.heap hq16 (fun e => (hs6.dk.lg_ne hq16) e.symm) (hs6.dk.lg_row hq16)
  have hq67 : LgAt w7 q6 p (plOf [[97]]) := hk7.heap hq6 (fun e => (hs6.dk.lg_ne hq6) e.symm) (hs6.dk.lg_row hq6)
  have hB7 := hB6.kr hk7 hp5 (by omega) hoff6
  have hoff7 := hoff6.rw hr7 (by omega)
  have hz7 := hk7.size
  clear hs6 hd7 hk7 hr7 e7 hb6 hq16 hq6 hB6 hoff6
  go_wp2_with fail
  refine (sync_any hs7.dk).mono ?_
  rintro e w8 ⟨rfl, r8, hd8, hk8, hr8⟩
  have e8 : Pd.sync ⟨100, Y, 9, true, 0, false⟩ = (⟨100, Y, 9, false, 0, true⟩, 15) := rfl
  rw [e8] at hd8 ⊢
  have hs8 := hs7.to hd8 hk8 hr8
  have hb8 := hb7.trans (hs7.dk.low hk8)
  have hq18 : LgAt w8 q1 p ⟨1, 9, false⟩ := hk8.heap hq17 (fun e => (hs7.dk.lg_ne hq17) e.symm) (hs7.dk.lg_row hq17)
  have hq68 : LgAt w8 q6 p (plOf [[97]]) := hk8.heap hq67 (fun e => (hs7.dk.lg_ne hq67) e.symm) (hs7.dk.lg_row hq67)
  have hB8 := hB7.kr hk8 hp5 (by omega) hoff7
  have hoff8 := hoff7.rw hr8 (by omega)
  have hz8 := hk8.size
  clear hs7 hd8 hk8 hr8 e8 hb7 hq17 hq67 hB7 hoff7
  go_wp2_with fail
  refine (open_any hs8.dk).mono ?_
  rintro e w9 ⟨r9, hd9, hk9, hr9, hop⟩
  have e9 : openL ⟨100, Y, 9, false, 0, true⟩ = (⟨100, Y, 9, false, 0, true⟩, .error 15) := rfl
  rw [e9] at hd9 hop
  obtain rfl := hop
  have hs9 := hs8.to hd9 hk9 hr9
  have hb9 := hb8.trans (hs8.dk.low hk9)
  have hq19 : LgAt w9 q1 p ⟨1, 9, false⟩ := hk9.heap hq18 (fun e => (hs8.dk.lg_ne hq18) e.symm) (hs8.dk.lg_row hq18)
  have hq69 : LgAt w9 q6 p (plOf [[97]]) := hk9.heap hq68 (fun e => (hs8.dk.lg_ne hq68) e.symm) (hs8.dk.lg_row hq68)
  have hB9 := hB8.kr hk9 hp5 (by omega) hoff8
  have hz9 := hk9.size
  have hm9 : m6 ≤ w9.heap.size := by omega
  clear hs8 hd9 hk9 hr9 e9 hb8 hq18 hq68 hB8 hoff8 hz7 hz8 hz9
  go_wp2_with fail
  have hv10 := Bs.made' w9 #[.int .u8 97] 5 [97] 1 w9.heap.size rfl rfl rfl (by simp) (1, 2)
  have hal10 := (Below.refl w9.heap.size w9).alloc (Nat.le_refl _) (.cells #[.int .u8 97] 5 (1, 2))
  refine (HRR.out _ _ hv10).mono ?_
  rintro e w10 ⟨u10, rfl, ho10, hb10'⟩
  have hb910 := nxt hal10 hb10'
  have hs10 := hs9.below hb910
  have hb10 := nxt hb9 hb910
  have hq110 : LgAt w10 q1 p ⟨1, 9, false⟩ := heap_below hq19 hb910
  have hq610 : LgAt w10 q6 p (plOf [[97]]) := heap_below hq69 hb910
  have hB10 := hB9.low hb910 hm9
  have hm10 : m6 ≤ w10.heap.size := by have := hb910.size; omega
  obtain ⟨A10, c10, rfl, -, -, -, -, -⟩ := id ho10.form
  clear hv10 hal10 hb10' hs9 hb9 hq19 hq69 hB9 hb910 hm9
  go_wp2_with fail
  refine (same_bs _ _ Y Y true w10 (Bs.of_own hs10.own HYb.out) (Bs.of_own ho10 HYb.out) (decide_eq_true rfl)).mono ?_
  rintro e wx ⟨rfl, rfl⟩
  go_wp2_with fail
  refine (lg_len hq110).mono ?_
  rintro e wx ⟨rfl, rfl⟩
  go_wp2_with fail
  refine (lg_bytes hq110).mono ?_
  rintro e wx ⟨rfl, rfl⟩
  go_wp2_with fail
  refine (lg_len hq610).mono ?_
  rintro e wx ⟨rfl, rfl⟩
  go_wp2_with fail
  have hv11 := (Bs.made' w10 #[.int .u8 97] 5 [97] 1 w10.heap.size rfl rfl rfl (by simp) (1, 2))
  have hal11 := (Below.refl w10.heap.size w10).alloc (Nat.le_refl _) (.cells #[.int .u8 97] 5 (1, 2))
  have hL := BlkS.one (l := [97]) hv11 22 (w10.heap.size + 1) (by simp)
  have hal12 := nxt hal11 ((Below.refl (w10.alloc (.cells #[.int .u8 97] 5 (1, 2))).heap.size (w10.alloc (.cells #[.int .u8 97] 5 (1, 2)))).alloc (Nat.le_refl _) (.cells #[.slice (some ⟨w10.heap.size, 0, none⟩) 1 1] 22))
  have hs12 := hs10.below hal12
  have hb12 := nxt hb10 hal12
  have hB12 := hB10.low hal12 hm10
  have hm12 := hal12.size
  have HSM := Lib.hid (samel_any A6 (some ⟨w10.heap.size + 1, 0, none⟩) c6 1 [[97]] [[97]] _ _ _ true hB12 hL (fun b hb => by omega) (fun _ h => h) (by simp) (decide_eq_true rfl))
  clear hL hal11 hv11 hal12 hB12 hB10 hs10 hb10
  refine HSM.out.mono ?_
  rintro e w13 ⟨rfl, hb13'⟩
  have hs13 := hs12.below hb13'
  have hb13 := nxt hb12 hb13'
  clear hs12 hb12 hb13' HSM
  have HSZ : Hid (((Y.length : Nat) : Int) = 9) := by rw [HY.out]; rfl
  go_wp2_with fail
  refine (size_any hs13.dk).mono ?_
  rintro e wx ⟨rfl, rfl⟩
  rw [HSZ.out]
  go_wp2_with fail
  go_ret
  exact ⟨rfl, hb13⟩
end Go.Proofs.Ytcmopnkldplngaa
