/- droverlaw10.CheckArity returns true whatever its arguments: a function is called, and an actor spawned, or become, with as many values as it has parameters, and no others. For every input, without conditions. -/
import Derived.Test.YtpakjjefbholdaaGreatDoorRow
import Derived.Test.YtpakjjefbholdaaGreatDoorKgm
import Derived.Test.YtpakjjefbholdaaGreatDoorDoor08
import Derived.Test.YtpakjjefbholdaaGreatDoorCards
import Derived.SevenTiedAt
import Derived.Test.YtpakjjefbholdaaGreatDoorPz
import Derived.Deep.DeepCutAuto
import Derived.Deep.LoopGhost
import Derived.BigQuiet
import Derived.Lib.SmallJoins
namespace Go.Proofs.YtpakjjefbholdaaGreatDoor.checkArity
open Go.ChangeShapes Go.WideShapes Go.ChangeAt Go.RowKit
set_option linter.unusedVariables false

set_option maxRecDepth 100000 in
theorem arr2_open {H : Type} {enc : TypeId × Value → H} {W : World} {base : Nat} {v : Value} {d : DataW H} {p : List MemPlace} (hv : Value.okWide Tryz.prog W .any base 65 v)
    (h : DataW.Trod enc Tryz.prog W 0 (fun _ => true) true 65 v d p) :
    ∃ x y : Int, v = .agg #[.int .u8 x, .int .u8 y] ∧ (Lit.int .u8 x).wf = true ∧ (Lit.int .u8 y).wf = true := by
  have hC : Tryz.prog.cellsOf 65 = 2 := by kernel_rfl
  have hE : Tryz.prog.cellsOf 5 = 1 := by kernel_rfl
  simp only [Value.okWide, Tryz.underlying65] at hv
  obtain ⟨cs, rfl, hs, _⟩ := hv
  obtain ⟨c0, c1, rfl⟩ := Joins.array2 (hs.trans hC)
  obtain ⟨fuel, hf⟩ := h
  obtain ⟨xs, m, _, _, _, hx, hi⟩ := DataW.trod_array Tryz.underlying65 hf
  have hcs : (Value.agg #[c0, c1]).cells.toList = [c0, c1] := rfl
  rw [hcs] at hi
  have h0 := hi 0 (by omega)
  have h1 := hi 1 (by omega)
  rw [hE] at h0 h1
  rw [List.getElem?_eq_getElem (by omega)] at h0 h1
  obtain ⟨x, e0, _, k0⟩ := DataW.trod_int Tryz.underlying5 h0
  obtain ⟨y, e1, _, k1⟩ := DataW.trod_int Tryz.underlying5 h1
  simp at e0 e1
  subst e0
  subst e1
  exact ⟨x, y, rfl, k0, k1⟩
def repA : Nat → List Nat
  | 0 => []
  | n + 1 => [49, 44, 32] ++ repA n
theorem repA_data : ∀ c, Lib.repeatL (([49, 44, 32] : List Nat).map UInt8.ofNat) c = (repA c).map UInt8.ofNat
  | 0 => rfl
  | c + 1 => by
    rw [Lib.repeatL, repA, List.map_append, repA_data c]
theorem repA_len : ∀ c, (repA c).length = 3 * c
  | 0 => rfl
  | c + 1 => by rw [repA, List.length_append, repA_len c]; simp; omega
theorem trimA : ((List.range 13).all fun k => decide (Lib.trimSuffix ((repA k).map UInt8.ofNat) [44, 32] = (onesB k).map UInt8.ofNat)) = true := by as_aux_lemma => kernel_rfl
theorem ones_len : ((List.range 13).all fun k => decide ((onesB k).length ≤ 40)) = true := by as_aux_lemma => kernel_rfl
theorem jna_len : ((List.range 13).all fun k => decide ((jnB (namesA k)).length ≤ 60)) = true := by as_aux_lemma => kernel_rfl
theorem useA_8 : ((List.range 3).all fun w => [true, false].all fun t => (List.range 13).all fun n => (List.range 13).all fun k => (headA w n ++ useB w t k ++ endA).all fun x => decide (x < 256)) = true := by as_aux_lemma => kernel_rfl
theorem namesA_len (n : Nat) : (namesA n).length = n := by simp [namesA]
theorem namesA_succ (n : Nat) : namesA (n + 1) = namesA n ++ [nma n] := by simp [namesA, List.range_succ]
set_option maxRecDepth 100000 in
set_option maxHeartbeats 2000000 in
theorem some_any (k : Nat) (hk : k < 13) (w : World) : Calls Tryz.prog 36 #[.string ⟨#[49]⟩, .int .i64 (k : Int)] w fun e w' => e = .returned (.string (strOf (onesB k))) ∧ Below w.heap.size w w' := by
  have ad : ∀ w, (Op.stringOp .add ⟨#[49]⟩ ⟨#[44, 32]⟩).run Tryz.prog w = .ok (.string (strOf [49, 44, 32])) w := add_strs2 [49] [44, 32] (by decide)
  have HR : Hid (Calls Tryz.prog 26 #[.string (strOf [49, 44, 32]), .int .i64 (k : Int)] w fun e w' => e = .returned (.string (strOf (repA k))) ∧ Below w.heap.size w w') := Lib.hid (by
    refine (Tryz.strings_Repeat (strOf [49, 44, 32]) k w (by omega) (by rw [strOf_size]; simp; omega)).mono ?_
    rintro e w' ⟨rfl, hb⟩
    refine ⟨?_, hb⟩
    show Ending.returned (Value.string ⟨(Lib.repeatL (([49, 44, 32] : List Nat).map UInt8.ofNat).toArray.toList k).toArray⟩) = _
    rw [List.toList_toArray, repA_data]
    rfl)
  have HT : Hid (∀ w, Calls Tryz.prog 82 #[.string (strOf (repA k)), .string ⟨#[44, 32]⟩] w fun e w' => e = .returned (.string (strOf (onesB k))) ∧ w' = w) := Lib.hid (fun w => by
    refine (Tryz.strings_TrimSuffix (strOf (repA k)) ⟨#[44, 32]⟩ w (by rw [strOf_size, repA_len]; omega)).mono ?_
    rintro e w' ⟨rfl, rfl⟩
    refine ⟨?_, rfl⟩
    have h1 := of_decide_eq_true (all_at trimA hk)
    show Ending.returned (Value.string ⟨(Lib.trimSuffix ((repA k).map UInt8.ofNat).toArray.toList [44, 32]).toArray⟩) = _
    rw [List.toList_toArray, h1]
    rfl)
  obtain ⟨S0, h0⟩ : ∃ S, Hid (strOf [49, 44, 32] = S) := ⟨_, Lib.hid rfl⟩
  obtain ⟨S1, h1⟩ : ∃ S, Hid (strOf (repA k) = S) := ⟨_, Lib.hid rfl⟩
  obtain ⟨S2, h2⟩ : ∃ S, Hid (strOf (onesB k) = S) := ⟨_, Lib.hid rfl⟩
  rw [h0.out] at ad HR
  rw [h1.out] at HR HT
  rw [h2.out] at HT ⊢
  clear h0 h1 h2
  go_enter Tryz.func36, Tryz.ntmps36
  go_wp2_with fail
  refine HR.out.mono ?_
  rintro e w1 ⟨rfl, hb1⟩
  go_wp2_with fail
  refine (HT.out _).mono ?_
  rintro e w2 ⟨rfl, rfl⟩
  go_wp2_with fail
  go_ret
  exact ⟨rfl, hb1⟩

set_option maxRecDepth 100000 in
set_option maxHeartbeats 8000000 in
theorem walk (w : World) (htab : Wt w) (a0 : Int) (a1 : Int) (x2 y2 : Int) (w0 : (Lit.int .u8 a0).wf = true) (w1 : (Lit.int .u8 a1).wf = true) (w2 : (Lit.int .u8 x2).wf = true ∧ (Lit.int .u8 y2).wf = true) :
    Calls Tryz.prog 10 #[.int .u8 a0, .int .u8 a1, .agg #[.int .u8 x2, .int .u8 y2]] w fun e w' => e = .returned (.bool true) ∧ Below w.heap.size w w' := by
  obtain ⟨n0, rfl, hn0⟩ := wf_u8 w0
  obtain ⟨n1, rfl, hn1⟩ := wf_u8 w1
  obtain ⟨x, rfl, hx⟩ := wf_u8 w2.1
  obtain ⟨y, rfl, hy⟩ := wf_u8 w2.2
  obtain ⟨n, hn, hn13⟩ : ∃ a : Nat, (n0 : Int) % 13 = (a : Int) ∧ a < 13 := ⟨n0 % 13, by omega, by omega⟩
  obtain ⟨k, hk, hk13⟩ : ∃ a : Nat, (n1 : Int) % 13 = (a : Int) ∧ a < 13 := ⟨n1 % 13, by omega, by omega⟩
  obtain ⟨v, hv, hv3⟩ : ∃ a : Nat, (x : Int) % 3 = (a : Int) ∧ a < 3 := ⟨x % 3, by omega, by omega⟩
  clear w0 w1 w2
  have HW0 := Lib.hid htab
  have HAW := Lib.hid (fun w hw => awake10_any w hw)
  have HSO := Lib.hid (fun w => some_any k hk13 w)
  obtain ⟨i0, hi0, hz0, hz1, hz2⟩ := info_parts str_info2
  have HI := Lib.hid (And.intro hi0 (And.intro hz0 (And.intro hz1 hz2)))
  have HBX : Hid (Below w.heap.size w (w.alloc (.cells #[.int .u8 (x : Int), .int .u8 (y : Int)] 65))) := Lib.hid ((Below.refl _ _).alloc (Nat.le_refl _) _)
  have HHX := Lib.hid (heap_new w (.cells #[.int .u8 (x : Int), .int .u8 (y : Int)] 65))
  clear htab hi0 hz0 hz1 hz2
  obtain ⟨tb, htb⟩ : ∃ b : Bool, Hid (((y : Int) % 4 != 0) = b) := ⟨_, Lib.hid rfl⟩
  go_enter Tryz.func10, Tryz.ntmps10
  go_wp2_with fail
  have hc0 : (w.alloc (.cells #[.int .u8 (x : Int), .int .u8 (y : Int)] 65)).cell? ⟨w.heap.size, 0, none⟩ = some (.int .u8 (x : Int)) := cell_block HHX.out 0
  have hc1 : (w.alloc (.cells #[.int .u8 (x : Int), .int .u8 (y : Int)] 65)).cell? ⟨w.heap.size, 1, none⟩ = some (.int .u8 (y : Int)) := cell_block HHX.out 1
  go_quiet (fail)
  go_wp2_with fail
  rw [hn, hk, htb.out]
  clear hn hk hc0 hc1 HHX
  obtain ⟨W1, hW1⟩ : ∃ W, Hid (w.alloc (.cells #[.int .u8 (x : Int), .int .u8 (y : Int)] 65) = W) := ⟨_, Lib.hid rfl⟩
  rw [hW1.out] at HBX ⊢
  clear hW1
  go_loopg [11, 30] n (fun g v i wr => ∃ j : Nat, j + g = n ∧ i = .int .i64 (j : Int) ∧ Hid (OwnS wr w.heap.size v (namesA j)) ∧ Hid (Below w.heap.size w wr))
  case atStart => exact ⟨0, by omega, rfl, Lib.hid (OwnS.nil _ _), Lib.hid ⟨HBX.out.os, HBX.out.tape, HBX.out.output, HBX.out.size, HBX.out.block⟩⟩
  case round =>
    clear HBX
    obtain ⟨j, hj, rfl, HO, HK⟩ := hrel
    have hszr : w.heap.size ≤ wr.heap.size := HK.out.size
    cases gk with
    | zero =>
      have h1 : ¬ (j : Int) < (n : Int) := by omega
      obtain rfl : n = j := by omega
      obtain ⟨Aw, cw, rfl, -⟩ := HO.out.form
      have hnk : (∀ w ∈ headA 0 n, True) := fun _ _ => trivial
      clear hnk
      have lj : (jnB (namesA n)).length ≤ 60 := of_decide_eq_true (all_at jna_len hn13)
      have lo : (onesB k).length ≤ 40 := of_decide_eq_true (all_at ones_len hk13)
      have lt : tailA.length = 31 := rfl
      have le : endA.length = 4 := rfl
      have l40 : ([40] : List Nat).length = 1 ∧ ([41, 59] : List Nat).length = 2 := ⟨rfl, rfl⟩
      have lk0 : funcIt.length = 8 := rfl
      have lk1 : actIt.length = 9 := rfl
      have lv0 : callB.length = 5 := rfl
      have lv1 : spawnB.length = 6 := rfl
      have lv2 : becomeB.length = 7 := rfl
      have lw : (whoN true).length = 2 ∧ (whoN false).length = 6 := ⟨rfl, rfl⟩
      have t8 : ∀ x ∈ headA v n ++ useB v tb k ++ endA, x < 256 := fun x hx => of_decide_eq_true (List.all_eq_true.1 (all_at (all_at (List.all_eq_true.1 (all_at useA_8 hv3) tb (by cases tb <;> simp)) hn13) hk13) x hx)
      have tl : (headA v n ++ useB v tb k ++ endA).length ≤ 90000 := by have h1 := of_decide_eq_true (all_at (List.all_eq_true.1 (all_at lna_f hv3) tb (by cases tb <;> simp)) hk13); have h2 := of_decide_eq_true (all_at (all_at lnb_f hv3) hn13); simp only [List.length_append]; omega
      have hfa := fault_A (w := v) tb hv3 hn13 hk13
      unfold wantA at hfa
      have hv2 : v = 0 ∨ v = 1 ∨ v = 2 := by omega
      clear htb HI hn0 hn1 hx hy h1 hszr
      cases tb
      · rw [if_pos rfl] at hfa
        rcases hv2 with rfl | rfl | rfl
        · obtain ⟨SJ, hSJ⟩ : ∃ S, Hid (strOf (jnB (namesA n)) = S) := ⟨_, Lib.hid rfl⟩
          obtain ⟨SO, hSO⟩ : ∃ S, Hid (strOf (onesB k) = S) := ⟨_, Lib.hid rfl⟩
          obtain ⟨K0, hK0⟩ : ∃ S, Hid (strOf (funcIt ++ jnB (namesA n)) = S) := ⟨_, Lib.hid rfl⟩
          obtain ⟨H0, hH0⟩ : ∃ S, Hid (strOf (funcIt ++ jnB (namesA n) ++ tailA) = S) := ⟨_, Lib.hid rfl⟩
          have s1 : ∀ w, (Op.stringOp .add ⟨#[102, 117, 110, 99, 32, 105, 116, 40]⟩ SJ).run Tryz.prog w = .ok (.string K0) w := fun w => by
            rw [← hSJ.out, ← hK0.out]
            exact add_strs2 (funcIt) (jnB (namesA n)) (by (try simp only [List.length_append]); omega) w
          have s2 : ∀ w, (Op.stringOp .add K0 ⟨#[41, 32, 123, 32, 125, 32, 97, 99, 116, 111, 114, 32, 114, 111, 108, 101, 40, 41, 32, 123, 32, 111, 110, 32, 103, 111, 40, 41, 32, 123, 10]⟩).run Tryz.prog w = .ok (.string H0) w := fun w => by
            rw [← hK0.out, ← hH0.out]
            exact add_strs2 (funcIt ++ jnB (namesA n)) (tailA) (by (try simp only [List.length_append]); omega) w
          obtain ⟨A0, hA0⟩ : ∃ S, Hid (strOf (callB ++ whoN false) = S) := ⟨_, Lib.hid rfl⟩
          obtain ⟨B0, hB0⟩ : ∃ S, Hid (strOf (callB ++ whoN false ++ [40]) = S) := ⟨_, Lib.hid rfl⟩
          obtain ⟨C0, hC0⟩ : ∃ S, Hid (strOf (callB ++ whoN false ++ [40] ++ onesB k) = S) := ⟨_, Lib.hid rfl⟩
          obtain ⟨D0, hD0⟩ : ∃ S, Hid (strOf (callB ++ whoN false ++ [40] ++ onesB k ++ [41, 59]) = S) := ⟨_, Lib.hid rfl⟩
          have s3 : ∀ w, (Op.stringOp .add ⟨#[99, 97, 108, 108, 32]⟩ ⟨#[110, 111, 98, 111, 100, 121]⟩).run Tryz.prog w = .ok (.string A0) w := fun w => by
            rw [← hA0.out]
            exact add_strs2 (callB) (whoN false) (by (try simp only [List.length_append]); omega) w
          have s4 : ∀ w, (Op.stringOp .add A0 ⟨#[40]⟩).run Tryz.prog w = .ok (.string B0) w := fun w => by
            rw [← hA0.out, ← hB0.out]
            exact add_strs2 (callB ++ whoN false) ([40]) (by (try simp only [List.length_append]); omega) w
          have s5 : ∀ w, (Op.stringOp .add B0 SO).run Tryz.prog w = .ok (.string C0) w := fun w => by
            rw [← hB0.out, ← hSO.out, ← hC0.out]
            exact add_strs2 (callB ++ whoN false ++ [40]) (onesB k) (by (try simp only [List.length_append]); omega) w
          have s6 : ∀ w, (Op.stringOp .add C0 ⟨#[41, 59]⟩).run Tryz.prog w = .ok (.string D0) w := fun w => by
            rw [← hC0.out, ← hD0.out]
            exact add_strs2 (callB ++ whoN false ++ [40] ++ onesB k) ([41, 59]) (by (try simp only [List.length_append]); omega) w
          obtain ⟨Z1, hZ1⟩ : ∃ S, Hid (strOf (funcIt ++ jnB (namesA n) ++ tailA ++ (callB ++ whoN false ++ [40] ++ onesB k ++ [41, 59])) = S) := ⟨_, Lib.hid rfl⟩
          obtain ⟨Z2, hZ2⟩ : ∃ S, Hid (strOf (funcIt ++ jnB (namesA n) ++ tailA ++ (callB ++ whoN false ++ [40] ++ onesB k ++ [41, 59]) ++ endA) = S) := ⟨_, Lib.hid rfl⟩
          have s7 : ∀ w, (Op.stringOp .add H0 D0).run Tryz.prog w = .ok (.string Z1) w := fun w => by
            rw [← hH0.out, ← hD0.out, ← hZ1.out]
            exact add_strs2 (funcIt ++ jnB (namesA n) ++ tailA) (callB ++ whoN false ++ [40] ++ onesB k ++ [41, 59]) (by (try simp only [List.length_append]); omega) w
          have s8 : ∀ w, (Op.stringOp .add Z1 ⟨#[32, 125, 32, 125]⟩).run Tryz.prog w = .ok (.string Z2) w := fun w => by
            rw [← hZ1.out, ← hZ2.out]
            exact add_strs2 (funcIt ++ jnB (namesA n) ++ tailA ++ (callB ++ whoN false ++ [40] ++ onesB k ++ [41, 59])) (endA) (by (try simp only [List.length_append]); omega) w
          have HFA := Lib.hid (fun (w' : World) (hw : Wt w') => fault_any (headA 0 n ++ useB 0 false k ++ endA) t8 tl hfa Z2 hZ2.out.symm w' hw)
          have HJ := Lib.hid (fun w' (hb : Below wr.heap.size wr w') => join_any w' w.heap.size _ _ (HO.out.below hb) (by omega) (by rw [namesA_len]; omega))
          rw [hSJ.out] at HJ
          rw [hSO.out] at HSO
          have hv' : (x : Int) % 3 = 0 := hv
          clear hv t8 tl hfa lj lo lt le l40 lk0 lk1 lv0 lv1 lv2 lw hSJ hSO hK0 hH0 hA0 hB0 hC0 hD0 hZ1 hZ2
          clear HO
          have HR : Hid (Below wr.heap.size wr wr) := Lib.hid (Below.refl _ _)
          go_wp2_with fail
          refine (HJ.out _ HR.out).mono ?_
          rintro e w1 ⟨rfl, hb1⟩
          have HK1 := Lib.hid (HK.out.trans (hb1.mono HK.out.size))
          have HR1 := Lib.hid (HR.out.trans (hb1.mono HR.out.size))
          clear hb1
          go_wp2_with fail
          refine (HSO.out _).mono ?_
          rintro e w2 ⟨rfl, hb2⟩
          have HK2 := Lib.hid (HK1.out.trans (hb2.mono HK1.out.size))
          have HR2 := Lib.hid (HR1.out.trans (hb2.mono HR1.out.size))
          clear hb2
          clear HJ HSO HR HR1 HR2
          go_wp2_with fail
          have hq := Lib.hid (heap_new w2 (.cells #[.int .i64 110, .int .i64 2] 29))
          have c0 : (w2.alloc (.cells #[.int .i64 110, .int .i64 2] 29)).cell? ⟨w2.heap.size, 0, none⟩ = some (.int .i64 110) := cell_block hq.out 0
          have c1 : (w2.alloc (.cells #[.int .i64 110, .int .i64 2] 29)).cell? ⟨w2.heap.size, 1, none⟩ = some (.int .i64 2) := cell_block hq.out 1
          have HKA := Lib.hid (HK2.out.alloc HK2.out.size (.cells #[.int .i64 110, .int .i64 2] 29))
          have hgl : w2.heap.size < (w2.alloc (.cells #[.int .i64 110, .int .i64 2] 29)).heap.size := by simp
          obtain ⟨WX, hWX⟩ : ∃ W, Hid (w2.alloc (.cells #[.int .i64 110, .int .i64 2] 29) = W) := ⟨_, Lib.hid rfl⟩
          rw [hWX.out] at c0 c1 HKA hgl ⊢
          clear hq hWX
          go_region_held3 (fun w' => w'.cell? ⟨w2.heap.size, 0, none⟩ = some (.int .i64 110) ∧ w'.cell? ⟨w2.heap.size, 1, none⟩ = some (.int .i64 2)) (go_keep)
            (first
              | (go_at_call 37
                 refine (HFA.out _ (HW0.out.below (below_drewN HKA.out _))).mono ?_
                 rintro e wa ⟨rfl, hba⟩
                 have HKB := Lib.hid ((below_drewN HKA.out _).trans (hba.mono HKA.out.size))
                 have c2 := (hba.cell (p := ⟨w2.heap.size, 0, none⟩) hgl).trans c0
                 have c3 := (hba.cell (p := ⟨w2.heap.size, 1, none⟩) hgl).trans c1
                 have hgm : w2.heap.size < wa.heap.size := Nat.lt_of_lt_of_le hgl hba.size
                 clear hba)
              | (go_at_call 32
                 refine (HAW.out _ (HW0.out.below HKB.out)).mono ?_
                 rintro e wb ⟨rfl, hbb⟩
                 have HKC := Lib.hid (HKB.out.trans (hbb.mono HKB.out.size))
                 have c4 := (hbb.cell (p := ⟨w2.heap.size, 0, none⟩) hgm).trans c2
                 have c5 := (hbb.cell (p := ⟨w2.heap.size, 1, none⟩) hgm).trans c3
                 clear hbb)
              | (fail))
          all_goals (go_wp2_with fail; go_ret; exact ⟨rfl, HKC.out⟩)
        · obtain ⟨SJ, hSJ⟩ : ∃ S, Hid (strOf (jnB (namesA n)) = S) := ⟨_, Lib.hid rfl⟩
          obtain ⟨SO, hSO⟩ : ∃ S, Hid (strOf (onesB k) = S) := ⟨_, Lib.hid rfl⟩
          obtain ⟨K0, hK0⟩ : ∃ S, Hid (strOf (funcIt ++ jnB (namesA n)) = S) := ⟨_, Lib.hid rfl⟩
          obtain ⟨H0, hH0⟩ : ∃ S, Hid (strOf (funcIt ++ jnB (namesA n) ++ tailA) = S) := ⟨_, Lib.hid rfl⟩
          have s1 : ∀ w, (Op.stringOp .add ⟨#[102, 117, 110, 99, 32, 105, 116, 40]⟩ SJ).run Tryz.prog w = .ok (.string K0) w := fun w => by
            rw [← hSJ.out, ← hK0.out]
            exact add_strs2 (funcIt) (jnB (namesA n)) (by (try simp only [List.length_append]); omega) w
          have s2 : ∀ w, (Op.stringOp .add K0 ⟨#[41, 32, 123, 32, 125, 32, 97, 99, 116, 111, 114, 32, 114, 111, 108, 101, 40, 41, 32, 123, 32, 111, 110, 32, 103, 111, 40, 41, 32, 123, 10]⟩).run Tryz.prog w = .ok (.string H0) w := fun w => by
            rw [← hK0.out, ← hH0.out]
            exact add_strs2 (funcIt ++ jnB (namesA n)) (tailA) (by (try simp only [List.length_append]); omega) w
          obtain ⟨K1, hK1⟩ : ∃ S, Hid (strOf (actIt ++ jnB (namesA n)) = S) := ⟨_, Lib.hid rfl⟩
          obtain ⟨H1, hH1⟩ : ∃ S, Hid (strOf (actIt ++ jnB (namesA n) ++ tailA) = S) := ⟨_, Lib.hid rfl⟩
          have s3 : ∀ w, (Op.stringOp .add ⟨#[97, 99, 116, 111, 114, 32, 105, 116, 40]⟩ SJ).run Tryz.prog w = .ok (.string K1) w := fun w => by
            rw [← hSJ.out, ← hK1.out]
            exact add_strs2 (actIt) (jnB (namesA n)) (by (try simp only [List.length_append]); omega) w
          have s4 : ∀ w, (Op.stringOp .add K1 ⟨#[41, 32, 123, 32, 125, 32, 97, 99, 116, 111, 114, 32, 114, 111, 108, 101, 40, 41, 32, 123, 32, 111, 110, 32, 103, 111, 40, 41, 32, 123, 10]⟩).run Tryz.prog w = .ok (.string H1) w := fun w => by
            rw [← hK1.out, ← hH1.out]
            exact add_strs2 (actIt ++ jnB (namesA n)) (tailA) (by (try simp only [List.length_append]); omega) w
          obtain ⟨A0, hA0⟩ : ∃ S, Hid (strOf (callB ++ whoN false) = S) := ⟨_, Lib.hid rfl⟩
          obtain ⟨B0, hB0⟩ : ∃ S, Hid (strOf (callB ++ whoN false ++ [40]) = S) := ⟨_, Lib.hid rfl⟩
          obtain ⟨C0, hC0⟩ : ∃ S, Hid (strOf (callB ++ whoN false ++ [40] ++ onesB k) = S) := ⟨_, Lib.hid rfl⟩
          obtain ⟨D0, hD0⟩ : ∃ S, Hid (strOf (callB ++ whoN false ++ [40] ++ onesB k ++ [41, 59]) = S) := ⟨_, Lib.hid rfl⟩
          have s5 : ∀ w, (Op.stringOp .add ⟨#[99, 97, 108, 108, 32]⟩ ⟨#[110, 111, 98, 111, 100, 121]⟩).run Tryz.prog w = .ok (.string A0) w := fun w => by
            rw [← hA0.out]
            exact add_strs2 (callB) (whoN false) (by (try simp only [List.length_append]); omega) w
          have s6 : ∀ w, (Op.stringOp .add A0 ⟨#[40]⟩).run Tryz.prog w = .ok (.string B0) w := fun w => by
            rw [← hA0.out, ← hB0.out]
            exact add_strs2 (callB ++ whoN false) ([40]) (by (try simp only [List.length_append]); omega) w
          have s7 : ∀ w, (Op.stringOp .add B0 SO).run Tryz.prog w = .ok (.string C0) w := fun w => by
            rw [← hB0.out, ← hSO.out, ← hC0.out]
            exact add_strs2 (callB ++ whoN false ++ [40]) (onesB k) (by (try simp only [List.length_append]); omega) w
          have s8 : ∀ w, (Op.stringOp .add C0 ⟨#[41, 59]⟩).run Tryz.prog w = .ok (.string D0) w := fun w => by
            rw [← hC0.out, ← hD0.out]
            exact add_strs2 (callB ++ whoN false ++ [40] ++ onesB k) ([41, 59]) (by (try simp only [List.length_append]); omega) w
          obtain ⟨A1, hA1⟩ : ∃ S, Hid (strOf (spawnB ++ whoN false) = S) := ⟨_, Lib.hid rfl⟩
          obtain ⟨B1, hB1⟩ : ∃ S, Hid (strOf (spawnB ++ whoN false ++ [40]) = S) := ⟨_, Lib.hid rfl⟩
          obtain ⟨C1, hC1⟩ : ∃ S, Hid (strOf (spawnB ++ whoN false ++ [40] ++ onesB k) = S) := ⟨_, Lib.hid rfl⟩
          obtain ⟨D1, hD1⟩ : ∃ S, Hid (strOf (spawnB ++ whoN false ++ [40] ++ onesB k ++ [41, 59]) = S) := ⟨_, Lib.hid rfl⟩
          have s9 : ∀ w, (Op.stringOp .add ⟨#[115, 112, 97, 119, 110, 32]⟩ ⟨#[110, 111, 98, 111, 100, 121]⟩).run Tryz.prog w = .ok (.string A1) w := fun w => by
            rw [← hA1.out]
            exact add_strs2 (spawnB) (whoN false) (by (try simp only [List.length_append]); omega) w
          have s10 : ∀ w, (Op.stringOp .add A1 ⟨#[40]⟩).run Tryz.prog w = .ok (.string B1) w := fun w => by
            rw [← hA1.out, ← hB1.out]
            exact add_strs2 (spawnB ++ whoN false) ([40]) (by (try simp only [List.length_append]); omega) w
          have s11 : ∀ w, (Op.stringOp .add B1 SO).run Tryz.prog w = .ok (.string C1) w := fun w => by
            rw [← hB1.out, ← hSO.out, ← hC1.out]
            exact add_strs2 (spawnB ++ whoN false ++ [40]) (onesB k) (by (try simp only [List.length_append]); omega) w
          have s12 : ∀ w, (Op.stringOp .add C1 ⟨#[41, 59]⟩).run Tryz.prog w = .ok (.string D1) w := fun w => by
            rw [← hC1.out, ← hD1.out]
            exact add_strs2 (spawnB ++ whoN false ++ [40] ++ onesB k) ([41, 59]) (by (try simp only [List.length_append]); omega) w
          obtain ⟨Z1, hZ1⟩ : ∃ S, Hid (strOf (actIt ++ jnB (namesA n) ++ tailA ++ (spawnB ++ whoN false ++ [40] ++ onesB k ++ [41, 59])) = S) := ⟨_, Lib.hid rfl⟩
          obtain ⟨Z2, hZ2⟩ : ∃ S, Hid (strOf (actIt ++ jnB (namesA n) ++ tailA ++ (spawnB ++ whoN false ++ [40] ++ onesB k ++ [41, 59]) ++ endA) = S) := ⟨_, Lib.hid rfl⟩
          have s13 : ∀ w, (Op.stringOp .add H1 D1).run Tryz.prog w = .ok (.string Z1) w := fun w => by
            rw [← hH1.out, ← hD1.out, ← hZ1.out]
            exact add_strs2 (actIt ++ jnB (namesA n) ++ tailA) (spawnB ++ whoN false ++ [40] ++ onesB k ++ [41, 59]) (by (try simp only [List.length_append]); omega) w
          have s14 : ∀ w, (Op.stringOp .add Z1 ⟨#[32, 125, 32, 125]⟩).run Tryz.prog w = .ok (.string Z2) w := fun w => by
            rw [← hZ1.out, ← hZ2.out]
            exact add_strs2 (actIt ++ jnB (namesA n) ++ tailA ++ (spawnB ++ whoN false ++ [40] ++ onesB k ++ [41, 59])) (endA) (by (try simp only [List.length_append]); omega) w
          have HFA := Lib.hid (fun (w' : World) (hw : Wt w') => fault_any (headA 1 n ++ useB 1 false k ++ endA) t8 tl hfa Z2 hZ2.out.symm w' hw)
          have HJ := Lib.hid (fun w' (hb : Below wr.heap.size wr w') => join_any w' w.heap.size _ _ (HO.out.below hb) (by omega) (by rw [namesA_len]; omega))
          rw [hSJ.out] at HJ
          rw [hSO.out] at HSO
          have hv' : (x : Int) % 3 = 1 := hv
          clear hv t8 tl hfa lj lo lt le l40 lk0 lk1 lv0 lv1 lv2 lw hSJ hSO hK0 hH0 hK1 hH1 hA0 hB0 hC0 hD0 hA1 hB1 hC1 hD1 hZ1 hZ2
          clear HO
          have HR : Hid (Below wr.heap.size wr wr) := Lib.hid (Below.refl _ _)
          go_wp2_with fail
          refine (HJ.out _ HR.out).mono ?_
          rintro e w1 ⟨rfl, hb1⟩
          have HK1 := Lib.hid (HK.out.trans (hb1.mono HK.out.size))
          have HR1 := Lib.hid (HR.out.trans (hb1.mono HR.out.size))
          clear hb1
          go_wp2_with fail
          refine (HSO.out _).mono ?_
          rintro e w2 ⟨rfl, hb2⟩
          have HK2 := Lib.hid (HK1.out.trans (hb2.mono HK1.out.size))
          have HR2 := Lib.hid (HR1.out.trans (hb2.mono HR1.out.size))
          clear hb2
          go_wp2_with fail
          refine (HJ.out _ HR2.out).mono ?_
          rintro e w3 ⟨rfl, hb3⟩
          have HK3 := Lib.hid (HK2.out.trans (hb3.mono HK2.out.size))
          have HR3 := Lib.hid (HR2.out.trans (hb3.mono HR2.out.size))
          clear hb3
          go_wp2_with fail
          refine (HSO.out _).mono ?_
          rintro e w4 ⟨rfl, hb4⟩
          have HK4 := Lib.hid (HK3.out.trans (hb4.mono HK3.out.size))
          have HR4 := Lib.hid (HR3.out.trans (hb4.mono HR3.out.size))
          clear hb4
          clear HJ HSO HR HR1 HR2 HR3 HR4
          go_wp2_with fail
          have hq := Lib.hid (heap_new w4 (.cells #[.int .i64 110, .int .i64 2] 29))
          have c0 : (w4.alloc (.cells #[.int .i64 110, .int .i64 2] 29)).cell? ⟨w4.heap.size, 0, none⟩ = some (.int .i64 110) := cell_block hq.out 0
          have c1 : (w4.alloc (.cells #[.int .i64 110, .int .i64 2] 29)).cell? ⟨w4.heap.size, 1, none⟩ = some (.int .i64 2) := cell_block hq.out 1
          have HKA := Lib.hid (HK4.out.alloc HK4.out.size (.cells #[.int .i64 110, .int .i64 2] 29))
          have hgl : w4.heap.size < (w4.alloc (.cells #[.int .i64 110, .int .i64 2] 29)).heap.size := by simp
          obtain ⟨WX, hWX⟩ : ∃ W, Hid (w4.alloc (.cells #[.int .i64 110, .int .i64 2] 29) = W) := ⟨_, Lib.hid rfl⟩
          rw [hWX.out] at c0 c1 HKA hgl ⊢
          clear hq hWX
          go_region_held3 (fun w' => w'.cell? ⟨w4.heap.size, 0, none⟩ = some (.int .i64 110) ∧ w'.cell? ⟨w4.heap.size, 1, none⟩ = some (.int .i64 2)) (go_keep)
            (first
              | (go_at_call 37
                 refine (HFA.out _ (HW0.out.below (below_drewN HKA.out _))).mono ?_
                 rintro e wa ⟨rfl, hba⟩
                 have HKB := Lib.hid ((below_drewN HKA.out _).trans (hba.mono HKA.out.size))
                 have c2 := (hba.cell (p := ⟨w4.heap.size, 0, none⟩) hgl).trans c0
                 have c3 := (hba.cell (p := ⟨w4.heap.size, 1, none⟩) hgl).trans c1
                 have hgm : w4.heap.size < wa.heap.size := Nat.lt_of_lt_of_le hgl hba.size
                 clear hba)
              | (go_at_call 32
                 refine (HAW.out _ (HW0.out.below HKB.out)).mono ?_
                 rintro e wb ⟨rfl, hbb⟩
                 have HKC := Lib.hid (HKB.out.trans (hbb.mono HKB.out.size))
                 have c4 := (hbb.cell (p := ⟨w4.heap.size, 0, none⟩) hgm).trans c2
                 have c5 := (hbb.cell (p := ⟨w4.heap.size, 1, none⟩) hgm).trans c3
                 clear hbb)
              | (fail))
          all_goals (go_wp2_with fail; go_ret; exact ⟨rfl, HKC.out⟩)
        · obtain ⟨SJ, hSJ⟩ : ∃ S, Hid (strOf (jnB (namesA n)) = S) := ⟨_, Lib.hid rfl⟩
          obtain ⟨SO, hSO⟩ : ∃ S, Hid (strOf (onesB k) = S) := ⟨_, Lib.hid rfl⟩
          obtain ⟨K0, hK0⟩ : ∃ S, Hid (strOf (funcIt ++ jnB (namesA n)) = S) := ⟨_, Lib.hid rfl⟩
          obtain ⟨H0, hH0⟩ : ∃ S, Hid (strOf (funcIt ++ jnB (namesA n) ++ tailA) = S) := ⟨_, Lib.hid rfl⟩
          have s1 : ∀ w, (Op.stringOp .add ⟨#[102, 117, 110, 99, 32, 105, 116, 40]⟩ SJ).run Tryz.prog w = .ok (.string K0) w := fun w => by
            rw [← hSJ.out, ← hK0.out]
            exact add_strs2 (funcIt) (jnB (namesA n)) (by (try simp only [List.length_append]); omega) w
          have s2 : ∀ w, (Op.stringOp .add K0 ⟨#[41, 32, 123, 32, 125, 32, 97, 99, 116, 111, 114, 32, 114, 111, 108, 101, 40, 41, 32, 123, 32, 111, 110, 32, 103, 111, 40, 41, 32, 123, 10]⟩).run Tryz.prog w = .ok (.string H0) w := fun w => by
            rw [← hK0.out, ← hH0.out]
            exact add_strs2 (funcIt ++ jnB (namesA n)) (tailA) (by (try simp only [List.length_append]); omega) w
          obtain ⟨K1, hK1⟩ : ∃ S, Hid (strOf (actIt ++ jnB (namesA n)) = S) := ⟨_, Lib.hid rfl⟩
          obtain ⟨H1, hH1⟩ : ∃ S, Hid (strOf (actIt ++ jnB (namesA n) ++ tailA) = S) := ⟨_, Lib.hid rfl⟩
          have s3 : ∀ w, (Op.stringOp .add ⟨#[97, 99, 116, 111, 114, 32, 105, 116, 40]⟩ SJ).run Tryz.prog w = .ok (.string K1) w := fun w => by
            rw [← hSJ.out, ← hK1.out]
            exact add_strs2 (actIt) (jnB (namesA n)) (by (try simp only [List.length_append]); omega) w
          have s4 : ∀ w, (Op.stringOp .add K1 ⟨#[41, 32, 123, 32, 125, 32, 97, 99, 116, 111, 114, 32, 114, 111, 108, 101, 40, 41, 32, 123, 32, 111, 110, 32, 103, 111, 40, 41, 32, 123, 10]⟩).run Tryz.prog w = .ok (.string H1) w := fun w => by
            rw [← hK1.out, ← hH1.out]
            exact add_strs2 (actIt ++ jnB (namesA n)) (tailA) (by (try simp only [List.length_append]); omega) w
          obtain ⟨A0, hA0⟩ : ∃ S, Hid (strOf (callB ++ whoN false) = S) := ⟨_, Lib.hid rfl⟩
          obtain ⟨B0, hB0⟩ : ∃ S, Hid (strOf (callB ++ whoN false ++ [40]) = S) := ⟨_, Lib.hid rfl⟩
          obtain ⟨C0, hC0⟩ : ∃ S, Hid (strOf (callB ++ whoN false ++ [40] ++ onesB k) = S) := ⟨_, Lib.hid rfl⟩
          obtain ⟨D0, hD0⟩ : ∃ S, Hid (strOf (callB ++ whoN false ++ [40] ++ onesB k ++ [41, 59]) = S) := ⟨_, Lib.hid rfl⟩
          have s5 : ∀ w, (Op.stringOp .add ⟨#[99, 97, 108, 108, 32]⟩ ⟨#[110, 111, 98, 111, 100, 121]⟩).run Tryz.prog w = .ok (.string A0) w := fun w => by
            rw [← hA0.out]
            exact add_strs2 (callB) (whoN false) (by (try simp only [List.length_append]); omega) w
          have s6 : ∀ w, (Op.stringOp .add A0 ⟨#[40]⟩).run Tryz.prog w = .ok (.string B0) w := fun w => by
            rw [← hA0.out, ← hB0.out]
            exact add_strs2 (callB ++ whoN false) ([40]) (by (try simp only [List.length_append]); omega) w
          have s7 : ∀ w, (Op.stringOp .add B0 SO).run Tryz.prog w = .ok (.string C0) w := fun w => by
            rw [← hB0.out, ← hSO.out, ← hC0.out]
            exact add_strs2 (callB ++ whoN false ++ [40]) (onesB k) (by (try simp only [List.length_append]); omega) w
          have s8 : ∀ w, (Op.stringOp .add C0 ⟨#[41, 59]⟩).run Tryz.prog w = .ok (.string D0) w := fun w => by
            rw [← hC0.out, ← hD0.out]
            exact add_strs2 (callB ++ whoN false ++ [40] ++ onesB k) ([41, 59]) (by (try simp only [List.length_append]); omega) w
          obtain ⟨A1, hA1⟩ : ∃ S, Hid (strOf (spawnB ++ whoN false) = S) := ⟨_, Lib.hid rfl⟩
          obtain ⟨B1, hB1⟩ : ∃ S, Hid (strOf (spawnB ++ whoN false ++ [40]) = S) := ⟨_, Lib.hid rfl⟩
          obtain ⟨C1, hC1⟩ : ∃ S, Hid (strOf (spawnB ++ whoN false ++ [40] ++ onesB k) = S) := ⟨_, Lib.hid rfl⟩
          obtain ⟨D1, hD1⟩ : ∃ S, Hid (strOf (spawnB ++ whoN false ++ [40] ++ onesB k ++ [41, 59]) = S) := ⟨_, Lib.hid rfl⟩
          have s9 : ∀ w, (Op.stringOp .add ⟨#[115, 112, 97, 119, 110, 32]⟩ ⟨#[110, 111, 98, 111, 100, 121]⟩).run Tryz.prog w = .ok (.string A1) w := fun w => by
            rw [← hA1.out]
            exact add_strs2 (spawnB) (whoN false) (by (try simp only [List.length_append]); omega) w
          have s10 : ∀ w, (Op.stringOp .add A1 ⟨#[40]⟩).run Tryz.prog w = .ok (.string B1) w := fun w => by
            rw [← hA1.out, ← hB1.out]
            exact add_strs2 (spawnB ++ whoN false) ([40]) (by (try simp only [List.length_append]); omega) w
          have s11 : ∀ w, (Op.stringOp .add B1 SO).run Tryz.prog w = .ok (.string C1) w := fun w => by
            rw [← hB1.out, ← hSO.out, ← hC1.out]
            exact add_strs2 (spawnB ++ whoN false ++ [40]) (onesB k) (by (try simp only [List.length_append]); omega) w
          have s12 : ∀ w, (Op.stringOp .add C1 ⟨#[41, 59]⟩).run Tryz.prog w = .ok (.string D1) w := fun w => by
            rw [← hC1.out, ← hD1.out]
            exact add_strs2 (spawnB ++ whoN false ++ [40] ++ onesB k) ([41, 59]) (by (try simp only [List.length_append]); omega) w
          obtain ⟨A2, hA2⟩ : ∃ S, Hid (strOf (becomeB ++ whoN false) = S) := ⟨_, Lib.hid rfl⟩
          obtain ⟨B2, hB2⟩ : ∃ S, Hid (strOf (becomeB ++ whoN false ++ [40]) = S) := ⟨_, Lib.hid rfl⟩
          obtain ⟨C2, hC2⟩ : ∃ S, Hid (strOf (becomeB ++ whoN false ++ [40] ++ onesB k) = S) := ⟨_, Lib.hid rfl⟩
          obtain ⟨D2, hD2⟩ : ∃ S, Hid (strOf (becomeB ++ whoN false ++ [40] ++ onesB k ++ [41, 59]) = S) := ⟨_, Lib.hid rfl⟩
          have s13 : ∀ w, (Op.stringOp .add ⟨#[98, 101, 99, 111, 109, 101, 32]⟩ ⟨#[110, 111, 98, 111, 100, 121]⟩).run Tryz.prog w = .ok (.string A2) w := fun w => by
            rw [← hA2.out]
            exact add_strs2 (becomeB) (whoN false) (by (try simp only [List.length_append]); omega) w
          have s14 : ∀ w, (Op.stringOp .add A2 ⟨#[40]⟩).run Tryz.prog w = .ok (.string B2) w := fun w => by
            rw [← hA2.out, ← hB2.out]
            exact add_strs2 (becomeB ++ whoN false) ([40]) (by (try simp only [List.length_append]); omega) w
          have s15 : ∀ w, (Op.stringOp .add B2 SO).run Tryz.prog w = .ok (.string C2) w := fun w => by
            rw [← hB2.out, ← hSO.out, ← hC2.out]
            exact add_strs2 (becomeB ++ whoN false ++ [40]) (onesB k) (by (try simp only [List.length_append]); omega) w
          have s16 : ∀ w, (Op.stringOp .add C2 ⟨#[41, 59]⟩).run Tryz.prog w = .ok (.string D2) w := fun w => by
            rw [← hC2.out, ← hD2.out]
            exact add_strs2 (becomeB ++ whoN false ++ [40] ++ onesB k) ([41, 59]) (by (try simp only [List.length_append]); omega) w
          obtain ⟨Z1, hZ1⟩ : ∃ S, Hid (strOf (actIt ++ jnB (namesA n) ++ tailA ++ (becomeB ++ whoN false ++ [40] ++ onesB k ++ [41, 59])) = S) := ⟨_, Lib.hid rfl⟩
          obtain ⟨Z2, hZ2⟩ : ∃ S, Hid (strOf (actIt ++ jnB (namesA n) ++ tailA ++ (becomeB ++ whoN false ++ [40] ++ onesB k ++ [41, 59]) ++ endA) = S) := ⟨_, Lib.hid rfl⟩
          have s17 : ∀ w, (Op.stringOp .add H1 D2).run Tryz.prog w = .ok (.string Z1) w := fun w => by
            rw [← hH1.out, ← hD2.out, ← hZ1.out]
            exact add_strs2 (actIt ++ jnB (namesA n) ++ tailA) (becomeB ++ whoN false ++ [40] ++ onesB k ++ [41, 59]) (by (try simp only [List.length_append]); omega) w
          have s18 : ∀ w, (Op.stringOp .add Z1 ⟨#[32, 125, 32, 125]⟩).run Tryz.prog w = .ok (.string Z2) w := fun w => by
            rw [← hZ1.out, ← hZ2.out]
            exact add_strs2 (actIt ++ jnB (namesA n) ++ tailA ++ (becomeB ++ whoN false ++ [40] ++ onesB k ++ [41, 59])) (endA) (by (try simp only [List.length_append]); omega) w
          have HFA := Lib.hid (fun (w' : World) (hw : Wt w') => fault_any (headA 2 n ++ useB 2 false k ++ endA) t8 tl hfa Z2 hZ2.out.symm w' hw)
          have HJ := Lib.hid (fun w' (hb : Below wr.heap.size wr w') => join_any w' w.heap.size _ _ (HO.out.below hb) (by omega) (by rw [namesA_len]; omega))
          rw [hSJ.out] at HJ
          rw [hSO.out] at HSO
          have hv' : (x : Int) % 3 = 2 := hv
          clear hv t8 tl hfa lj lo lt le l40 lk0 lk1 lv0 lv1 lv2 lw hSJ hSO hK0 hH0 hK1 hH1 hA0 hB0 hC0 hD0 hA1 hB1 hC1 hD1 hA2 hB2 hC2 hD2 hZ1 hZ2
          clear HO
          have HR : Hid (Below wr.heap.size wr wr) := Lib.hid (Below.refl _ _)
          go_wp2_with fail
          refine (HJ.out _ HR.out).mono ?_
          rintro e w1 ⟨rfl, hb1⟩
          have HK1 := Lib.hid (HK.out.trans (hb1.mono HK.out.size))
          have HR1 := Lib.hid (HR.out.trans (hb1.mono HR.out.size))
          clear hb1
          go_wp2_with fail
          refine (HSO.out _).mono ?_
          rintro e w2 ⟨rfl, hb2⟩
          have HK2 := Lib.hid (HK1.out.trans (hb2.mono HK1.out.size))
          have HR2 := Lib.hid (HR1.out.trans (hb2.mono HR1.out.size))
          clear hb2
          go_wp2_with fail
          refine (HJ.out _ HR2.out).mono ?_
          rintro e w3 ⟨rfl, hb3⟩
          have HK3 := Lib.hid (HK2.out.trans (hb3.mono HK2.out.size))
          have HR3 := Lib.hid (HR2.out.trans (hb3.mono HR2.out.size))
          clear hb3
          go_wp2_with fail
          refine (HSO.out _).mono ?_
          rintro e w4 ⟨rfl, hb4⟩
          have HK4 := Lib.hid (HK3.out.trans (hb4.mono HK3.out.size))
          have HR4 := Lib.hid (HR3.out.trans (hb4.mono HR3.out.size))
          clear hb4
          go_wp2_with fail
          refine (HSO.out _).mono ?_
          rintro e w5 ⟨rfl, hb5⟩
          have HK5 := Lib.hid (HK4.out.trans (hb5.mono HK4.out.size))
          have HR5 := Lib.hid (HR4.out.trans (hb5.mono HR4.out.size))
          clear hb5
          clear HJ HSO HR HR1 HR2 HR3 HR4 HR5
          go_wp2_with fail
          have hq := Lib.hid (heap_new w5 (.cells #[.int .i64 110, .int .i64 2] 29))
          have c0 : (w5.alloc (.cells #[.int .i64 110, .int .i64 2] 29)).cell? ⟨w5.heap.size, 0, none⟩ = some (.int .i64 110) := cell_block hq.out 0
          have c1 : (w5.alloc (.cells #[.int .i64 110, .int .i64 2] 29)).cell? ⟨w5.heap.size, 1, none⟩ = some (.int .i64 2) := cell_block hq.out 1
          have HKA := Lib.hid (HK5.out.alloc HK5.out.size (.cells #[.int .i64 110, .int .i64 2] 29))
          have hgl : w5.heap.size < (w5.alloc (.cells #[.int .i64 110, .int .i64 2] 29)).heap.size := by simp
          obtain ⟨WX, hWX⟩ : ∃ W, Hid (w5.alloc (.cells #[.int .i64 110, .int .i64 2] 29) = W) := ⟨_, Lib.hid rfl⟩
          rw [hWX.out] at c0 c1 HKA hgl ⊢
          clear hq hWX
          go_region_held3 (fun w' => w'.cell? ⟨w5.heap.size, 0, none⟩ = some (.int .i64 110) ∧ w'.cell? ⟨w5.heap.size, 1, none⟩ = some (.int .i64 2)) (go_keep)
            (first
              | (go_at_call 37
                 refine (HFA.out _ (HW0.out.below (below_drewN HKA.out _))).mono ?_
                 rintro e wa ⟨rfl, hba⟩
                 have HKB := Lib.hid ((below_drewN HKA.out _).trans (hba.mono HKA.out.size))
                 have c2 := (hba.cell (p := ⟨w5.heap.size, 0, none⟩) hgl).trans c0
                 have c3 := (hba.cell (p := ⟨w5.heap.size, 1, none⟩) hgl).trans c1
                 have hgm : w5.heap.size < wa.heap.size := Nat.lt_of_lt_of_le hgl hba.size
                 clear hba)
              | (go_at_call 32
                 refine (HAW.out _ (HW0.out.below HKB.out)).mono ?_
                 rintro e wb ⟨rfl, hbb⟩
                 have HKC := Lib.hid (HKB.out.trans (hbb.mono HKB.out.size))
                 have c4 := (hbb.cell (p := ⟨w5.heap.size, 0, none⟩) hgm).trans c2
                 have c5 := (hbb.cell (p := ⟨w5.heap.size, 1, none⟩) hgm).trans c3
                 clear hbb)
              | (fail))
          all_goals (go_wp2_with fail; go_ret; exact ⟨rfl, HKC.out⟩)
      · rw [if_neg (by decide)] at hfa
        by_cases q : n = k
        · rw [if_pos q] at hfa
          have q1 : ((n : Int) != (k : Int)) = false := by rw [q]; simp
          clear q
          rcases hv2 with rfl | rfl | rfl
          · obtain ⟨SJ, hSJ⟩ : ∃ S, Hid (strOf (jnB (namesA n)) = S) := ⟨_, Lib.hid rfl⟩
            obtain ⟨SO, hSO⟩ : ∃ S, Hid (strOf (onesB k) = S) := ⟨_, Lib.hid rfl⟩
            obtain ⟨K0, hK0⟩ : ∃ S, Hid (strOf (funcIt ++ jnB (namesA n)) = S) := ⟨_, Lib.hid rfl⟩
            obtain ⟨H0, hH0⟩ : ∃ S, Hid (strOf (funcIt ++ jnB (namesA n) ++ tailA) = S) := ⟨_, Lib.hid rfl⟩
            have s1 : ∀ w, (Op.stringOp .add ⟨#[102, 117, 110, 99, 32, 105, 116, 40]⟩ SJ).run Tryz.prog w = .ok (.string K0) w := fun w => by
              rw [← hSJ.out, ← hK0.out]
              exact add_strs2 (funcIt) (jnB (namesA n)) (by (try simp only [List.length_append]); omega) w
            have s2 : ∀ w, (Op.stringOp .add K0 ⟨#[41, 32, 123, 32, 125, 32, 97, 99, 116, 111, 114, 32, 114, 111, 108, 101, 40, 41, 32, 123, 32, 111, 110, 32, 103, 111, 40, 41, 32, 123, 10]⟩).run Tryz.prog w = .ok (.string H0) w := fun w => by
              rw [← hK0.out, ← hH0.out]
              exact add_strs2 (funcIt ++ jnB (namesA n)) (tailA) (by (try simp only [List.length_append]); omega) w
            obtain ⟨A0, hA0⟩ : ∃ S, Hid (strOf (callB ++ whoN true) = S) := ⟨_, Lib.hid rfl⟩
            obtain ⟨B0, hB0⟩ : ∃ S, Hid (strOf (callB ++ whoN true ++ [40]) = S) := ⟨_, Lib.hid rfl⟩
            obtain ⟨C0, hC0⟩ : ∃ S, Hid (strOf (callB ++ whoN true ++ [40] ++ onesB k) = S) := ⟨_, Lib.hid rfl⟩
            obtain ⟨D0, hD0⟩ : ∃ S, Hid (strOf (callB ++ whoN true ++ [40] ++ onesB k ++ [41, 59]) = S) := ⟨_, Lib.hid rfl⟩
            have s3 : ∀ w, (Op.stringOp .add ⟨#[99, 97, 108, 108, 32]⟩ ⟨#[105, 116]⟩).run Tryz.prog w = .ok (.string A0) w := fun w => by
              rw [← hA0.out]
              exact add_strs2 (callB) (whoN true) (by (try simp only [List.length_append]); omega) w
            have s4 : ∀ w, (Op.stringOp .add A0 ⟨#[40]⟩).run Tryz.prog w = .ok (.string B0) w := fun w => by
              rw [← hA0.out, ← hB0.out]
              exact add_strs2 (callB ++ whoN true) ([40]) (by (try simp only [List.length_append]); omega) w
            have s5 : ∀ w, (Op.stringOp .add B0 SO).run Tryz.prog w = .ok (.string C0) w := fun w => by
              rw [← hB0.out, ← hSO.out, ← hC0.out]
              exact add_strs2 (callB ++ whoN true ++ [40]) (onesB k) (by (try simp only [List.length_append]); omega) w
            have s6 : ∀ w, (Op.stringOp .add C0 ⟨#[41, 59]⟩).run Tryz.prog w = .ok (.string D0) w := fun w => by
              rw [← hC0.out, ← hD0.out]
              exact add_strs2 (callB ++ whoN true ++ [40] ++ onesB k) ([41, 59]) (by (try simp only [List.length_append]); omega) w
            obtain ⟨Z1, hZ1⟩ : ∃ S, Hid (strOf (funcIt ++ jnB (namesA n) ++ tailA ++ (callB ++ whoN true ++ [40] ++ onesB k ++ [41, 59])) = S) := ⟨_, Lib.hid rfl⟩
            obtain ⟨Z2, hZ2⟩ : ∃ S, Hid (strOf (funcIt ++ jnB (namesA n) ++ tailA ++ (callB ++ whoN true ++ [40] ++ onesB k ++ [41, 59]) ++ endA) = S) := ⟨_, Lib.hid rfl⟩
            have s7 : ∀ w, (Op.stringOp .add H0 D0).run Tryz.prog w = .ok (.string Z1) w := fun w => by
              rw [← hH0.out, ← hD0.out, ← hZ1.out]
              exact add_strs2 (funcIt ++ jnB (namesA n) ++ tailA) (callB ++ whoN true ++ [40] ++ onesB k ++ [41, 59]) (by (try simp only [List.length_append]); omega) w
            have s8 : ∀ w, (Op.stringOp .add Z1 ⟨#[32, 125, 32, 125]⟩).run Tryz.prog w = .ok (.string Z2) w := fun w => by
              rw [← hZ1.out, ← hZ2.out]
              exact add_strs2 (funcIt ++ jnB (namesA n) ++ tailA ++ (callB ++ whoN true ++ [40] ++ onesB k ++ [41, 59])) (endA) (by (try simp only [List.length_append]); omega) w
            have HFA := Lib.hid (fun (w' : World) (hw : Wt w') => fault_any (headA 0 n ++ useB 0 true k ++ endA) t8 tl hfa Z2 hZ2.out.symm w' hw)
            have HJ := Lib.hid (fun w' (hb : Below wr.heap.size wr w') => join_any w' w.heap.size _ _ (HO.out.below hb) (by omega) (by rw [namesA_len]; omega))
            rw [hSJ.out] at HJ
            rw [hSO.out] at HSO
            have hv' : (x : Int) % 3 = 0 := hv
            clear hv t8 tl hfa lj lo lt le l40 lk0 lk1 lv0 lv1 lv2 lw hSJ hSO hK0 hH0 hA0 hB0 hC0 hD0 hZ1 hZ2
            clear HO
            have HR : Hid (Below wr.heap.size wr wr) := Lib.hid (Below.refl _ _)
            go_wp2_with fail
            refine (HJ.out _ HR.out).mono ?_
            rintro e w1 ⟨rfl, hb1⟩
            have HK1 := Lib.hid (HK.out.trans (hb1.mono HK.out.size))
            have HR1 := Lib.hid (HR.out.trans (hb1.mono HR.out.size))
            clear hb1
            go_wp2_with fail
            refine (HSO.out _).mono ?_
            rintro e w2 ⟨rfl, hb2⟩
            have HK2 := Lib.hid (HK1.out.trans (hb2.mono HK1.out.size))
            have HR2 := Lib.hid (HR1.out.trans (hb2.mono HR1.out.size))
            clear hb2
            clear HJ HSO HR HR1 HR2
            go_wp2_with fail
            have hq := Lib.hid (heap_new w2 (.cells #[.int .i64 0, .int .i64 0] 29))
            have c0 : (w2.alloc (.cells #[.int .i64 0, .int .i64 0] 29)).cell? ⟨w2.heap.size, 0, none⟩ = some (.int .i64 0) := cell_block hq.out 0
            have c1 : (w2.alloc (.cells #[.int .i64 0, .int .i64 0] 29)).cell? ⟨w2.heap.size, 1, none⟩ = some (.int .i64 0) := cell_block hq.out 1
            have HKA := Lib.hid (HK2.out.alloc HK2.out.size (.cells #[.int .i64 0, .int .i64 0] 29))
            have hgl : w2.heap.size < (w2.alloc (.cells #[.int .i64 0, .int .i64 0] 29)).heap.size := by simp
            obtain ⟨WX, hWX⟩ : ∃ W, Hid (w2.alloc (.cells #[.int .i64 0, .int .i64 0] 29) = W) := ⟨_, Lib.hid rfl⟩
            rw [hWX.out] at c0 c1 HKA hgl ⊢
            clear hq hWX
            go_region_held3 (fun w' => w'.cell? ⟨w2.heap.size, 0, none⟩ = some (.int .i64 0) ∧ w'.cell? ⟨w2.heap.size, 1, none⟩ = some (.int .i64 0)) (go_keep)
              (first
                | (go_at_call 37
                   refine (HFA.out _ (HW0.out.below (below_drewN HKA.out _))).mono ?_
                   rintro e wa ⟨rfl, hba⟩
                   have HKB := Lib.hid ((below_drewN HKA.out _).trans (hba.mono HKA.out.size))
                   have c2 := (hba.cell (p := ⟨w2.heap.size, 0, none⟩) hgl).trans c0
                   have c3 := (hba.cell (p := ⟨w2.heap.size, 1, none⟩) hgl).trans c1
                   have hgm : w2.heap.size < wa.heap.size := Nat.lt_of_lt_of_le hgl hba.size
                   clear hba)
                | (go_at_call 32
                   refine (HAW.out _ (HW0.out.below HKB.out)).mono ?_
                   rintro e wb ⟨rfl, hbb⟩
                   have HKC := Lib.hid (HKB.out.trans (hbb.mono HKB.out.size))
                   have c4 := (hbb.cell (p := ⟨w2.heap.size, 0, none⟩) hgm).trans c2
                   have c5 := (hbb.cell (p := ⟨w2.heap.size, 1, none⟩) hgm).trans c3
                   clear hbb)
                | (fail))
            all_goals (go_wp2_with fail; go_ret; exact ⟨rfl, HKC.out⟩)
          · obtain ⟨SJ, hSJ⟩ : ∃ S, Hid (strOf (jnB (namesA n)) = S) := ⟨_, Lib.hid rfl⟩
            obtain ⟨SO, hSO⟩ : ∃ S, Hid (strOf (onesB k) = S) := ⟨_, Lib.hid rfl⟩
            obtain ⟨K0, hK0⟩ : ∃ S, Hid (strOf (funcIt ++ jnB (namesA n)) = S) := ⟨_, Lib.hid rfl⟩
            obtain ⟨H0, hH0⟩ : ∃ S, Hid (strOf (funcIt ++ jnB (namesA n) ++ tailA) = S) := ⟨_, Lib.hid rfl⟩
            have s1 : ∀ w, (Op.stringOp .add ⟨#[102, 117, 110, 99, 32, 105, 116, 40]⟩ SJ).run Tryz.prog w = .ok (.string K0) w := fun w => by
              rw [← hSJ.out, ← hK0.out]
              exact add_strs2 (funcIt) (jnB (namesA n)) (by (try simp only [List.length_append]); omega) w
            have s2 : ∀ w, (Op.stringOp .add K0 ⟨#[41, 32, 123, 32, 125, 32, 97, 99, 116, 111, 114, 32, 114, 111, 108, 101, 40, 41, 32, 123, 32, 111, 110, 32, 103, 111, 40, 41, 32, 123, 10]⟩).run Tryz.prog w = .ok (.string H0) w := fun w => by
              rw [← hK0.out, ← hH0.out]
              exact add_strs2 (funcIt ++ jnB (namesA n)) (tailA) (by (try simp only [List.length_append]); omega) w
            obtain ⟨K1, hK1⟩ : ∃ S, Hid (strOf (actIt ++ jnB (namesA n)) = S) := ⟨_, Lib.hid rfl⟩
            obtain ⟨H1, hH1⟩ : ∃ S, Hid (strOf (actIt ++ jnB (namesA n) ++ tailA) = S) := ⟨_, Lib.hid rfl⟩
            have s3 : ∀ w, (Op.stringOp .add ⟨#[97, 99, 116, 111, 114, 32, 105, 116, 40]⟩ SJ).run Tryz.prog w = .ok (.string K1) w := fun w => by
              rw [← hSJ.out, ← hK1.out]
              exact add_strs2 (actIt) (jnB (namesA n)) (by (try simp only [List.length_append]); omega) w
            have s4 : ∀ w, (Op.stringOp .add K1 ⟨#[41, 32, 123, 32, 125, 32, 97, 99, 116, 111, 114, 32, 114, 111, 108, 101, 40, 41, 32, 123, 32, 111, 110, 32, 103, 111, 40, 41, 32, 123, 10]⟩).run Tryz.prog w = .ok (.string H1) w := fun w => by
              rw [← hK1.out, ← hH1.out]
              exact add_strs2 (actIt ++ jnB (namesA n)) (tailA) (by (try simp only [List.length_append]); omega) w
            obtain ⟨A0, hA0⟩ : ∃ S, Hid (strOf (callB ++ whoN true) = S) := ⟨_, Lib.hid rfl⟩
            obtain ⟨B0, hB0⟩ : ∃ S, Hid (strOf (callB ++ whoN true ++ [40]) = S) := ⟨_, Lib.hid rfl⟩
            obtain ⟨C0, hC0⟩ : ∃ S, Hid (strOf (callB ++ whoN true ++ [40] ++ onesB k) = S) := ⟨_, Lib.hid rfl⟩
            obtain ⟨D0, hD0⟩ : ∃ S, Hid (strOf (callB ++ whoN true ++ [40] ++ onesB k ++ [41, 59]) = S) := ⟨_, Lib.hid rfl⟩
            have s5 : ∀ w, (Op.stringOp .add ⟨#[99, 97, 108, 108, 32]⟩ ⟨#[105, 116]⟩).run Tryz.prog w = .ok (.string A0) w := fun w => by
              rw [← hA0.out]
              exact add_strs2 (callB) (whoN true) (by (try simp only [List.length_append]); omega) w
            have s6 : ∀ w, (Op.stringOp .add A0 ⟨#[40]⟩).run Tryz.prog w = .ok (.string B0) w := fun w => by
              rw [← hA0.out, ← hB0.out]
              exact add_strs2 (callB ++ whoN true) ([40]) (by (try simp only [List.length_append]); omega) w
            have s7 : ∀ w, (Op.stringOp .add B0 SO).run Tryz.prog w = .ok (.string C0) w := fun w => by
              rw [← hB0.out, ← hSO.out, ← hC0.out]
              exact add_strs2 (callB ++ whoN true ++ [40]) (onesB k) (by (try simp only [List.length_append]); omega) w
            have s8 : ∀ w, (Op.stringOp .add C0 ⟨#[41, 59]⟩).run Tryz.prog w = .ok (.string D0) w := fun w => by
              rw [← hC0.out, ← hD0.out]
              exact add_strs2 (callB ++ whoN true ++ [40] ++ onesB k) ([41, 59]) (by (try simp only [List.length_append]); omega) w
            obtain ⟨A1, hA1⟩ : ∃ S, Hid (strOf (spawnB ++ whoN true) = S) := ⟨_, Lib.hid rfl⟩
            obtain ⟨B1, hB1⟩ : ∃ S, Hid (strOf (spawnB ++ whoN true ++ [40]) = S) := ⟨_, Lib.hid rfl⟩
            obtain ⟨C1, hC1⟩ : ∃ S, Hid (strOf (spawnB ++ whoN true ++ [40] ++ onesB k) = S) := ⟨_, Lib.hid rfl⟩
            obtain ⟨D1, hD1⟩ : ∃ S, Hid (strOf (spawnB ++ whoN true ++ [40] ++ onesB k ++ [41, 59]) = S) := ⟨_, Lib.hid rfl⟩
            have s9 : ∀ w, (Op.stringOp .add ⟨#[115, 112, 97, 119, 110, 32]⟩ ⟨#[105, 116]⟩).run Tryz.prog w = .ok (.string A1) w := fun w => by
              rw [← hA1.out]
              exact add_strs2 (spawnB) (whoN true) (by (try simp only [List.length_append]); omega) w
            have s10 : ∀ w, (Op.stringOp .add A1 ⟨#[40]⟩).run Tryz.prog w = .ok (.string B1) w := fun w => by
              rw [← hA1.out, ← hB1.out]
              exact add_strs2 (spawnB ++ whoN true) ([40]) (by (try simp only [List.length_append]); omega) w
            have s11 : ∀ w, (Op.stringOp .add B1 SO).run Tryz.prog w = .ok (.string C1) w := fun w => by
              rw [← hB1.out, ← hSO.out, ← hC1.out]
              exact add_strs2 (spawnB ++ whoN true ++ [40]) (onesB k) (by (try simp only [List.length_append]); omega) w
            have s12 : ∀ w, (Op.stringOp .add C1 ⟨#[41, 59]⟩).run Tryz.prog w = .ok (.string D1) w := fun w => by
              rw [← hC1.out, ← hD1.out]
              exact add_strs2 (spawnB ++ whoN true ++ [40] ++ onesB k) ([41, 59]) (by (try simp only [List.length_append]); omega) w
            obtain ⟨Z1, hZ1⟩ : ∃ S, Hid (strOf (actIt ++ jnB (namesA n) ++ tailA ++ (spawnB ++ whoN true ++ [40] ++ onesB k ++ [41, 59])) = S) := ⟨_, Lib.hid rfl⟩
            obtain ⟨Z2, hZ2⟩ : ∃ S, Hid (strOf (actIt ++ jnB (namesA n) ++ tailA ++ (spawnB ++ whoN true ++ [40] ++ onesB k ++ [41, 59]) ++ endA) = S) := ⟨_, Lib.hid rfl⟩
            have s13 : ∀ w, (Op.stringOp .add H1 D1).run Tryz.prog w = .ok (.string Z1) w := fun w => by
              rw [← hH1.out, ← hD1.out, ← hZ1.out]
              exact add_strs2 (actIt ++ jnB (namesA n) ++ tailA) (spawnB ++ whoN true ++ [40] ++ onesB k ++ [41, 59]) (by (try simp only [List.length_append]); omega) w
            have s14 : ∀ w, (Op.stringOp .add Z1 ⟨#[32, 125, 32, 125]⟩).run Tryz.prog w = .ok (.string Z2) w := fun w => by
              rw [← hZ1.out, ← hZ2.out]
              exact add_strs2 (actIt ++ jnB (namesA n) ++ tailA ++ (spawnB ++ whoN true ++ [40] ++ onesB k ++ [41, 59])) (endA) (by (try simp only [List.length_append]); omega) w
            have HFA := Lib.hid (fun (w' : World) (hw : Wt w') => fault_any (headA 1 n ++ useB 1 true k ++ endA) t8 tl hfa Z2 hZ2.out.symm w' hw)
            have HJ := Lib.hid (fun w' (hb : Below wr.heap.size wr w') => join_any w' w.heap.size _ _ (HO.out.below hb) (by omega) (by rw [namesA_len]; omega))
            rw [hSJ.out] at HJ
            rw [hSO.out] at HSO
            have hv' : (x : Int) % 3 = 1 := hv
            clear hv t8 tl hfa lj lo lt le l40 lk0 lk1 lv0 lv1 lv2 lw hSJ hSO hK0 hH0 hK1 hH1 hA0 hB0 hC0 hD0 hA1 hB1 hC1 hD1 hZ1 hZ2
            clear HO
            have HR : Hid (Below wr.heap.size wr wr) := Lib.hid (Below.refl _ _)
            go_wp2_with fail
            refine (HJ.out _ HR.out).mono ?_
            rintro e w1 ⟨rfl, hb1⟩
            have HK1 := Lib.hid (HK.out.trans (hb1.mono HK.out.size))
            have HR1 := Lib.hid (HR.out.trans (hb1.mono HR.out.size))
            clear hb1
            go_wp2_with fail
            refine (HSO.out _).mono ?_
            rintro e w2 ⟨rfl, hb2⟩
            have HK2 := Lib.hid (HK1.out.trans (hb2.mono HK1.out.size))
            have HR2 := Lib.hid (HR1.out.trans (hb2.mono HR1.out.size))
            clear hb2
            go_wp2_with fail
            refine (HJ.out _ HR2.out).mono ?_
            rintro e w3 ⟨rfl, hb3⟩
            have HK3 := Lib.hid (HK2.out.trans (hb3.mono HK2.out.size))
            have HR3 := Lib.hid (HR2.out.trans (hb3.mono HR2.out.size))
            clear hb3
            go_wp2_with fail
            refine (HSO.out _).mono ?_
            rintro e w4 ⟨rfl, hb4⟩
            have HK4 := Lib.hid (HK3.out.trans (hb4.mono HK3.out.size))
            have HR4 := Lib.hid (HR3.out.trans (hb4.mono HR3.out.size))
            clear hb4
            clear HJ HSO HR HR1 HR2 HR3 HR4
            go_wp2_with fail
            have hq := Lib.hid (heap_new w4 (.cells #[.int .i64 0, .int .i64 0] 29))
            have c0 : (w4.alloc (.cells #[.int .i64 0, .int .i64 0] 29)).cell? ⟨w4.heap.size, 0, none⟩ = some (.int .i64 0) := cell_block hq.out 0
            have c1 : (w4.alloc (.cells #[.int .i64 0, .int .i64 0] 29)).cell? ⟨w4.heap.size, 1, none⟩ = some (.int .i64 0) := cell_block hq.out 1
            have HKA := Lib.hid (HK4.out.alloc HK4.out.size (.cells #[.int .i64 0, .int .i64 0] 29))
            have hgl : w4.heap.size < (w4.alloc (.cells #[.int .i64 0, .int .i64 0] 29)).heap.size := by simp
            obtain ⟨WX, hWX⟩ : ∃ W, Hid (w4.alloc (.cells #[.int .i64 0, .int .i64 0] 29) = W) := ⟨_, Lib.hid rfl⟩
            rw [hWX.out] at c0 c1 HKA hgl ⊢
            clear hq hWX
            go_region_held3 (fun w' => w'.cell? ⟨w4.heap.size, 0, none⟩ = some (.int .i64 0) ∧ w'.cell? ⟨w4.heap.size, 1, none⟩ = some (.int .i64 0)) (go_keep)
              (first
                | (go_at_call 37
                   refine (HFA.out _ (HW0.out.below (below_drewN HKA.out _))).mono ?_
                   rintro e wa ⟨rfl, hba⟩
                   have HKB := Lib.hid ((below_drewN HKA.out _).trans (hba.mono HKA.out.size))
                   have c2 := (hba.cell (p := ⟨w4.heap.size, 0, none⟩) hgl).trans c0
                   have c3 := (hba.cell (p := ⟨w4.heap.size, 1, none⟩) hgl).trans c1
                   have hgm : w4.heap.size < wa.heap.size := Nat.lt_of_lt_of_le hgl hba.size
                   clear hba)
                | (go_at_call 32
                   refine (HAW.out _ (HW0.out.below HKB.out)).mono ?_
                   rintro e wb ⟨rfl, hbb⟩
                   have HKC := Lib.hid (HKB.out.trans (hbb.mono HKB.out.size))
                   have c4 := (hbb.cell (p := ⟨w4.heap.size, 0, none⟩) hgm).trans c2
                   have c5 := (hbb.cell (p := ⟨w4.heap.size, 1, none⟩) hgm).trans c3
                   clear hbb)
                | (fail))
            all_goals (go_wp2_with fail; go_ret; exact ⟨rfl, HKC.out⟩)
          · obtain ⟨SJ, hSJ⟩ : ∃ S, Hid (strOf (jnB (namesA n)) = S) := ⟨_, Lib.hid rfl⟩
            obtain ⟨SO, hSO⟩ : ∃ S, Hid (strOf (onesB k) = S) := ⟨_, Lib.hid rfl⟩
            obtain ⟨K0, hK0⟩ : ∃ S, Hid (strOf (funcIt ++ jnB (namesA n)) = S) := ⟨_, Lib.hid rfl⟩
            obtain ⟨H0, hH0⟩ : ∃ S, Hid (strOf (funcIt ++ jnB (namesA n) ++ tailA) = S) := ⟨_, Lib.hid rfl⟩
            have s1 : ∀ w, (Op.stringOp .add ⟨#[102, 117, 110, 99, 32, 105, 116, 40]⟩ SJ).run Tryz.prog w = .ok (.string K0) w := fun w => by
              rw [← hSJ.out, ← hK0.out]
              exact add_strs2 (funcIt) (jnB (namesA n)) (by (try simp only [List.length_append]); omega) w
            have s2 : ∀ w, (Op.stringOp .add K0 ⟨#[41, 32, 123, 32, 125, 32, 97, 99, 116, 111, 114, 32, 114, 111, 108, 101, 40, 41, 32, 123, 32, 111, 110, 32, 103, 111, 40, 41, 32, 123, 10]⟩).run Tryz.prog w = .ok (.string H0) w := fun w => by
              rw [← hK0.out, ← hH0.out]
              exact add_strs2 (funcIt ++ jnB (namesA n)) (tailA) (by (try simp only [List.length_append]); omega) w
            obtain ⟨K1, hK1⟩ : ∃ S, Hid (strOf (actIt ++ jnB (namesA n)) = S) := ⟨_, Lib.hid rfl⟩
            obtain ⟨H1, hH1⟩ : ∃ S, Hid (strOf (actIt ++ jnB (namesA n) ++ tailA) = S) := ⟨_, Lib.hid rfl⟩
            have s3 : ∀ w, (Op.stringOp .add ⟨#[97, 99, 116, 111, 114, 32, 105, 116, 40]⟩ SJ).run Tryz.prog w = .ok (.string K1) w := fun w => by
              rw [← hSJ.out, ← hK1.out]
              exact add_strs2 (actIt) (jnB (namesA n)) (by (try simp only [List.length_append]); omega) w
            have s4 : ∀ w, (Op.stringOp .add K1 ⟨#[41, 32, 123, 32, 125, 32, 97, 99, 116, 111, 114, 32, 114, 111, 108, 101, 40, 41, 32, 123, 32, 111, 110, 32, 103, 111, 40, 41, 32, 123, 10]⟩).run Tryz.prog w = .ok (.string H1) w := fun w => by
              rw [← hK1.out, ← hH1.out]
              exact add_strs2 (actIt ++ jnB (namesA n)) (tailA) (by (try simp only [List.length_append]); omega) w
            obtain ⟨A0, hA0⟩ : ∃ S, Hid (strOf (callB ++ whoN true) = S) := ⟨_, Lib.hid rfl⟩
            obtain ⟨B0, hB0⟩ : ∃ S, Hid (strOf (callB ++ whoN true ++ [40]) = S) := ⟨_, Lib.hid rfl⟩
            obtain ⟨C0, hC0⟩ : ∃ S, Hid (strOf (callB ++ whoN true ++ [40] ++ onesB k) = S) := ⟨_, Lib.hid rfl⟩
            obtain ⟨D0, hD0⟩ : ∃ S, Hid (strOf (callB ++ whoN true ++ [40] ++ onesB k ++ [41, 59]) = S) := ⟨_, Lib.hid rfl⟩
            have s5 : ∀ w, (Op.stringOp .add ⟨#[99, 97, 108, 108, 32]⟩ ⟨#[105, 116]⟩).run Tryz.prog w = .ok (.string A0) w := fun w => by
              rw [← hA0.out]
              exact add_strs2 (callB) (whoN true) (by (try simp only [List.length_append]); omega) w
            have s6 : ∀ w, (Op.stringOp .add A0 ⟨#[40]⟩).run Tryz.prog w = .ok (.string B0) w := fun w => by
              rw [← hA0.out, ← hB0.out]
              exact add_strs2 (callB ++ whoN true) ([40]) (by (try simp only [List.length_append]); omega) w
            have s7 : ∀ w, (Op.stringOp .add B0 SO).run Tryz.prog w = .ok (.string C0) w := fun w => by
              rw [← hB0.out, ← hSO.out, ← hC0.out]
              exact add_strs2 (callB ++ whoN true ++ [40]) (onesB k) (by (try simp only [List.length_append]); omega) w
            have s8 : ∀ w, (Op.stringOp .add C0 ⟨#[41, 59]⟩).run Tryz.prog w = .ok (.string D0) w := fun w => by
              rw [← hC0.out, ← hD0.out]
              exact add_strs2 (callB ++ whoN true ++ [40] ++ onesB k) ([41, 59]) (by (try simp only [List.length_append]); omega) w
            obtain ⟨A1, hA1⟩ : ∃ S, Hid (strOf (spawnB ++ whoN true) = S) := ⟨_, Lib.hid rfl⟩
            obtain ⟨B1, hB1⟩ : ∃ S, Hid (strOf (spawnB ++ whoN true ++ [40]) = S) := ⟨_, Lib.hid rfl⟩
            obtain ⟨C1, hC1⟩ : ∃ S, Hid (strOf (spawnB ++ whoN true ++ [40] ++ onesB k) = S) := ⟨_, Lib.hid rfl⟩
            obtain ⟨D1, hD1⟩ : ∃ S, Hid (strOf (spawnB ++ whoN true ++ [40] ++ onesB k ++ [41, 59]) = S) := ⟨_, Lib.hid rfl⟩
            have s9 : ∀ w, (Op.stringOp .add ⟨#[115, 112, 97, 119, 110, 32]⟩ ⟨#[105, 116]⟩).run Tryz.prog w = .ok (.string A1) w := fun w => by
              rw [← hA1.out]
              exact add_strs2 (spawnB) (whoN true) (by (try simp only [List.length_append]); omega) w
            have s10 : ∀ w, (Op.stringOp .add A1 ⟨#[40]⟩).run Tryz.prog w = .ok (.string B1) w := fun w => by
              rw [← hA1.out, ← hB1.out]
              exact add_strs2 (spawnB ++ whoN true) ([40]) (by (try simp only [List.length_append]); omega) w
            have s11 : ∀ w, (Op.stringOp .add B1 SO).run Tryz.prog w = .ok (.string C1) w := fun w => by
              rw [← hB1.out, ← hSO.out, ← hC1.out]
              exact add_strs2 (spawnB ++ whoN true ++ [40]) (onesB k) (by (try simp only [List.length_append]); omega) w
            have s12 : ∀ w, (Op.stringOp .add C1 ⟨#[41, 59]⟩).run Tryz.prog w = .ok (.string D1) w := fun w => by
              rw [← hC1.out, ← hD1.out]
              exact add_strs2 (spawnB ++ whoN true ++ [40] ++ onesB k) ([41, 59]) (by (try simp only [List.length_append]); omega) w
            obtain ⟨A2, hA2⟩ : ∃ S, Hid (strOf (becomeB ++ whoN true) = S) := ⟨_, Lib.hid rfl⟩
            obtain ⟨B2, hB2⟩ : ∃ S, Hid (strOf (becomeB ++ whoN true ++ [40]) = S) := ⟨_, Lib.hid rfl⟩
            obtain ⟨C2, hC2⟩ : ∃ S, Hid (strOf (becomeB ++ whoN true ++ [40] ++ onesB k) = S) := ⟨_, Lib.hid rfl⟩
            obtain ⟨D2, hD2⟩ : ∃ S, Hid (strOf (becomeB ++ whoN true ++ [40] ++ onesB k ++ [41, 59]) = S) := ⟨_, Lib.hid rfl⟩
            have s13 : ∀ w, (Op.stringOp .add ⟨#[98, 101, 99, 111, 109, 101, 32]⟩ ⟨#[105, 116]⟩).run Tryz.prog w = .ok (.string A2) w := fun w => by
              rw [← hA2.out]
              exact add_strs2 (becomeB) (whoN true) (by (try simp only [List.length_append]); omega) w
            have s14 : ∀ w, (Op.stringOp .add A2 ⟨#[40]⟩).run Tryz.prog w = .ok (.string B2) w := fun w => by
              rw [← hA2.out, ← hB2.out]
              exact add_strs2 (becomeB ++ whoN true) ([40]) (by (try simp only [List.length_append]); omega) w
            have s15 : ∀ w, (Op.stringOp .add B2 SO).run Tryz.prog w = .ok (.string C2) w := fun w => by
              rw [← hB2.out, ← hSO.out, ← hC2.out]
              exact add_strs2 (becomeB ++ whoN true ++ [40]) (onesB k) (by (try simp only [List.length_append]); omega) w
            have s16 : ∀ w, (Op.stringOp .add C2 ⟨#[41, 59]⟩).run Tryz.prog w = .ok (.string D2) w := fun w => by
              rw [← hC2.out, ← hD2.out]
              exact add_strs2 (becomeB ++ whoN true ++ [40] ++ onesB k) ([41, 59]) (by (try simp only [List.length_append]); omega) w
            obtain ⟨Z1, hZ1⟩ : ∃ S, Hid (strOf (actIt ++ jnB (namesA n) ++ tailA ++ (becomeB ++ whoN true ++ [40] ++ onesB k ++ [41, 59])) = S) := ⟨_, Lib.hid rfl⟩
            obtain ⟨Z2, hZ2⟩ : ∃ S, Hid (strOf (actIt ++ jnB (namesA n) ++ tailA ++ (becomeB ++ whoN true ++ [40] ++ onesB k ++ [41, 59]) ++ endA) = S) := ⟨_, Lib.hid rfl⟩
            have s17 : ∀ w, (Op.stringOp .add H1 D2).run Tryz.prog w = .ok (.string Z1) w := fun w => by
              rw [← hH1.out, ← hD2.out, ← hZ1.out]
              exact add_strs2 (actIt ++ jnB (namesA n) ++ tailA) (becomeB ++ whoN true ++ [40] ++ onesB k ++ [41, 59]) (by (try simp only [List.length_append]); omega) w
            have s18 : ∀ w, (Op.stringOp .add Z1 ⟨#[32, 125, 32, 125]⟩).run Tryz.prog w = .ok (.string Z2) w := fun w => by
              rw [← hZ1.out, ← hZ2.out]
              exact add_strs2 (actIt ++ jnB (namesA n) ++ tailA ++ (becomeB ++ whoN true ++ [40] ++ onesB k ++ [41, 59])) (endA) (by (try simp only [List.length_append]); omega) w
            have HFA := Lib.hid (fun (w' : World) (hw : Wt w') => fault_any (headA 2 n ++ useB 2 true k ++ endA) t8 tl hfa Z2 hZ2.out.symm w' hw)
            have HJ := Lib.hid (fun w' (hb : Below wr.heap.size wr w') => join_any w' w.heap.size _ _ (HO.out.below hb) (by omega) (by rw [namesA_len]; omega))
            rw [hSJ.out] at HJ
            rw [hSO.out] at HSO
            have hv' : (x : Int) % 3 = 2 := hv
            clear hv t8 tl hfa lj lo lt le l40 lk0 lk1 lv0 lv1 lv2 lw hSJ hSO hK0 hH0 hK1 hH1 hA0 hB0 hC0 hD0 hA1 hB1 hC1 hD1 hA2 hB2 hC2 hD2 hZ1 hZ2
            clear HO
            have HR : Hid (Below wr.heap.size wr wr) := Lib.hid (Below.refl _ _)
            go_wp2_with fail
            refine (HJ.out _ HR.out).mono ?_
            rintro e w1 ⟨rfl, hb1⟩
            have HK1 := Lib.hid (HK.out.trans (hb1.mono HK.out.size))
            have HR1 := Lib.hid (HR.out.trans (hb1.mono HR.out.size))
            clear hb1
            go_wp2_with fail
            refine (HSO.out _).mono ?_
            rintro e w2 ⟨rfl, hb2⟩
            have HK2 := Lib.hid (HK1.out.trans (hb2.mono HK1.out.size))
            have HR2 := Lib.hid (HR1.out.trans (hb2.mono HR1.out.size))
            clear hb2
            go_wp2_with fail
            refine (HJ.out _ HR2.out).mono ?_
            rintro e w3 ⟨rfl, hb3⟩
            have HK3 := Lib.hid (HK2.out.trans (hb3.mono HK2.out.size))
            have HR3 := Lib.hid (HR2.out.trans (hb3.mono HR2.out.size))
            clear hb3
            go_wp2_with fail
            refine (HSO.out _).mono ?_
            rintro e w4 ⟨rfl, hb4⟩
            have HK4 := Lib.hid (HK3.out.trans (hb4.mono HK3.out.size))
            have HR4 := Lib.hid (HR3.out.trans (hb4.mono HR3.out.size))
            clear hb4
            go_wp2_with fail
            refine (HSO.out _).mono ?_
            rintro e w5 ⟨rfl, hb5⟩
            have HK5 := Lib.hid (HK4.out.trans (hb5.mono HK4.out.size))
            have HR5 := Lib.hid (HR4.out.trans (hb5.mono HR4.out.size))
            clear hb5
            clear HJ HSO HR HR1 HR2 HR3 HR4 HR5
            go_wp2_with fail
            have hq := Lib.hid (heap_new w5 (.cells #[.int .i64 0, .int .i64 0] 29))
            have c0 : (w5.alloc (.cells #[.int .i64 0, .int .i64 0] 29)).cell? ⟨w5.heap.size, 0, none⟩ = some (.int .i64 0) := cell_block hq.out 0
            have c1 : (w5.alloc (.cells #[.int .i64 0, .int .i64 0] 29)).cell? ⟨w5.heap.size, 1, none⟩ = some (.int .i64 0) := cell_block hq.out 1
            have HKA := Lib.hid (HK5.out.alloc HK5.out.size (.cells #[.int .i64 0, .int .i64 0] 29))
            have hgl : w5.heap.size < (w5.alloc (.cells #[.int .i64 0, .int .i64 0] 29)).heap.size := by simp
            obtain ⟨WX, hWX⟩ : ∃ W, Hid (w5.alloc (.cells #[.int .i64 0, .int .i64 0] 29) = W) := ⟨_, Lib.hid rfl⟩
            rw [hWX.out] at c0 c1 HKA hgl ⊢
            clear hq hWX
            go_region_held3 (fun w' => w'.cell? ⟨w5.heap.size, 0, none⟩ = some (.int .i64 0) ∧ w'.cell? ⟨w5.heap.size, 1, none⟩ = some (.int .i64 0)) (go_keep)
              (first
                | (go_at_call 37
                   refine (HFA.out _ (HW0.out.below (below_drewN HKA.out _))).mono ?_
                   rintro e wa ⟨rfl, hba⟩
                   have HKB := Lib.hid ((below_drewN HKA.out _).trans (hba.mono HKA.out.size))
                   have c2 := (hba.cell (p := ⟨w5.heap.size, 0, none⟩) hgl).trans c0
                   have c3 := (hba.cell (p := ⟨w5.heap.size, 1, none⟩) hgl).trans c1
                   have hgm : w5.heap.size < wa.heap.size := Nat.lt_of_lt_of_le hgl hba.size
                   clear hba)
                | (go_at_call 32
                   refine (HAW.out _ (HW0.out.below HKB.out)).mono ?_
                   rintro e wb ⟨rfl, hbb⟩
                   have HKC := Lib.hid (HKB.out.trans (hbb.mono HKB.out.size))
                   have c4 := (hbb.cell (p := ⟨w5.heap.size, 0, none⟩) hgm).trans c2
                   have c5 := (hbb.cell (p := ⟨w5.heap.size, 1, none⟩) hgm).trans c3
                   clear hbb)
                | (fail))
            all_goals (go_wp2_with fail; go_ret; exact ⟨rfl, HKC.out⟩)
        · rw [if_neg q] at hfa
          have q1 : ((n : Int) != (k : Int)) = true := bne_iff_ne.2 (by omega)
          clear q
          rcases hv2 with rfl | rfl | rfl
          · obtain ⟨SJ, hSJ⟩ : ∃ S, Hid (strOf (jnB (namesA n)) = S) := ⟨_, Lib.hid rfl⟩
            obtain ⟨SO, hSO⟩ : ∃ S, Hid (strOf (onesB k) = S) := ⟨_, Lib.hid rfl⟩
            obtain ⟨K0, hK0⟩ : ∃ S, Hid (strOf (funcIt ++ jnB (namesA n)) = S) := ⟨_, Lib.hid rfl⟩
            obtain ⟨H0, hH0⟩ : ∃ S, Hid (strOf (funcIt ++ jnB (namesA n) ++ tailA) = S) := ⟨_, Lib.hid rfl⟩
            have s1 : ∀ w, (Op.stringOp .add ⟨#[102, 117, 110, 99, 32, 105, 116, 40]⟩ SJ).run Tryz.prog w = .ok (.string K0) w := fun w => by
              rw [← hSJ.out, ← hK0.out]
              exact add_strs2 (funcIt) (jnB (namesA n)) (by (try simp only [List.length_append]); omega) w
            have s2 : ∀ w, (Op.stringOp .add K0 ⟨#[41, 32, 123, 32, 125, 32, 97, 99, 116, 111, 114, 32, 114, 111, 108, 101, 40, 41, 32, 123, 32, 111, 110, 32, 103, 111, 40, 41, 32, 123, 10]⟩).run Tryz.prog w = .ok (.string H0) w := fun w => by
              rw [← hK0.out, ← hH0.out]
              exact add_strs2 (funcIt ++ jnB (namesA n)) (tailA) (by (try simp only [List.length_append]); omega) w
            obtain ⟨A0, hA0⟩ : ∃ S, Hid (strOf (callB ++ whoN true) = S) := ⟨_, Lib.hid rfl⟩
            obtain ⟨B0, hB0⟩ : ∃ S, Hid (strOf (callB ++ whoN true ++ [40]) = S) := ⟨_, Lib.hid rfl⟩
            obtain ⟨C0, hC0⟩ : ∃ S, Hid (strOf (callB ++ whoN true ++ [40] ++ onesB k) = S) := ⟨_, Lib.hid rfl⟩
            obtain ⟨D0, hD0⟩ : ∃ S, Hid (strOf (callB ++ whoN true ++ [40] ++ onesB k ++ [41, 59]) = S) := ⟨_, Lib.hid rfl⟩
            have s3 : ∀ w, (Op.stringOp .add ⟨#[99, 97, 108, 108, 32]⟩ ⟨#[105, 116]⟩).run Tryz.prog w = .ok (.string A0) w := fun w => by
              rw [← hA0.out]
              exact add_strs2 (callB) (whoN true) (by (try simp only [List.length_append]); omega) w
            have s4 : ∀ w, (Op.stringOp .add A0 ⟨#[40]⟩).run Tryz.prog w = .ok (.string B0) w := fun w => by
              rw [← hA0.out, ← hB0.out]
              exact add_strs2 (callB ++ whoN true) ([40]) (by (try simp only [List.length_append]); omega) w
            have s5 : ∀ w, (Op.stringOp .add B0 SO).run Tryz.prog w = .ok (.string C0) w := fun w => by
              rw [← hB0.out, ← hSO.out, ← hC0.out]
              exact add_strs2 (callB ++ whoN true ++ [40]) (onesB k) (by (try simp only [List.length_append]); omega) w
            have s6 : ∀ w, (Op.stringOp .add C0 ⟨#[41, 59]⟩).run Tryz.prog w = .ok (.string D0) w := fun w => by
              rw [← hC0.out, ← hD0.out]
              exact add_strs2 (callB ++ whoN true ++ [40] ++ onesB k) ([41, 59]) (by (try simp only [List.length_append]); omega) w
            obtain ⟨Z1, hZ1⟩ : ∃ S, Hid (strOf (funcIt ++ jnB (namesA n) ++ tailA ++ (callB ++ whoN true ++ [40] ++ onesB k ++ [41, 59])) = S) := ⟨_, Lib.hid rfl⟩
            obtain ⟨Z2, hZ2⟩ : ∃ S, Hid (strOf (funcIt ++ jnB (namesA n) ++ tailA ++ (callB ++ whoN true ++ [40] ++ onesB k ++ [41, 59]) ++ endA) = S) := ⟨_, Lib.hid rfl⟩
            have s7 : ∀ w, (Op.stringOp .add H0 D0).run Tryz.prog w = .ok (.string Z1) w := fun w => by
              rw [← hH0.out, ← hD0.out, ← hZ1.out]
              exact add_strs2 (funcIt ++ jnB (namesA n) ++ tailA) (callB ++ whoN true ++ [40] ++ onesB k ++ [41, 59]) (by (try simp only [List.length_append]); omega) w
            have s8 : ∀ w, (Op.stringOp .add Z1 ⟨#[32, 125, 32, 125]⟩).run Tryz.prog w = .ok (.string Z2) w := fun w => by
              rw [← hZ1.out, ← hZ2.out]
              exact add_strs2 (funcIt ++ jnB (namesA n) ++ tailA ++ (callB ++ whoN true ++ [40] ++ onesB k ++ [41, 59])) (endA) (by (try simp only [List.length_append]); omega) w
            have HFA := Lib.hid (fun (w' : World) (hw : Wt w') => fault_any (headA 0 n ++ useB 0 true k ++ endA) t8 tl hfa Z2 hZ2.out.symm w' hw)
            have HJ := Lib.hid (fun w' (hb : Below wr.heap.size wr w') => join_any w' w.heap.size _ _ (HO.out.below hb) (by omega) (by rw [namesA_len]; omega))
            rw [hSJ.out] at HJ
            rw [hSO.out] at HSO
            have hv' : (x : Int) % 3 = 0 := hv
            clear hv t8 tl hfa lj lo lt le l40 lk0 lk1 lv0 lv1 lv2 lw hSJ hSO hK0 hH0 hA0 hB0 hC0 hD0 hZ1 hZ2
            clear HO
            have HR : Hid (Below wr.heap.size wr wr) := Lib.hid (Below.refl _ _)
            go_wp2_with fail
            refine (HJ.out _ HR.out).mono ?_
            rintro e w1 ⟨rfl, hb1⟩
            have HK1 := Lib.hid (HK.out.trans (hb1.mono HK.out.size))
            have HR1 := Lib.hid (HR.out.trans (hb1.mono HR.out.size))
            clear hb1
            go_wp2_with fail
            refine (HSO.out _).mono ?_
            rintro e w2 ⟨rfl, hb2⟩
            have HK2 := Lib.hid (HK1.out.trans (hb2.mono HK1.out.size))
            have HR2 := Lib.hid (HR1.out.trans (hb2.mono HR1.out.size))
            clear hb2
            clear HJ HSO HR HR1 HR2
            go_wp2_with fail
            have hq := Lib.hid (heap_new w2 (.cells #[.int .i64 111, .int .i64 2] 29))
            have c0 : (w2.alloc (.cells #[.int .i64 111, .int .i64 2] 29)).cell? ⟨w2.heap.size, 0, none⟩ = some (.int .i64 111) := cell_block hq.out 0
            have c1 : (w2.alloc (.cells #[.int .i64 111, .int .i64 2] 29)).cell? ⟨w2.heap.size, 1, none⟩ = some (.int .i64 2) := cell_block hq.out 1
            have HKA := Lib.hid (HK2.out.alloc HK2.out.size (.cells #[.int .i64 111, .int .i64 2] 29))
            have hgl : w2.heap.size < (w2.alloc (.cells #[.int .i64 111, .int .i64 2] 29)).heap.size := by simp
            obtain ⟨WX, hWX⟩ : ∃ W, Hid (w2.alloc (.cells #[.int .i64 111, .int .i64 2] 29) = W) := ⟨_, Lib.hid rfl⟩
            rw [hWX.out] at c0 c1 HKA hgl ⊢
            clear hq hWX
            go_region_held3 (fun w' => w'.cell? ⟨w2.heap.size, 0, none⟩ = some (.int .i64 111) ∧ w'.cell? ⟨w2.heap.size, 1, none⟩ = some (.int .i64 2)) (go_keep)
              (first
                | (go_at_call 37
                   refine (HFA.out _ (HW0.out.below (below_drewN HKA.out _))).mono ?_
                   rintro e wa ⟨rfl, hba⟩
                   have HKB := Lib.hid ((below_drewN HKA.out _).trans (hba.mono HKA.out.size))
                   have c2 := (hba.cell (p := ⟨w2.heap.size, 0, none⟩) hgl).trans c0
                   have c3 := (hba.cell (p := ⟨w2.heap.size, 1, none⟩) hgl).trans c1
                   have hgm : w2.heap.size < wa.heap.size := Nat.lt_of_lt_of_le hgl hba.size
                   clear hba)
                | (go_at_call 32
                   refine (HAW.out _ (HW0.out.below HKB.out)).mono ?_
                   rintro e wb ⟨rfl, hbb⟩
                   have HKC := Lib.hid (HKB.out.trans (hbb.mono HKB.out.size))
                   have c4 := (hbb.cell (p := ⟨w2.heap.size, 0, none⟩) hgm).trans c2
                   have c5 := (hbb.cell (p := ⟨w2.heap.size, 1, none⟩) hgm).trans c3
                   clear hbb)
                | (fail))
            all_goals (go_wp2_with fail; go_ret; exact ⟨rfl, HKC.out⟩)
          · obtain ⟨SJ, hSJ⟩ : ∃ S, Hid (strOf (jnB (namesA n)) = S) := ⟨_, Lib.hid rfl⟩
            obtain ⟨SO, hSO⟩ : ∃ S, Hid (strOf (onesB k) = S) := ⟨_, Lib.hid rfl⟩
            obtain ⟨K0, hK0⟩ : ∃ S, Hid (strOf (funcIt ++ jnB (namesA n)) = S) := ⟨_, Lib.hid rfl⟩
            obtain ⟨H0, hH0⟩ : ∃ S, Hid (strOf (funcIt ++ jnB (namesA n) ++ tailA) = S) := ⟨_, Lib.hid rfl⟩
            have s1 : ∀ w, (Op.stringOp .add ⟨#[102, 117, 110, 99, 32, 105, 116, 40]⟩ SJ).run Tryz.prog w = .ok (.string K0) w := fun w => by
              rw [← hSJ.out, ← hK0.out]
              exact add_strs2 (funcIt) (jnB (namesA n)) (by (try simp only [List.length_append]); omega) w
            have s2 : ∀ w, (Op.stringOp .add K0 ⟨#[41, 32, 123, 32, 125, 32, 97, 99, 116, 111, 114, 32, 114, 111, 108, 101, 40, 41, 32, 123, 32, 111, 110, 32, 103, 111, 40, 41, 32, 123, 10]⟩).run Tryz.prog w = .ok (.string H0) w := fun w => by
              rw [← hK0.out, ← hH0.out]
              exact add_strs2 (funcIt ++ jnB (namesA n)) (tailA) (by (try simp only [List.length_append]); omega) w
            obtain ⟨K1, hK1⟩ : ∃ S, Hid (strOf (actIt ++ jnB (namesA n)) = S) := ⟨_, Lib.hid rfl⟩
            obtain ⟨H1, hH1⟩ : ∃ S, Hid (strOf (actIt ++ jnB (namesA n) ++ tailA) = S) := ⟨_, Lib.hid rfl⟩
            have s3 : ∀ w, (Op.stringOp .add ⟨#[97, 99, 116, 111, 114, 32, 105, 116, 40]⟩ SJ).run Tryz.prog w = .ok (.string K1) w := fun w => by
              rw [← hSJ.out, ← hK1.out]
              exact add_strs2 (actIt) (jnB (namesA n)) (by (try simp only [List.length_append]); omega) w
            have s4 : ∀ w, (Op.stringOp .add K1 ⟨#[41, 32, 123, 32, 125, 32, 97, 99, 116, 111, 114, 32, 114, 111, 108, 101, 40, 41, 32, 123, 32, 111, 110, 32, 103, 111, 40, 41, 32, 123, 10]⟩).run Tryz.prog w = .ok (.string H1) w := fun w => by
              rw [← hK1.out, ← hH1.out]
              exact add_strs2 (actIt ++ jnB (namesA n)) (tailA) (by (try simp only [List.length_append]); omega) w
            obtain ⟨A0, hA0⟩ : ∃ S, Hid (strOf (callB ++ whoN true) = S) := ⟨_, Lib.hid rfl⟩
            obtain ⟨B0, hB0⟩ : ∃ S, Hid (strOf (callB ++ whoN true ++ [40]) = S) := ⟨_, Lib.hid rfl⟩
            obtain ⟨C0, hC0⟩ : ∃ S, Hid (strOf (callB ++ whoN true ++ [40] ++ onesB k) = S) := ⟨_, Lib.hid rfl⟩
            obtain ⟨D0, hD0⟩ : ∃ S, Hid (strOf (callB ++ whoN true ++ [40] ++ onesB k ++ [41, 59]) = S) := ⟨_, Lib.hid rfl⟩
            have s5 : ∀ w, (Op.stringOp .add ⟨#[99, 97, 108, 108, 32]⟩ ⟨#[105, 116]⟩).run Tryz.prog w = .ok (.string A0) w := fun w => by
              rw [← hA0.out]
              exact add_strs2 (callB) (whoN true) (by (try simp only [List.length_append]); omega) w
            have s6 : ∀ w, (Op.stringOp .add A0 ⟨#[40]⟩).run Tryz.prog w = .ok (.string B0) w := fun w => by
              rw [← hA0.out, ← hB0.out]
              exact add_strs2 (callB ++ whoN true) ([40]) (by (try simp only [List.length_append]); omega) w
            have s7 : ∀ w, (Op.stringOp .add B0 SO).run Tryz.prog w = .ok (.string C0) w := fun w => by
              rw [← hB0.out, ← hSO.out, ← hC0.out]
              exact add_strs2 (callB ++ whoN true ++ [40]) (onesB k) (by (try simp only [List.length_append]); omega) w
            have s8 : ∀ w, (Op.stringOp .add C0 ⟨#[41, 59]⟩).run Tryz.prog w = .ok (.string D0) w := fun w => by
              rw [← hC0.out, ← hD0.out]
              exact add_strs2 (callB ++ whoN true ++ [40] ++ onesB k) ([41, 59]) (by (try simp only [List.length_append]); omega) w
            obtain ⟨A1, hA1⟩ : ∃ S, Hid (strOf (spawnB ++ whoN true) = S) := ⟨_, Lib.hid rfl⟩
            obtain ⟨B1, hB1⟩ : ∃ S, Hid (strOf (spawnB ++ whoN true ++ [40]) = S) := ⟨_, Lib.hid rfl⟩
            obtain ⟨C1, hC1⟩ : ∃ S, Hid (strOf (spawnB ++ whoN true ++ [40] ++ onesB k) = S) := ⟨_, Lib.hid rfl⟩
            obtain ⟨D1, hD1⟩ : ∃ S, Hid (strOf (spawnB ++ whoN true ++ [40] ++ onesB k ++ [41, 59]) = S) := ⟨_, Lib.hid rfl⟩
            have s9 : ∀ w, (Op.stringOp .add ⟨#[115, 112, 97, 119, 110, 32]⟩ ⟨#[105, 116]⟩).run Tryz.prog w = .ok (.string A1) w := fun w => by
              rw [← hA1.out]
              exact add_strs2 (spawnB) (whoN true) (by (try simp only [List.length_append]); omega) w
            have s10 : ∀ w, (Op.stringOp .add A1 ⟨#[40]⟩).run Tryz.prog w = .ok (.string B1) w := fun w => by
              rw [← hA1.out, ← hB1.out]
              exact add_strs2 (spawnB ++ whoN true) ([40]) (by (try simp only [List.length_append]); omega) w
            have s11 : ∀ w, (Op.stringOp .add B1 SO).run Tryz.prog w = .ok (.string C1) w := fun w => by
              rw [← hB1.out, ← hSO.out, ← hC1.out]
              exact add_strs2 (spawnB ++ whoN true ++ [40]) (onesB k) (by (try simp only [List.length_append]); omega) w
            have s12 : ∀ w, (Op.stringOp .add C1 ⟨#[41, 59]⟩).run Tryz.prog w = .ok (.string D1) w := fun w => by
              rw [← hC1.out, ← hD1.out]
              exact add_strs2 (spawnB ++ whoN true ++ [40] ++ onesB k) ([41, 59]) (by (try simp only [List.length_append]); omega) w
            obtain ⟨Z1, hZ1⟩ : ∃ S, Hid (strOf (actIt ++ jnB (namesA n) ++ tailA ++ (spawnB ++ whoN true ++ [40] ++ onesB k ++ [41, 59])) = S) := ⟨_, Lib.hid rfl⟩
            obtain ⟨Z2, hZ2⟩ : ∃ S, Hid (strOf (actIt ++ jnB (namesA n) ++ tailA ++ (spawnB ++ whoN true ++ [40] ++ onesB k ++ [41, 59]) ++ endA) = S) := ⟨_, Lib.hid rfl⟩
            have s13 : ∀ w, (Op.stringOp .add H1 D1).run Tryz.prog w = .ok (.string Z1) w := fun w => by
              rw [← hH1.out, ← hD1.out, ← hZ1.out]
              exact add_strs2 (actIt ++ jnB (namesA n) ++ tailA) (spawnB ++ whoN true ++ [40] ++ onesB k ++ [41, 59]) (by (try simp only [List.length_append]); omega) w
            have s14 : ∀ w, (Op.stringOp .add Z1 ⟨#[32, 125, 32, 125]⟩).run Tryz.prog w = .ok (.string Z2) w := fun w => by
              rw [← hZ1.out, ← hZ2.out]
              exact add_strs2 (actIt ++ jnB (namesA n) ++ tailA ++ (spawnB ++ whoN true ++ [40] ++ onesB k ++ [41, 59])) (endA) (by (try simp only [List.length_append]); omega) w
            have HFA := Lib.hid (fun (w' : World) (hw : Wt w') => fault_any (headA 1 n ++ useB 1 true k ++ endA) t8 tl hfa Z2 hZ2.out.symm w' hw)
            have HJ := Lib.hid (fun w' (hb : Below wr.heap.size wr w') => join_any w' w.heap.size _ _ (HO.out.below hb) (by omega) (by rw [namesA_len]; omega))
            rw [hSJ.out] at HJ
            rw [hSO.out] at HSO
            have hv' : (x : Int) % 3 = 1 := hv
            clear hv t8 tl hfa lj lo lt le l40 lk0 lk1 lv0 lv1 lv2 lw hSJ hSO hK0 hH0 hK1 hH1 hA0 hB0 hC0 hD0 hA1 hB1 hC1 hD1 hZ1 hZ2
            clear HO
            have HR : Hid (Below wr.heap.size wr wr) := Lib.hid (Below.refl _ _)
            go_wp2_with fail
            refine (HJ.out _ HR.out).mono ?_
            rintro e w1 ⟨rfl, hb1⟩
            have HK1 := Lib.hid (HK.out.trans (hb1.mono HK.out.size))
            have HR1 := Lib.hid (HR.out.trans (hb1.mono HR.out.size))
            clear hb1
            go_wp2_with fail
            refine (HSO.out _).mono ?_
            rintro e w2 ⟨rfl, hb2⟩
            have HK2 := Lib.hid (HK1.out.trans (hb2.mono HK1.out.size))
            have HR2 := Lib.hid (HR1.out.trans (hb2.mono HR1.out.size))
            clear hb2
            go_wp2_with fail
            refine (HJ.out _ HR2.out).mono ?_
            rintro e w3 ⟨rfl, hb3⟩
            have HK3 := Lib.hid (HK2.out.trans (hb3.mono HK2.out.size))
            have HR3 := Lib.hid (HR2.out.trans (hb3.mono HR2.out.size))
            clear hb3
            go_wp2_with fail
            refine (HSO.out _).mono ?_
            rintro e w4 ⟨rfl, hb4⟩
            have HK4 := Lib.hid (HK3.out.trans (hb4.mono HK3.out.size))
            have HR4 := Lib.hid (HR3.out.trans (hb4.mono HR3.out.size))
            clear hb4
            clear HJ HSO HR HR1 HR2 HR3 HR4
            go_wp2_with fail
            have hq := Lib.hid (heap_new w4 (.cells #[.int .i64 111, .int .i64 2] 29))
            have c0 : (w4.alloc (.cells #[.int .i64 111, .int .i64 2] 29)).cell? ⟨w4.heap.size, 0, none⟩ = some (.int .i64 111) := cell_block hq.out 0
            have c1 : (w4.alloc (.cells #[.int .i64 111, .int .i64 2] 29)).cell? ⟨w4.heap.size, 1, none⟩ = some (.int .i64 2) := cell_block hq.out 1
            have HKA := Lib.hid (HK4.out.alloc HK4.out.size (.cells #[.int .i64 111, .int .i64 2] 29))
            have hgl : w4.heap.size < (w4.alloc (.cells #[.int .i64 111, .int .i64 2] 29)).heap.size := by simp
            obtain ⟨WX, hWX⟩ : ∃ W, Hid (w4.alloc (.cells #[.int .i64 111, .int .i64 2] 29) = W) := ⟨_, Lib.hid rfl⟩
            rw [hWX.out] at c0 c1 HKA hgl ⊢
            clear hq hWX
            go_region_held3 (fun w' => w'.cell? ⟨w4.heap.size, 0, none⟩ = some (.int .i64 111) ∧ w'.cell? ⟨w4.heap.size, 1, none⟩ = some (.int .i64 2)) (go_keep)
              (first
                | (go_at_call 37
                   refine (HFA.out _ (HW0.out.below (below_drewN HKA.out _))).mono ?_
                   rintro e wa ⟨rfl, hba⟩
                   have HKB := Lib.hid ((below_drewN HKA.out _).trans (hba.mono HKA.out.size))
                   have c2 := (hba.cell (p := ⟨w4.heap.size, 0, none⟩) hgl).trans c0
                   have c3 := (hba.cell (p := ⟨w4.heap.size, 1, none⟩) hgl).trans c1
                   have hgm : w4.heap.size < wa.heap.size := Nat.lt_of_lt_of_le hgl hba.size
                   clear hba)
                | (go_at_call 32
                   refine (HAW.out _ (HW0.out.below HKB.out)).mono ?_
                   rintro e wb ⟨rfl, hbb⟩
                   have HKC := Lib.hid (HKB.out.trans (hbb.mono HKB.out.size))
                   have c4 := (hbb.cell (p := ⟨w4.heap.size, 0, none⟩) hgm).trans c2
                   have c5 := (hbb.cell (p := ⟨w4.heap.size, 1, none⟩) hgm).trans c3
                   clear hbb)
                | (fail))
            all_goals (go_wp2_with fail; go_ret; exact ⟨rfl, HKC.out⟩)
          · obtain ⟨SJ, hSJ⟩ : ∃ S, Hid (strOf (jnB (namesA n)) = S) := ⟨_, Lib.hid rfl⟩
            obtain ⟨SO, hSO⟩ : ∃ S, Hid (strOf (onesB k) = S) := ⟨_, Lib.hid rfl⟩
            obtain ⟨K0, hK0⟩ : ∃ S, Hid (strOf (funcIt ++ jnB (namesA n)) = S) := ⟨_, Lib.hid rfl⟩
            obtain ⟨H0, hH0⟩ : ∃ S, Hid (strOf (funcIt ++ jnB (namesA n) ++ tailA) = S) := ⟨_, Lib.hid rfl⟩
            have s1 : ∀ w, (Op.stringOp .add ⟨#[102, 117, 110, 99, 32, 105, 116, 40]⟩ SJ).run Tryz.prog w = .ok (.string K0) w := fun w => by
              rw [← hSJ.out, ← hK0.out]
              exact add_strs2 (funcIt) (jnB (namesA n)) (by (try simp only [List.length_append]); omega) w
            have s2 : ∀ w, (Op.stringOp .add K0 ⟨#[41, 32, 123, 32, 125, 32, 97, 99, 116, 111, 114, 32, 114, 111, 108, 101, 40, 41, 32, 123, 32, 111, 110, 32, 103, 111, 40, 41, 32, 123, 10]⟩).run Tryz.prog w = .ok (.string H0) w := fun w => by
              rw [← hK0.out, ← hH0.out]
              exact add_strs2 (funcIt ++ jnB (namesA n)) (tailA) (by (try simp only [List.length_append]); omega) w
            obtain ⟨K1, hK1⟩ : ∃ S, Hid (strOf (actIt ++ jnB (namesA n)) = S) := ⟨_, Lib.hid rfl⟩
            obtain ⟨H1, hH1⟩ : ∃ S, Hid (strOf (actIt ++ jnB (namesA n) ++ tailA) = S) := ⟨_, Lib.hid rfl⟩
            have s3 : ∀ w, (Op.stringOp .add ⟨#[97, 99, 116, 111, 114, 32, 105, 116, 40]⟩ SJ).run Tryz.prog w = .ok (.string K1) w := fun w => by
              rw [← hSJ.out, ← hK1.out]
              exact add_strs2 (actIt) (jnB (namesA n)) (by (try simp only [List.length_append]); omega) w
            have s4 : ∀ w, (Op.stringOp .add K1 ⟨#[41, 32, 123, 32, 125, 32, 97, 99, 116, 111, 114, 32, 114, 111, 108, 101, 40, 41, 32, 123, 32, 111, 110, 32, 103, 111, 40, 41, 32, 123, 10]⟩).run Tryz.prog w = .ok (.string H1) w := fun w => by
              rw [← hK1.out, ← hH1.out]
              exact add_strs2 (actIt ++ jnB (namesA n)) (tailA) (by (try simp only [List.length_append]); omega) w
            obtain ⟨A0, hA0⟩ : ∃ S, Hid (strOf (callB ++ whoN true) = S) := ⟨_, Lib.hid rfl⟩
            obtain ⟨B0, hB0⟩ : ∃ S, Hid (strOf (callB ++ whoN true ++ [40]) = S) := ⟨_, Lib.hid rfl⟩
            obtain ⟨C0, hC0⟩ : ∃ S, Hid (strOf (callB ++ whoN true ++ [40] ++ onesB k) = S) := ⟨_, Lib.hid rfl⟩
            obtain ⟨D0, hD0⟩ : ∃ S, Hid (strOf (callB ++ whoN true ++ [40] ++ onesB k ++ [41, 59]) = S) := ⟨_, Lib.hid rfl⟩
            have s5 : ∀ w, (Op.stringOp .add ⟨#[99, 97, 108, 108, 32]⟩ ⟨#[105, 116]⟩).run Tryz.prog w = .ok (.string A0) w := fun w => by
              rw [← hA0.out]
              exact add_strs2 (callB) (whoN true) (by (try simp only [List.length_append]); omega) w
            have s6 : ∀ w, (Op.stringOp .add A0 ⟨#[40]⟩).run Tryz.prog w = .ok (.string B0) w := fun w => by
              rw [← hA0.out, ← hB0.out]
              exact add_strs2 (callB ++ whoN true) ([40]) (by (try simp only [List.length_append]); omega) w
            have s7 : ∀ w, (Op.stringOp .add B0 SO).run Tryz.prog w = .ok (.string C0) w := fun w => by
              rw [← hB0.out, ← hSO.out, ← hC0.out]
              exact add_strs2 (callB ++ whoN true ++ [40]) (onesB k) (by (try simp only [List.length_append]); omega) w
            have s8 : ∀ w, (Op.stringOp .add C0 ⟨#[41, 59]⟩).run Tryz.prog w = .ok (.string D0) w := fun w => by
              rw [← hC0.out, ← hD0.out]
              exact add_strs2 (callB ++ whoN true ++ [40] ++ onesB k) ([41, 59]) (by (try simp only [List.length_append]); omega) w
            obtain ⟨A1, hA1⟩ : ∃ S, Hid (strOf (spawnB ++ whoN true) = S) := ⟨_, Lib.hid rfl⟩
            obtain ⟨B1, hB1⟩ : ∃ S, Hid (strOf (spawnB ++ whoN true ++ [40]) = S) := ⟨_, Lib.hid rfl⟩
            obtain ⟨C1, hC1⟩ : ∃ S, Hid (strOf (spawnB ++ whoN true ++ [40] ++ onesB k) = S) := ⟨_, Lib.hid rfl⟩
            obtain ⟨D1, hD1⟩ : ∃ S, Hid (strOf (spawnB ++ whoN true ++ [40] ++ onesB k ++ [41, 59]) = S) := ⟨_, Lib.hid rfl⟩
            have s9 : ∀ w, (Op.stringOp .add ⟨#[115, 112, 97, 119, 110, 32]⟩ ⟨#[105, 116]⟩).run Tryz.prog w = .ok (.string A1) w := fun w => by
              rw [← hA1.out]
              exact add_strs2 (spawnB) (whoN true) (by (try simp only [List.length_append]); omega) w
            have s10 : ∀ w, (Op.stringOp .add A1 ⟨#[40]⟩).run Tryz.prog w = .ok (.string B1) w := fun w => by
              rw [← hA1.out, ← hB1.out]
              exact add_strs2 (spawnB ++ whoN true) ([40]) (by (try simp only [List.length_append]); omega) w
            have s11 : ∀ w, (Op.stringOp .add B1 SO).run Tryz.prog w = .ok (.string C1) w := fun w => by
              rw [← hB1.out, ← hSO.out, ← hC1.out]
              exact add_strs2 (spawnB ++ whoN true ++ [40]) (onesB k) (by (try simp only [List.length_append]); omega) w
            have s12 : ∀ w, (Op.stringOp .add C1 ⟨#[41, 59]⟩).run Tryz.prog w = .ok (.string D1) w := fun w => by
              rw [← hC1.out, ← hD1.out]
              exact add_strs2 (spawnB ++ whoN true ++ [40] ++ onesB k) ([41, 59]) (by (try simp only [List.length_append]); omega) w
            obtain ⟨A2, hA2⟩ : ∃ S, Hid (strOf (becomeB ++ whoN true) = S) := ⟨_, Lib.hid rfl⟩
            obtain ⟨B2, hB2⟩ : ∃ S, Hid (strOf (becomeB ++ whoN true ++ [40]) = S) := ⟨_, Lib.hid rfl⟩
            obtain ⟨C2, hC2⟩ : ∃ S, Hid (strOf (becomeB ++ whoN true ++ [40] ++ onesB k) = S) := ⟨_, Lib.hid rfl⟩
            obtain ⟨D2, hD2⟩ : ∃ S, Hid (strOf (becomeB ++ whoN true ++ [40] ++ onesB k ++ [41, 59]) = S) := ⟨_, Lib.hid rfl⟩
            have s13 : ∀ w, (Op.stringOp .add ⟨#[98, 101, 99, 111, 109, 101, 32]⟩ ⟨#[105, 116]⟩).run Tryz.prog w = .ok (.string A2) w := fun w => by
              rw [← hA2.out]
              exact add_strs2 (becomeB) (whoN true) (by (try simp only [List.length_append]); omega) w
            have s14 : ∀ w, (Op.stringOp .add A2 ⟨#[40]⟩).run Tryz.prog w = .ok (.string B2) w := fun w => by
              rw [← hA2.out, ← hB2.out]
              exact add_strs2 (becomeB ++ whoN true) ([40]) (by (try simp only [List.length_append]); omega) w
            have s15 : ∀ w, (Op.stringOp .add B2 SO).run Tryz.prog w = .ok (.string C2) w := fun w => by
              rw [← hB2.out, ← hSO.out, ← hC2.out]
              exact add_strs2 (becomeB ++ whoN true ++ [40]) (onesB k) (by (try simp only [List.length_append]); omega) w
            have s16 : ∀ w, (Op.stringOp .add C2 ⟨#[41, 59]⟩).run Tryz.prog w = .ok (.string D2) w := fun w => by
              rw [← hC2.out, ← hD2.out]
              exact add_strs2 (becomeB ++ whoN true ++ [40] ++ onesB k) ([41, 59]) (by (try simp only [List.length_append]); omega) w
            obtain ⟨Z1, hZ1⟩ : ∃ S, Hid (strOf (actIt ++ jnB (namesA n) ++ tailA ++ (becomeB ++ whoN true ++ [40] ++ onesB k ++ [41, 59])) = S) := ⟨_, Lib.hid rfl⟩
            obtain ⟨Z2, hZ2⟩ : ∃ S, Hid (strOf (actIt ++ jnB (namesA n) ++ tailA ++ (becomeB ++ whoN true ++ [40] ++ onesB k ++ [41, 59]) ++ endA) = S) := ⟨_, Lib.hid rfl⟩
            have s17 : ∀ w, (Op.stringOp .add H1 D2).run Tryz.prog w = .ok (.string Z1) w := fun w => by
              rw [← hH1.out, ← hD2.out, ← hZ1.out]
              exact add_strs2 (actIt ++ jnB (namesA n) ++ tailA) (becomeB ++ whoN true ++ [40] ++ onesB k ++ [41, 59]) (by (try simp only [List.length_append]); omega) w
            have s18 : ∀ w, (Op.stringOp .add Z1 ⟨#[32, 125, 32, 125]⟩).run Tryz.prog w = .ok (.string Z2) w := fun w => by
              rw [← hZ1.out, ← hZ2.out]
              exact add_strs2 (actIt ++ jnB (namesA n) ++ tailA ++ (becomeB ++ whoN true ++ [40] ++ onesB k ++ [41, 59])) (endA) (by (try simp only [List.length_append]); omega) w
            have HFA := Lib.hid (fun (w' : World) (hw : Wt w') => fault_any (headA 2 n ++ useB 2 true k ++ endA) t8 tl hfa Z2 hZ2.out.symm w' hw)
            have HJ := Lib.hid (fun w' (hb : Below wr.heap.size wr w') => join_any w' w.heap.size _ _ (HO.out.below hb) (by omega) (by rw [namesA_len]; omega))
            rw [hSJ.out] at HJ
            rw [hSO.out] at HSO
            have hv' : (x : Int) % 3 = 2 := hv
            clear hv t8 tl hfa lj lo lt le l40 lk0 lk1 lv0 lv1 lv2 lw hSJ hSO hK0 hH0 hK1 hH1 hA0 hB0 hC0 hD0 hA1 hB1 hC1 hD1 hA2 hB2 hC2 hD2 hZ1 hZ2
            clear HO
            have HR : Hid (Below wr.heap.size wr wr) := Lib.hid (Below.refl _ _)
            go_wp2_with fail
            refine (HJ.out _ HR.out).mono ?_
            rintro e w1 ⟨rfl, hb1⟩
            have HK1 := Lib.hid (HK.out.trans (hb1.mono HK.out.size))
            have HR1 := Lib.hid (HR.out.trans (hb1.mono HR.out.size))
            clear hb1
            go_wp2_with fail
            refine (HSO.out _).mono ?_
            rintro e w2 ⟨rfl, hb2⟩
            have HK2 := Lib.hid (HK1.out.trans (hb2.mono HK1.out.size))
            have HR2 := Lib.hid (HR1.out.trans (hb2.mono HR1.out.size))
            clear hb2
            go_wp2_with fail
            refine (HJ.out _ HR2.out).mono ?_
            rintro e w3 ⟨rfl, hb3⟩
            have HK3 := Lib.hid (HK2.out.trans (hb3.mono HK2.out.size))
            have HR3 := Lib.hid (HR2.out.trans (hb3.mono HR2.out.size))
            clear hb3
            go_wp2_with fail
            refine (HSO.out _).mono ?_
            rintro e w4 ⟨rfl, hb4⟩
            have HK4 := Lib.hid (HK3.out.trans (hb4.mono HK3.out.size))
            have HR4 := Lib.hid (HR3.out.trans (hb4.mono HR3.out.size))
            clear hb4
            go_wp2_with fail
            refine (HSO.out _).mono ?_
            rintro e w5 ⟨rfl, hb5⟩
            have HK5 := Lib.hid (HK4.out.trans (hb5.mono HK4.out.size))
            have HR5 := Lib.hid (HR4.out.trans (hb5.mono HR4.out.size))
            clear hb5
            clear HJ HSO HR HR1 HR2 HR3 HR4 HR5
            go_wp2_with fail
            have hq := Lib.hid (heap_new w5 (.cells #[.int .i64 111, .int .i64 2] 29))
            have c0 : (w5.alloc (.cells #[.int .i64 111, .int .i64 2] 29)).cell? ⟨w5.heap.size, 0, none⟩ = some (.int .i64 111) := cell_block hq.out 0
            have c1 : (w5.alloc (.cells #[.int .i64 111, .int .i64 2] 29)).cell? ⟨w5.heap.size, 1, none⟩ = some (.int .i64 2) := cell_block hq.out 1
            have HKA := Lib.hid (HK5.out.alloc HK5.out.size (.cells #[.int .i64 111, .int .i64 2] 29))
            have hgl : w5.heap.size < (w5.alloc (.cells #[.int .i64 111, .int .i64 2] 29)).heap.size := by simp
            obtain ⟨WX, hWX⟩ : ∃ W, Hid (w5.alloc (.cells #[.int .i64 111, .int .i64 2] 29) = W) := ⟨_, Lib.hid rfl⟩
            rw [hWX.out] at c0 c1 HKA hgl ⊢
            clear hq hWX
            go_region_held3 (fun w' => w'.cell? ⟨w5.heap.size, 0, none⟩ = some (.int .i64 111) ∧ w'.cell? ⟨w5.heap.size, 1, none⟩ = some (.int .i64 2)) (go_keep)
              (first
                | (go_at_call 37
                   refine (HFA.out _ (HW0.out.below (below_drewN HKA.out _))).mono ?_
                   rintro e wa ⟨rfl, hba⟩
                   have HKB := Lib.hid ((below_drewN HKA.out _).trans (hba.mono HKA.out.size))
                   have c2 := (hba.cell (p := ⟨w5.heap.size, 0, none⟩) hgl).trans c0
                   have c3 := (hba.cell (p := ⟨w5.heap.size, 1, none⟩) hgl).trans c1
                   have hgm : w5.heap.size < wa.heap.size := Nat.lt_of_lt_of_le hgl hba.size
                   clear hba)
                | (go_at_call 32
                   refine (HAW.out _ (HW0.out.below HKB.out)).mono ?_
                   rintro e wb ⟨rfl, hbb⟩
                   have HKC := Lib.hid (HKB.out.trans (hbb.mono HKB.out.size))
                   have c4 := (hbb.cell (p := ⟨w5.heap.size, 0, none⟩) hgm).trans c2
                   have c5 := (hbb.cell (p := ⟨w5.heap.size, 1, none⟩) hgm).trans c3
                   clear hbb)
                | (fail))
            all_goals (go_wp2_with fail; go_ret; exact ⟨rfl, HKC.out⟩)
    | succ g =>
      have h1 : (j : Int) < (n : Int) := by omega
      obtain ⟨Av, cv, rfl, -⟩ := HO.out.form
      obtain ⟨S1, hS1⟩ : ∃ S, Hid (strOf [97 + j] = S) := ⟨_, Lib.hid rfl⟩
      obtain ⟨V, hV⟩ : ∃ S, Hid (strOf (nma j) = S) := ⟨_, Lib.hid rfl⟩
      have hcv : (convert 66 9 (.slice (some ⟨wr.heap.size, 0, none⟩) 1 1)).run Tryz.prog (wr.alloc (.cells #[.int .u8 (97 + (j : Int))] 5)) = .ok (.string S1) (wr.alloc (.cells #[.int .u8 (97 + (j : Int))] 5)) := by
        rw [show (97 + (j : Int)) = ((97 + j : Nat) : Int) by omega, ← hS1.out]
        exact run_strOf _ (wr.heap.size + 1) _ 1 [97 + j] (At.made wr #[.int .u8 ((97 + j : Nat) : Int)] 5) (by
          intro x hx
          simp at hx
          omega)
      have ad : ∀ w, (Op.stringOp .add ⟨#[112]⟩ S1).run Tryz.prog w = .ok (.string V) w := fun w => by
        rw [← hS1.out, ← hV.out]
        exact add_strs2 [112] [97 + j] (by simp) w
      have hjn : (namesA j).length ≤ 200 := by rw [namesA_len]; omega
      have HO1 := Lib.hid (HO.out.below ((Below.refl wr.heap.size wr).alloc (Nat.le_refl _) (.cells #[.int .u8 (97 + (j : Int))] 5)))
      have HK1 := Lib.hid (HK.out.trans (((Below.refl wr.heap.size wr).alloc (Nat.le_refl _) (.cells #[.int .u8 (97 + (j : Int))] 5)).mono hszr))
      have hs1 : w.heap.size ≤ (wr.alloc (.cells #[.int .u8 (97 + (j : Int))] 5)).heap.size := HK1.out.size
      obtain ⟨L, hL⟩ : ∃ L, Hid (namesA j = L) := ⟨_, Lib.hid rfl⟩
      rw [hL.out] at HO HO1 hjn ⊢
      have d1 : (97 : Int) + (j : Int) < 200 := by omega
      have hat := At.made (wr.alloc (.cells #[.int .u8 (97 + (j : Int))] 5)) #[.string V] 9
      rw [show (wr.alloc (.cells #[.int .u8 (97 + (j : Int))] 5)).heap.size = wr.heap.size + 1 by simp] at hat
      have HAT := Lib.hid hat
      clear hS1 hat
      go_wp2_with (first
        | (at_builtin
           refine wpList_append_at _ rfl (.tmp 33) (.tmp 40) 41 rfl w.heap.size 9 i0 _ 1 16 Tryz.underlying41 HI.out.1 HI.out.2.1 HI.out.2.2.1 HI.out.2.2.2 rfl (by omega) _ _ _ rfl (HO1.out.below ((Below.refl _ _).alloc (Nat.le_refl _) _)) _ _ 1 1 [.string V] rfl HAT.out rfl (by intro u hu; simp at hu; subst hu; rfl) (by unfold maxLen; omega) (by omega) (by simp; omega) ?_
           intro v' w2 ho2 hg2 hor2
           have HO2 : Hid (OwnS w2 w.heap.size v' (namesA (j + 1))) := Lib.hid (by
             unfold OwnS
             rw [namesA_succ, List.length_append, List.map_append, hL.out]
             simpa [hV.out] using ho2)
           have HK2 : Hid (Below w.heap.size w w2) := Lib.hid (by
             have h2 := HO1.out.below ((Below.refl _ (wr.alloc (.cells #[.int .u8 (97 + (j : Int))] 5))).alloc (Nat.le_refl _) (.cells #[.string V] 9))
             exact HK1.out.trans (((Below.refl _ _).alloc hs1 _).grown hg2 (by simp; omega) (fun k hk => (World.ownsRow.lt h2 k hk).1)))
           obtain ⟨A2, c2, rfl, -⟩ := HO2.out.form
           clear ho2 hg2 hor2)
        | (fail))
      go_roundg g
      case measure => omega
      case rel => exact ⟨j + 1, by omega, by go_num, HO2, HK2⟩

set_option maxRecDepth 100000 in
theorem lifted (os : Os) (started : os.Started) (H : Type) (enc : TypeId × Value → H) :
    ReturnsInHanded {} Tryz.checked os 10 .any (fun w args => (Rows.checkAritySpec.pre enc Tryz.prog Tryz.f10 [] false w args ∧ laidMetH Tryz.prog laidW w) ∧ sizedMet enc Tryz.prog Tryz.f10 (OpenSpec.ofChange Rows.checkAritySpec) false w args) (Rows.checkAritySpec.post enc Tryz.prog Tryz.f10 false true false false) := by
  refine returnsInHanded_of_change_and (C := Tryz.checked) (X := fun w _ => laidMetH Tryz.prog laidW w) (fun _ _ _ hh h => h.of_heap hh) knob_own started (by kernel_rfl) Tryz.func10
    (ChangeSpec.witness_shaped (enc := enc) (C := Tryz.checked) (os := os) (X := fun w _ => laidMetH Tryz.prog laidW w) false (World.doorLaid Tryz.prog 400 os) #[.int .u8 0, .int .u8 0, .agg #[.int .u8 0, .int .u8 0]] 8 rfl (World.shaped_of_RefB (by kernel_rfl) (by kernel_rfl)) (by kernel_rfl) (by kernel_rfl) (by kernel_rfl) (doorW_met os _)) ?_
  intro W base args ds gs before hval0 hW _ _ hL _
  have hval : ∀ (j : Nat) t v, Tryz.f10.params[j]? = some t → args[j]? = some v → Value.okWide Tryz.prog W .any base t v := hval0
  have hW' := hW
  obtain ⟨p, q, hA0, hV, rfl, hfz, hnd⟩ := hW
  have hA : DataW.TrodAll enc Tryz.prog W 0 (fun _ => true) true Tryz.f10.params.toList args.toList ds p := hA0
  rw [Tryz.params10] at hA hval
  obtain ⟨v0, vs0, d0, ds0, p0, q0, hargs, rfl, rfl, h0, r0⟩ := trodAll_cons hA
  obtain ⟨v1, vs1, d1, ds1, p1, q1, rfl, rfl, rfl, h1, r1⟩ := trodAll_cons r0
  obtain ⟨v2, vs2, d2, ds2, p2, q2, rfl, rfl, rfl, h2, r2⟩ := trodAll_cons r1
  obtain ⟨rfl, rfl, rfl⟩ := trodAll_nil r2
  obtain rfl : args = #[v0, v1, v2] := by cases args; simp_all
  obtain ⟨rfl, rfl⟩ := trodVars_none hV
  have lt0 : ∀ x ∈ p0, x.block < W.heap.size := by obtain ⟨m, hm⟩ := h0; exact DataW.trod_lt m _ _ _ hm
  have k0 := h0
  obtain ⟨a0, rfl, _, _, w0⟩ := open_int Tryz.underlying5 (hval 0 5 v0 rfl rfl) h0
  have lt1 : ∀ x ∈ p1, x.block < W.heap.size := by obtain ⟨m, hm⟩ := h1; exact DataW.trod_lt m _ _ _ hm
  have k1 := h1
  obtain ⟨a1, rfl, _, _, w1⟩ := open_int Tryz.underlying5 (hval 1 5 v1 rfl rfl) h1
  have k2 := h2
  have lt2 : ∀ x ∈ p2, x.block < W.heap.size := by obtain ⟨m, hm⟩ := k2; exact DataW.trod_lt m _ _ _ hm
  obtain ⟨x2, y2, rfl, w2⟩ := arr2_open (hval 2 65 v2 rfl rfl) h2
  clear hA0 hval0
  refine (walk W (wt_laid hL) a0 a1 x2 y2 w0 w1 w2).mono fun e W' ⟨he, bel⟩ => ?_
  subst he
  exact ⟨_, rfl, _, _, _, [], _, [], hW', trodAll_mk1 (shut_bool Tryz.underlying4 _), (trodAll_cons_mk (Below.trod laid_out (by kernel_rfl) (of_decide_eq_true (by kernel_rfl)) k0 bel lt0) (trodAll_cons_mk (Below.trod laid_out (by kernel_rfl) (of_decide_eq_true (by kernel_rfl)) k1 bel lt1) (trodAll_cons_mk (Below.trod laid_out (by kernel_rfl) (of_decide_eq_true (by kernel_rfl)) k2 bel lt2) (trodAll_mk0)))), rfl, bel.frame _, fun h => by cases h⟩

theorem over : Rows.checkArityRow.holds Tryz.pinned (OpenSpec.ofChange Rows.checkAritySpec) :=
  OpenClaim.holds_of_wide 10 Tryz.f10 rfl rfl rfl rfl rfl rfl rfl ⟨rfl, rfl, rfl, rfl, rfl⟩ rfl rfl rfl rfl rfl (by kernel_rfl) Tryz.func10 (by kernel_rfl)
    (of_decide_eq_true (by kernel_rfl)) (by unfold Func.isWrapper; first | (rw [if_pos (by decide +kernel)]; kernel_rfl) | (rw [if_neg (by decide +kernel)]; exact ⟨rfl, rfl⟩))
    (fun os started H enc _ => lifted os started H enc)

theorem proved : Rows.CheckArityCardSaid :=
  Claim7.holds_tied_plain_at .later [] [.data, .data, .data, .sentinel, .sentinel, .data] true Rows.checkArityCard.stood.harness Rows.checkArityCard.stood.looks
    over (fun _ h => by cases h) (by kernel_rfl) (fun _ h => by cases h) checkArity_row_tie rfl ⟨rfl, rfl⟩ (by kernel_rfl) rfl
    (fun f fn hf hfn => by
      obtain rfl : f = 10 := Option.some.inj ((show Tryz.prog.funcNamed "drover/droverlaw10.CheckArity" = some 10 by kernel_rfl).symm.trans hf) |>.symm
      obtain rfl : fn = Tryz.f10 := (Option.some.inj (Tryz.func10.symm.trans hfn)).symm
      exact ⟨by kernel_rfl, fun j t ht => by
        have hall : (Tryz.f10.params.toList.all fun u => !Tryz.prog.wantsStandIn u) = true := by kernel_rfl
        have hm : t ∈ Tryz.f10.params.toList := Array.mem_toList_iff.2 (Array.mem_of_getElem? ht)
        exact (show Tryz.prog.wantsStandIn t = false by simpa using List.all_eq_true.1 hall t hm)⟩)
    (by kernel_rfl)
end Go.Proofs.YtpakjjefbholdaaGreatDoor.checkArity
