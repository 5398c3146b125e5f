/- droverlaw08.WordsInts returns true whatever its arguments: the digits of any number are an int that is it; one digit too many is none. For every input, without conditions. -/
import Derived.Test.YtndppffaijcjdaaDoorRow
import Derived.Test.YtndppffaijcjdaaDoorWl
import Derived.Test.YtndppffaijcjdaaDoorDoor08
import Derived.Test.YtndppffaijcjdaaDoorCards
import Derived.SevenTiedAt
import Derived.Test.YtndppffaijcjdaaDoorWm
import Derived.Test.YtndppffaijcjdaaDoorShelfB
import Derived.IntWalk
import Derived.Deep.RegionHeld3
namespace Go.Proofs.YtndppffaijcjdaaDoor.wordsInts
open Go.ChangeShapes Go.WideShapes Go.ChangeAt Go.RowKit
set_option linter.unusedVariables false

theorem dvA_app : ∀ (l m : List Nat) (a : Nat), dvA a (l ++ m) = dvA (dvA a l) m := fun l m a => by unfold dvA; rw [List.foldl_append]
theorem dvA_pow : ∀ (l : List Nat) (a : Nat), dvA a l = a * 10 ^ l.length + dvA 0 l
  | [], a => by simp [dvA]
  | x :: r, a => by
    have h1 := dvA_pow r (10 * a + (x - 48))
    have h2 := dvA_pow r (10 * 0 + (x - 48))
    have e1 : dvA a (x :: r) = dvA (10 * a + (x - 48)) r := rfl
    have e2 : dvA 0 (x :: r) = dvA (10 * 0 + (x - 48)) r := rfl
    rw [e1, e2, h1, h2, List.length_cons, Nat.pow_succ]
    simp only [Nat.mul_zero, Nat.zero_add, Nat.add_mul]
    rw [Nat.mul_comm 10 a, Nat.mul_assoc, Nat.mul_comm (10 ^ r.length) 10]
    omega
theorem tw_self {p : Nat → Bool} : ∀ (l : List Nat), (∀ x ∈ l, p x = true) → l.takeWhile p = l
  | [], _ => rfl
  | x :: r, h => by rw [List.takeWhile_cons, if_pos (h x (by simp)), tw_self r (fun y hy => h y (by simp [hy]))]
theorem dv_zero : ∀ z : Nat, dvA 0 (List.replicate z 48) = 0
  | 0 => rfl
  | z + 1 => dv_zero z
theorem dval_dvA (l : List Nat) : dval l = dvA 0 l := rfl
/-- A text of digits is one int, or none. -/
theorem nxt_digits (D : List Nat) (hd : ∀ x ∈ D, dig x = true) (hne : D ≠ []) (hl : D.length ≤ 1000) :
    nxtV D 0 = if dval D ≤ 9223372036854775807 then ansV 1 ⟨#[]⟩ (dval D) 1 0 D.length 0 0 else ansV 0 ⟨#[]⟩ 0 0 0 0 100 1 := by
  have hp : pas false D = 0 := by
    match D, hne with
    | x :: r, _ =>
      have hx : 48 ≤ x ∧ x ≤ 57 := by simpa [dig] using hd x (by simp)
      have h1 : pasB false x = false := by simp [pasB]; omega
      have h2 : blk x = false := by simp [blk]; omega
      rw [pas, h1, h2]
      rfl
  have e1 : atW D 0 = 0 := by unfold atW; rw [List.drop_zero, hp]
  have e2 : lnW D 0 = 1 := by unfold lnW; rw [e1]; rfl
  have e3 : D.takeWhile dig = D := tw_self D hd
  have e4 : tok D = num D := by
    match D, hne with
    | x :: r, _ => unfold tok; simp only; rw [if_pos (hd x (by simp))]
  unfold nxtV
  rw [if_neg (by omega), if_neg (by omega)]
  simp only [Int.toNat_zero]
  rw [e1, e2, List.drop_zero, e4]
  unfold num
  rw [e3]
  by_cases h : dval D ≤ 9223372036854775807
  · rw [if_pos h, if_pos h]
    simp [ansV, wrdV, flt, strOf]
  · rw [if_neg h, if_neg h]
    simp [ansV, w0, flt]
theorem rep_str (z : Nat) : (⟨(Lib.repeatL (⟨#[48]⟩ : ByteArray).data.toList z).toArray⟩ : ByteArray) = strOf (List.replicate z 48) := by
  apply ByteArray.ext
  have : ∀ z, Lib.repeatL [48] z = (List.replicate z 48).map UInt8.ofNat := by
    intro z
    induction z with
    | zero => rfl
    | succ z ih => rw [List.replicate_succ, List.map_cons, ← ih]; rfl
  simp [strOf, this]
def CutN (s : Value) (v : Nat) : Prop := s = .int .i64 (v : Int)
def lenOf (v : Value) : Nat := match v with | .slice _ n _ => n | _ => 0
def DigI (v : Nat) (l : List Nat) (k : Nat) : Prop := k ≤ v ∧ l.length ≤ 19 ∧ k * 10 ^ l.length + dvA 0 l = v ∧ (∀ x ∈ l, dig x = true)
theorem DigI.step {v k : Nat} {l : List Nat} (h : DigI v l k) (hv : v ≤ 9223372036854775807) (hc : 0 < k ∨ l = []) : DigI v ([48 + k % 10] ++ l) (k / 10) := by
  obtain ⟨h1, h2, h3, h4⟩ := h
  refine ⟨by omega, ?_, ?_, ?_⟩
  · rcases hc with hk | rfl
    · have h5 : 10 ^ l.length ≤ v := Nat.le_trans (Nat.le_mul_of_pos_left _ hk) (by omega)
      have h6 : l.length < 19 := by
        refine Nat.lt_of_not_le fun h => ?_
        have : 10 ^ 19 ≤ 10 ^ l.length := Nat.pow_le_pow_right (by decide) h
        have : (10 : Nat) ^ 19 = 10000000000000000000 := by decide
        omega
      rw [List.length_append, List.length_singleton]
      omega
    · simp
  · rw [List.length_append, List.length_singleton, List.singleton_append]
    have e : dvA 0 ((48 + k % 10) :: l) = dvA (k % 10) l := by
      show dvA (10 * 0 + (48 + k % 10 - 48)) l = _
      congr 1
      omega
    rw [e, dvA_pow l (k % 10), Nat.add_comm 1, Nat.pow_succ, ← h3, Nat.mul_comm (10 ^ l.length) 10, ← Nat.mul_assoc, ← Nat.add_assoc, ← Nat.add_mul]
    congr 2
    omega
  · intro x hx
    rcases List.mem_append.1 hx with hx | hx
    · rw [List.mem_singleton.1 hx]
      simp [dig]
      omega
    · exact h4 x hx

set_option maxRecDepth 100000 in
set_option maxHeartbeats 4000000 in
theorem walk (w : World) (htab : Wt w) (a0 : Int) (a1 : Int) (w0 : (Lit.int .i64 a0).wf = true) (w1 : (Lit.int .u8 a1).wf = true) :
    Calls Tryd.prog 6 #[.int .i64 a0, .int .u8 a1] w fun e w' => e = .returned (.bool true) ∧ Below w.heap.size w w' := by
  have HW0 := Lib.hid htab
  have HAW := Lib.hid (fun w hw => awake08_any w hw)
  obtain ⟨z, rfl, hz⟩ := wf_u8 w1
  have hb := wf_i64 w0
  clear htab w0 w1
  go_enter Tryd.func6, Tryd.ntmps6
  go_upto_if 14 with (fail)
  go_cut [0] (fun s wx => ∃ v : Nat, v ≤ 9223372036854775807 ∧ s = .int .i64 (v : Int) ∧ w = wx)
  case first =>
    by_cases h : a0 < 0
    · have d0 : decide (a0 < 0) = true := decide_eq_true h
      go_wp2_with fail
      go_meet
      exact ⟨(-(a0 + 1)).toNat, by omega, congrArg (Value.int .i64) (by omega), rfl⟩
    · have d0 : decide (a0 < 0) = false := decide_eq_false h
      go_wp2_with fail
      go_meet
      exact ⟨a0.toNat, by omega, congrArg (Value.int .i64) (by omega), rfl⟩
  case rest =>
    obtain ⟨v, hv, rfl, rfl⟩ := hcut
    clear hb
    go_wp2_with fail
    go_loopw [5, 6] (fun dv k wr => ∃ (l : List Nat) (n : Nat), k = .int .i64 (n : Int) ∧ n ≤ 9223372036854775807 ∧ lenOf dv = l.length ∧ Hid (Own wr w.heap.size dv l ∧ DigI v l n ∧ Below w.heap.size w wr)) (fun dv _ _ => 20 - lenOf dv)
    case atStart => exact ⟨[], v, rfl, hv, rfl, Lib.hid ⟨Own.nil _ _, ⟨by omega, by simp, by simp [dvA], by simp⟩, Below.refl _ _⟩⟩
    case round =>
      obtain ⟨l, k, rfl, hkb, hll, HJ⟩ := hrel
      obtain ⟨A, c, hdv, hlc, -, hat, -, -⟩ := HJ.out.1.form
      subst hdv
      clear hll
      have HLC := Lib.hid hlc
      have HAT := Lib.hid hat
      clear hat
      have hl19 := HJ.out.2.1.2.1
      by_cases hc : 0 < k ∨ l = []
      · have HST := Lib.hid (HJ.out.2.1.step hv hc)
        have em : (k : Int) % 10 = ((k % 10 : Nat) : Int) := by omega
        have eq : (k : Int) / 10 = ((k / 10 : Nat) : Int) := by omega
        obtain ⟨d, hd⟩ : ∃ d, Hid (k % 10 = d) := ⟨_, Lib.hid rfl⟩
        obtain ⟨q, hq⟩ : ∃ q, Hid (k / 10 = q) := ⟨_, Lib.hid rfl⟩
        have hd10 : d < 10 := by have := hd.out; omega
        have hqb : q ≤ 9223372036854775807 := by have := hq.out; omega
        rw [hd.out] at em HST
        rw [hq.out] at eq HST
        have es : (48 : Int) + (d : Int) = ((48 + d : Nat) : Int) := by omega
        have esm : ((48 + d : Nat) : Int) % 256 = ((48 + d : Nat) : Int) := by omega
        obtain ⟨x, hx⟩ : ∃ x, Hid (48 + d = x) := ⟨_, Lib.hid rfl⟩
        rw [hx.out] at es esm HST
        have HBB : Hid (w.heap.size ≤ wr.heap.size) := Lib.hid HJ.out.2.2.size
        by_cases hk : 0 < k
        · have d1 : decide ((0 : Int) < (k : Int)) = true := decide_eq_true (by omega)
          have d1' : decide (0 < k) = true := decide_eq_true hk
          clear hc
          go_wp2_with (first
            | (at_builtin
               refine wpList_app (base := wr.heap.size) (l := [x]) (news := l) rfl (.tmp 32) (.tmp 33) rfl rfl (own_lit wr #[.int .u8 (x : Int)] [x] 1 rfl rfl (by omega)) rfl (HAT.out.alloc (Nat.le_refl _) _) rfl (by simp only [List.length_singleton]; omega) (by simp) ?_
               intro v2 w2 ho2 hb2 _ _
               have HO2 := Lib.hid (ho2.mono HBB.out)
               have HB2 := Lib.hid (HJ.out.2.2.trans (((Below.refl _ _).alloc (Nat.le_refl _) _).trans hb2 |>.mono HBB.out))
               obtain ⟨A2, c2, hv2, -⟩ := ho2.form
               have HLE : Hid (lenOf v2 = ([x] ++ l).length) := Lib.hid (by rw [hv2]; rfl)
               clear ho2 hb2 hv2)
            | (fail))
          go_roundw
          case rel => exact ⟨[x] ++ l, q, rfl, hqb, HLE.out, Lib.hid ⟨HO2.out, HST.out, HB2.out⟩⟩
          case measure =>
            rw [HLE.out]
            simp only [lenOf, List.length_append, List.length_singleton]
            omega
        · have d1 : decide ((0 : Int) < (k : Int)) = false := decide_eq_false (by omega)
          have d1' : decide (0 < k) = false := decide_eq_false hk
          have hl0 : l = [] := hc.resolve_left hk
          have d2 : ((l.length : Int) == 0) = true := by rw [hl0]; rfl
          have d2' : (l.length == 0) = true := by rw [hl0]; rfl
          clear hc hl0
          go_wp2_with (first
            | (at_builtin
               refine wpList_app (base := wr.heap.size) (l := [x]) (news := l) rfl (.tmp 32) (.tmp 33) rfl rfl (own_lit wr #[.int .u8 (x : Int)] [x] 1 rfl rfl (by omega)) rfl (HAT.out.alloc (Nat.le_refl _) _) rfl (by simp only [List.length_singleton]; omega) (by simp) ?_
               intro v2 w2 ho2 hb2 _ _
               have HO2 := Lib.hid (ho2.mono HBB.out)
               have HB2 := Lib.hid (HJ.out.2.2.trans (((Below.refl _ _).alloc (Nat.le_refl _) _).trans hb2 |>.mono HBB.out))
               obtain ⟨A2, c2, hv2, -⟩ := ho2.form
               have HLE : Hid (lenOf v2 = ([x] ++ l).length) := Lib.hid (by rw [hv2]; rfl)
               clear ho2 hb2 hv2)
            | (fail))
          go_roundw
          case rel => exact ⟨[x] ++ l, q, rfl, hqb, HLE.out, Lib.hid ⟨HO2.out, HST.out, HB2.out⟩⟩
          case measure =>
            rw [HLE.out]
            simp only [lenOf, List.length_append, List.length_singleton]
            omega
      · obtain rfl : k = 0 := by omega
        have hne : l ≠ [] := fun h => hc (.inr h)
        have hpos : 0 < l.length := List.length_pos_iff.2 hne
        have d2 : ((l.length : Int) == 0) = false := beq_eq_false_iff_ne.2 (by omega)
        have d2' : (l.length == 0) = false := beq_eq_false_iff_ne.2 (by omega)
        have hdl : dval l = v := by have := HJ.out.2.1.2.2.1; rw [Nat.zero_mul, Nat.zero_add] at this; exact this
        have hdd := HJ.out.2.1.2.2.2
        have ez : (z : Int) % 31 = ((z % 31 : Nat) : Int) := by omega
        obtain ⟨y, hy⟩ : ∃ y, Hid (z % 31 = y) := ⟨_, Lib.hid rfl⟩
        have hy31 : y < 31 := by have := hy.out; omega
        rw [hy.out] at ez
        have HEW := Lib.hid (show IntKind.i64.wrap (y : Int) = (y : Int) from IntWalk.i64_in _ (by omega))
        have et : (z : Int).tmod 31 = (y : Int) := (Int.tmod_eq_emod_of_nonneg (by omega)).trans ez
        obtain ⟨D, hD⟩ : ∃ D, Hid (List.replicate y 48 ++ l = D) := ⟨_, Lib.hid rfl⟩
        have hDl : D.length = y + l.length := by rw [← hD.out]; simp
        have hDd : ∀ x ∈ D, dig x = true := by
          rw [← hD.out]
          intro x hx
          rcases List.mem_append.1 hx with hx | hx
          · rw [List.eq_of_mem_replicate hx]; rfl
          · exact hdd x hx
        have hDv : dval D = v := by rw [← hD.out, dval_dvA, dvA_app, dv_zero]; exact hdl
        have hD0 : D ≠ [] := by intro h; rw [h] at hDl; simp at hDl; omega
        have hD9 : dval (D ++ [57]) = 10 * v + 9 := by rw [dval_dvA, dvA_app, ← dval_dvA, hDv]; rfl
        have b8 : ∀ E : List Nat, (∀ x ∈ E, dig x = true) → ∀ x ∈ E, x < 256 := fun E h x hx => by have := h x hx; simp [dig] at this; omega
        have n1 := nxt_digits D hDd hD0 (by omega)
        rw [hDv, if_pos hv] at n1
        have hDd9 : ∀ x ∈ D ++ [57], dig x = true := by
          intro x hx
          rcases List.mem_append.1 hx with hx | hx
          · exact hDd x hx
          · rw [List.mem_singleton.1 hx]; rfl
        have n2 := nxt_digits (D ++ [57]) hDd9 (by simp) (by rw [List.length_append, List.length_singleton]; omega)
        rw [hD9] at n2
        have HN := Lib.hid (fun w hw => next_ans n1 (b8 D hDd) (by omega) w hw)
        have HN2 := Lib.hid (fun V (hV : nxtV (D ++ [57]) 0 = V) w hw => next_ans hV (b8 _ hDd9) (by rw [List.length_append, List.length_singleton]; omega) w hw)
        have HRP := Lib.hid (fun w => show Calls Tryd.prog 16 #[.string ⟨#[48]⟩, .int .i64 (y : Int)] w fun e w' => e = .returned (.string (strOf (List.replicate y 48))) ∧ Below w.heap.size w w' by
          refine (Tryd.strings_Repeat ⟨#[48]⟩ y w (by omega) (by show 1 * y ≤ _; omega)).mono ?_
          rintro e w' ⟨rfl, hb⟩
          exact ⟨by rw [rep_str], hb⟩)
        have a1 := add_strs (List.replicate y 48) l (by rw [List.length_replicate]; omega)
        have a2 := add_strs D [57] (by rw [List.length_singleton]; omega)
        have HCV := Lib.hid (fun (w' : World) (h : Below wr.heap.size wr w') => show (convert 36 9 (.slice A l.length c)).run Tryd.prog w' = .ok (.string (strOf l)) w' from run_strOf w' _ A c l (HAT.out.below h) (b8 l hdd))
        have zD : (strOf D).size = D.length := strOf_size _
        rw [hD.out] at a1
        rw [← zD] at HN
        unfold ansV at HN
        rw [show (strOf [57] : ByteArray) = ⟨#[57]⟩ from rfl] at a2
        obtain ⟨S1, hS1⟩ : ∃ S, Hid (strOf (List.replicate y 48) = S) := ⟨_, Lib.hid rfl⟩
        obtain ⟨S2, hS2⟩ : ∃ S, Hid (strOf l = S) := ⟨_, Lib.hid rfl⟩
        obtain ⟨S3, hS3⟩ : ∃ S, Hid (strOf D = S) := ⟨_, Lib.hid rfl⟩
        obtain ⟨S4, hS4⟩ : ∃ S, Hid (strOf (D ++ [57]) = S) := ⟨_, Lib.hid rfl⟩
        rw [hS1.out] at a1 HRP
        rw [hS2.out] at a1 HCV
        rw [hS3.out] at a1 a2 HN zD
        rw [hS4.out] at a2 HN2
        have hz3 : S3.size ≤ 1000 := by omega
        have HB := Lib.hid HJ.out.2.2
        clear hc hne hdl hdd hDl hDd hDv hD0 hD9 b8 n1 hDd9 zD hlc HLC
        obtain ⟨k2, D2, m2, l2, at2, e2, er, fl, hV2, her⟩ : ∃ (k : Nat) (S : ByteArray) (n ln m e er fl : Nat), nxtV (D ++ [57]) 0 = ansV k S n ln m e er fl ∧ (er = 0 ↔ v < 922337203685477580) := by
          by_cases h : 10 * v + 9 ≤ 9223372036854775807
          · rw [if_pos h] at n2
            exact ⟨_, _, _, _, _, _, _, _, n2, by omega⟩
          · rw [if_neg h] at n2
            exact ⟨_, _, _, _, _, _, _, _, n2, by omega⟩
        have HM := Lib.hid (HN2.out _ hV2)
        unfold ansV at HM
        clear n2 hV2 HN2
        by_cases hfit : v < 922337203685477580
        · have f1 : decide ((v : Int) < 922337203685477580) = true := decide_eq_true (by omega)
          have f1' : decide (v < 922337203685477580) = true := decide_eq_true hfit
          have f2 : ((er : Int) == 0) = true := by rw [her.2 hfit]; rfl
          clear her hfit
          go_wp2_with fail
          have hcv0 := HCV.out wr.drew (below_drewN (Below.refl _ _) 1)
          have hew := HEW.out
          go_region_held3 (fun w' => (convert 36 9 (.slice A l.length c)).run Tryd.prog w' = .ok (.string S2) w') (go_keep)
            (first
              | (go_at_call 16
                 with_reducible refine (HRP.out _).mono ?_
                 rintro e w1 ⟨he, hb⟩
                 subst he
                 have HB1 := Lib.hid (HB.out.trans ((of_drew hb).mono HB.out.size))
                 have hcv1 := HCV.out w1 (of_drew hb)
                 clear hb)
              | (fail))
          all_goals
            have HW1 := Lib.hid (HW0.out.below HB1.out)
            clear hcv0 hcv1 hew
            go_wp2_with fail
            refine (HN.out _ HW1.out).mono ?_
            rintro e w2 ⟨he, hb⟩
            subst he
            have HB2 := Lib.hid (HB1.out.trans (hb.mono HB1.out.size))
            have HW2 := Lib.hid (HW1.out.below hb)
            clear hb
            have HX2 := Lib.hid (HB2.out.trans ((two w2 (.cells #[.int .u8 ((1 : Nat) : Int), .string ⟨#[]⟩, .int .i64 (v : Int), .int .i64 ((1 : Nat) : Int), .int .i64 ((0 : Nat) : Int), .int .i64 (S3.size : Int)] 24) (.cells #[.int .i64 ((0 : Nat) : Int), .int .i64 ((0 : Nat) : Int)] 27)).mono HB2.out.size))
            have HY2 := Lib.hid (HW2.out.below (two w2 (.cells #[.int .u8 ((1 : Nat) : Int), .string ⟨#[]⟩, .int .i64 (v : Int), .int .i64 ((1 : Nat) : Int), .int .i64 ((0 : Nat) : Int), .int .i64 (S3.size : Int)] 24) (.cells #[.int .i64 ((0 : Nat) : Int), .int .i64 ((0 : Nat) : Int)] 27)))
            go_wp2_with fail
            refine (HM.out _ HY2.out).mono ?_
            rintro e w3 ⟨he, hb⟩
            subst he
            have HB3 := Lib.hid (HX2.out.trans (hb.mono HX2.out.size))
            have HW3 := Lib.hid (HY2.out.below hb)
            clear hb
            have HX3 := Lib.hid (HB3.out.trans ((two w3 (.cells #[.int .u8 (k2 : Int), .string D2, .int .i64 (m2 : Int), .int .i64 (l2 : Int), .int .i64 (at2 : Int), .int .i64 (e2 : Int)] 24) (.cells #[.int .i64 (er : Int), .int .i64 (fl : Int)] 27)).mono HB3.out.size))
            have HY3 := Lib.hid (HW3.out.below (two w3 (.cells #[.int .u8 (k2 : Int), .string D2, .int .i64 (m2 : Int), .int .i64 (l2 : Int), .int .i64 (at2 : Int), .int .i64 (e2 : Int)] 24) (.cells #[.int .i64 (er : Int), .int .i64 (fl : Int)] 27)))
            go_wp2_with fail
            refine (HAW.out _ HY3.out).mono ?_
            rintro e w4 ⟨he, hb⟩
            subst he
            have HB4 := Lib.hid (HX3.out.trans (hb.mono HX3.out.size))
            clear hb
            go_wp2_with fail
            go_ret
            exact ⟨rfl, HB4.out⟩
        · have f1 : decide ((v : Int) < 922337203685477580) = false := decide_eq_false (by omega)
          have f1' : decide (v < 922337203685477580) = false := decide_eq_false hfit
          have f2 : ((er : Int) == 0) = false := beq_eq_false_iff_ne.2 (by omega)
          obtain ⟨bq, hbq⟩ : ∃ b, ((v : Int) == 922337203685477580) = b := ⟨_, rfl⟩
          clear her hfit
          go_wp2_with fail
          have hcv0 := HCV.out wr.drew (below_drewN (Below.refl _ _) 1)
          have hew := HEW.out
          go_region_held3 (fun w' => (convert 36 9 (.slice A l.length c)).run Tryd.prog w' = .ok (.string S2) w') (go_keep)
            (first
              | (go_at_call 16
                 with_reducible refine (HRP.out _).mono ?_
                 rintro e w1 ⟨he, hb⟩
                 subst he
                 have HB1 := Lib.hid (HB.out.trans ((of_drew hb).mono HB.out.size))
                 have hcv1 := HCV.out w1 (of_drew hb)
                 clear hb)
              | (fail))
          all_goals
            have HW1 := Lib.hid (HW0.out.below HB1.out)
            clear hcv0 hcv1 hew
            go_wp2_with fail
            refine (HN.out _ HW1.out).mono ?_
            rintro e w2 ⟨he, hb⟩
            subst he
            have HB2 := Lib.hid (HB1.out.trans (hb.mono HB1.out.size))
            have HW2 := Lib.hid (HW1.out.below hb)
            clear hb
            have HX2 := Lib.hid (HB2.out.trans ((two w2 (.cells #[.int .u8 ((1 : Nat) : Int), .string ⟨#[]⟩, .int .i64 (v : Int), .int .i64 ((1 : Nat) : Int), .int .i64 ((0 : Nat) : Int), .int .i64 (S3.size : Int)] 24) (.cells #[.int .i64 ((0 : Nat) : Int), .int .i64 ((0 : Nat) : Int)] 27)).mono HB2.out.size))
            have HY2 := Lib.hid (HW2.out.below (two w2 (.cells #[.int .u8 ((1 : Nat) : Int), .string ⟨#[]⟩, .int .i64 (v : Int), .int .i64 ((1 : Nat) : Int), .int .i64 ((0 : Nat) : Int), .int .i64 (S3.size : Int)] 24) (.cells #[.int .i64 ((0 : Nat) : Int), .int .i64 ((0 : Nat) : Int)] 27)))
            go_wp2_with fail
            refine (HM.out _ HY2.out).mono ?_
            rintro e w3 ⟨he, hb⟩
            subst he
            have HB3 := Lib.hid (HX2.out.trans (hb.mono HX2.out.size))
            have HW3 := Lib.hid (HY2.out.below hb)
            clear hb
            have HX3 := Lib.hid (HB3.out.trans ((two w3 (.cells #[.int .u8 (k2 : Int), .string D2, .int .i64 (m2 : Int), .int .i64 (l2 : Int), .int .i64 (at2 : Int), .int .i64 (e2 : Int)] 24) (.cells #[.int .i64 (er : Int), .int .i64 (fl : Int)] 27)).mono HB3.out.size))
            have HY3 := Lib.hid (HW3.out.below (two w3 (.cells #[.int .u8 (k2 : Int), .string D2, .int .i64 (m2 : Int), .int .i64 (l2 : Int), .int .i64 (at2 : Int), .int .i64 (e2 : Int)] 24) (.cells #[.int .i64 (er : Int), .int .i64 (fl : Int)] 27)))
            go_wp2_with fail
            refine (HAW.out _ HY3.out).mono ?_
            rintro e w4 ⟨he, hb⟩
            subst he
            have HB4 := Lib.hid (HX3.out.trans (hb.mono HX3.out.size))
            clear hb
            go_wp2_with fail
            go_ret
            exact ⟨rfl, HB4.out⟩

set_option maxRecDepth 100000 in
theorem lifted (os : Os) (started : os.Started) (H : Type) (enc : TypeId × Value → H) :
    ReturnsInHanded {} Tryd.checked os 6 .any (fun w args => (Rows.wordsIntsSpec.pre enc Tryd.prog Tryd.f6 [] false w args ∧ laidMetH Tryd.prog laidW w) ∧ sizedMet enc Tryd.prog Tryd.f6 (OpenSpec.ofChange Rows.wordsIntsSpec) false w args) (Rows.wordsIntsSpec.post enc Tryd.prog Tryd.f6 false true false false) := by
  refine returnsInHanded_of_change_and (C := Tryd.checked) (X := fun w _ => laidMetH Tryd.prog laidW w) (fun _ _ _ hh h => h.of_heap hh) knob_own started (by kernel_rfl) Tryd.func6
    (ChangeSpec.witness_shaped (enc := enc) (C := Tryd.checked) (os := os) (X := fun w _ => laidMetH Tryd.prog laidW w) false (World.doorLaid Tryd.prog 400 os) #[.int .i64 0, .int .u8 0] 8 rfl (World.shaped_of_RefB (by kernel_rfl) (by kernel_rfl)) (by kernel_rfl) (by kernel_rfl) (by kernel_rfl) (doorW_met os _)) ?_
  intro W base args ds gs before hval0 hW _ _ hL _
  have hval : ∀ (j : Nat) t v, Tryd.f6.params[j]? = some t → args[j]? = some v → Value.okWide Tryd.prog W .any base t v := hval0
  have hW' := hW
  obtain ⟨p, q, hA0, hV, rfl, hfz, hnd⟩ := hW
  have hA : DataW.TrodAll enc Tryd.prog W 0 (fun _ => true) true Tryd.f6.params.toList args.toList ds p := hA0
  rw [Tryd.params6] at hA hval
  obtain ⟨v0, vs0, d0, ds0, p0, q0, hargs, rfl, rfl, h0, r0⟩ := trodAll_cons hA
  obtain ⟨v1, vs1, d1, ds1, p1, q1, rfl, rfl, rfl, h1, r1⟩ := trodAll_cons r0
  obtain ⟨rfl, rfl, rfl⟩ := trodAll_nil r1
  obtain rfl : args = #[v0, v1] := by cases args; simp_all
  obtain ⟨rfl, rfl⟩ := trodVars_none hV
  have lt0 : ∀ x ∈ p0, x.block < W.heap.size := by obtain ⟨m, hm⟩ := h0; exact DataW.trod_lt m _ _ _ hm
  have k0 := h0
  obtain ⟨a0, rfl, _, _, w0⟩ := open_int Tryd.underlying2 (hval 0 2 v0 rfl rfl) h0
  have lt1 : ∀ x ∈ p1, x.block < W.heap.size := by obtain ⟨m, hm⟩ := h1; exact DataW.trod_lt m _ _ _ hm
  have k1 := h1
  obtain ⟨a1, rfl, _, _, w1⟩ := open_int Tryd.underlying5 (hval 1 5 v1 rfl rfl) h1
  clear hA0 hval0
  refine (walk W (wt_laid hL) a0 a1 w0 w1).mono fun e W' ⟨he, bel⟩ => ?_
  subst he
  exact ⟨_, rfl, _, _, _, [], _, [], hW', trodAll_mk1 (shut_bool Tryd.underlying4 _), (trodAll_cons_mk (Below.trod laid_out (by kernel_rfl) (of_decide_eq_true (by kernel_rfl)) k0 bel lt0) (trodAll_cons_mk (Below.trod laid_out (by kernel_rfl) (of_decide_eq_true (by kernel_rfl)) k1 bel lt1) (trodAll_mk0))), rfl, bel.frame _, fun h => by cases h⟩

theorem over : Rows.wordsIntsRow.holds Tryd.pinned (OpenSpec.ofChange Rows.wordsIntsSpec) :=
  OpenClaim.holds_of_wide 6 Tryd.f6 rfl rfl rfl rfl rfl rfl rfl ⟨rfl, rfl, rfl, rfl, rfl⟩ rfl rfl rfl rfl rfl (by kernel_rfl) Tryd.func6 (by kernel_rfl)
    (of_decide_eq_true (by kernel_rfl)) (by unfold Func.isWrapper; first | (rw [if_pos (by decide +kernel)]; kernel_rfl) | (rw [if_neg (by decide +kernel)]; exact ⟨rfl, rfl⟩))
    (fun os started H enc _ => lifted os started H enc)

theorem proved : Rows.WordsIntsCardSaid :=
  Claim7.holds_tied_plain_at .later [] [.data, .data, .data, .sentinel, .sentinel, .data] true Rows.wordsIntsCard.stood.harness Rows.wordsIntsCard.stood.looks
    over (fun _ h => by cases h) (by kernel_rfl) (fun _ h => by cases h) wordsInts_row_tie rfl ⟨rfl, rfl⟩ (by kernel_rfl) rfl
    (fun f fn hf hfn => by
      obtain rfl : f = 6 := Option.some.inj ((show Tryd.prog.funcNamed "drover/droverlaw08.WordsInts" = some 6 by kernel_rfl).symm.trans hf) |>.symm
      obtain rfl : fn = Tryd.f6 := (Option.some.inj (Tryd.func6.symm.trans hfn)).symm
      exact ⟨by kernel_rfl, fun j t ht => by
        have hall : (Tryd.f6.params.toList.all fun u => !Tryd.prog.wantsStandIn u) = true := by kernel_rfl
        have hm : t ∈ Tryd.f6.params.toList := Array.mem_toList_iff.2 (Array.mem_of_getElem? ht)
        exact (show Tryd.prog.wantsStandIn t = false by simpa using List.all_eq_true.1 hall t hm)⟩)
    (by kernel_rfl)
end Go.Proofs.YtndppffaijcjdaaDoor.wordsInts
