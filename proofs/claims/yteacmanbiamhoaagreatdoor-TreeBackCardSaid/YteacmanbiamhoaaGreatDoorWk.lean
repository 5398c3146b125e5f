/- Package words: Quote: the walk. -/
import Derived.Test.YteacmanbiamhoaaGreatDoorWc
import Derived.Test.YteacmanbiamhoaaGreatDoorOwn2
import Derived.Laws.OwnMore
import Derived.Deep.RegionLaw
namespace Go.Proofs.YteacmanbiamhoaaGreatDoor
open Go.RowKit
set_option linter.unusedVariables false

theorem quo_conv (l : List Nat) (w : World) (base : Nat) (v : Value) (h : Own w base v l) (h8 : ∀ x ∈ l, x < 256) : (convert 118 9 v).run Tryz.prog w = .ok (.string (strOf l)) w := by
  obtain ⟨A, c, rfl, _, _, ha, _, _⟩ := h.form
  exact run_strOf w _ A c l ha h8
def hexS : ByteArray := ⟨#[48, 49, 50, 51, 52, 53, 54, 55, 56, 57, 97, 98, 99, 100, 101, 102]⟩
theorem hex_at : ∀ (k : Nat) (h : k < hexS.size), (hexS[k]'h).toNat = hx k := by
  have h : ∀ k : Fin 16, (hexS[k.val]'k.isLt).toNat = hx k.val := by decide +kernel
  intro k hk
  exact h ⟨k, hk⟩
theorem and15 : ∀ x : Nat, x < 256 → bits BinOp.and IntKind.u8 (x : Int) 15 = ((x % 16 : Nat) : Int) := by
  have h : ∀ x : Fin 256, bits BinOp.and IntKind.u8 (x.val : Int) 15 = ((x.val % 16 : Nat) : Int) := by decide +kernel
  intro x hx
  exact h ⟨x, hx⟩
theorem own_lit (w : World) (arr : Array Value) (l : List Nat) (n : Nat) (he : arr.toList = bv l) (hn : l.length = n) (hm : n ≤ 1099511627776) : Own (w.alloc (.cells arr 5)) w.heap.size (.slice (some ⟨w.heap.size, 0, none⟩) n n) l := by
  have hs : arr.size = n := by rw [← hn, ← bv_length l, ← he]; simp
  have := World.ownsRow_lit (e := 5) (size := 1) (base := w.heap.size) w arr n (Nat.le_refl _) (by unfold maxLen; omega) (by omega)
  unfold Own
  rw [hn, ← he]
  exact this
theorem quo_step {T : List Nat} {j : Nat} (h : j < T.length) : (34 :: (T.take (j + 1)).flatMap qw) = (34 :: (T.take j).flatMap qw) ++ qw T[j] := by
  rw [List.take_succ_eq_append_getElem h, List.flatMap_append]
  simp
set_option maxRecDepth 100000 in
set_option maxHeartbeats 4000000 in
theorem quote_any (T : List Nat) (h8 : ∀ x ∈ T, x < 256) (hn : T.length ≤ 1099511627776) (w : World) : Calls Tryz.prog 299 #[.string (strOf T)] w fun e w' => e = .returned (.string (strOf (quoW T))) ∧ Below w.heap.size w w' := by
  have HS := Lib.hid (strIs T h8)
  generalize strOf T = S at *
  have hz := HS.out.1
  obtain ⟨n, hnn⟩ : ∃ n, Hid (T.length = n) := ⟨_, Lib.hid rfl⟩
  rw [hnn.out] at hz hn
  have H8 := Lib.hid h8
  obtain ⟨B, hB⟩ : ∃ B, Hid (w.heap.size = B) := ⟨_, Lib.hid rfl⟩
  rw [hB.out]
  clear h8
  go_enter Tryz.func299, Tryz.ntmps299
  go_wp2_with fail
  go_loopw [3, 9] (fun v i wr => ∃ j : Nat, j ≤ n ∧ i = .int .i64 (j : Int) ∧ Hid (Own wr B v (34 :: (T.take j).flatMap qw) ∧ Below B w wr)) (fun _ i _ => n - (intOf i).toNat)
  case atStart =>
    refine ⟨0, by omega, rfl, Lib.hid ⟨?_, ?_⟩⟩
    · rw [← hB.out]
      exact own_lit w #[.int .u8 34] [34] 1 rfl rfl (by omega)
    · rw [← hB.out]
      exact (Below.refl _ w).alloc (Nat.le_refl _) _
  case round =>
    obtain ⟨j, hj, rfl, HJ⟩ := hrel
    by_cases hjn : j < n
    · have hjS : j < S.size := by omega
      have hjT : j < T.length := by rw [hnn.out]; exact hjn
      have hxS := HS.out.2 j hjT hjS
      have hx8 : T[j] < 256 := H8.out _ (List.getElem_mem hjT)
      have HST := Lib.hid (quo_step hjT)
      generalize T[j] = x at *
      have HL : Hid ((34 :: (T.take j).flatMap qw).length + 4 ≤ 8796093022208 ∧ B ≤ wr.heap.size) := Lib.hid (by
        have h1 : ∀ l : List Nat, (l.flatMap qw).length ≤ 4 * l.length := by
          intro l
          induction l with
          | nil => simp
          | cons x r ih =>
            have := qw_len x
            simp only [List.flatMap_cons, List.length_append, List.length_cons]
            omega
        have h2 := h1 (T.take j)
        have h3 : (T.take j).length ≤ j := List.length_take_le _ _
        refine ⟨by simp only [List.length_cons]; omega, by have := HJ.out.2.size; have := hB.out; omega⟩)
      obtain ⟨l, hl⟩ : ∃ l, Hid ((34 :: (T.take j).flatMap qw) = l) := ⟨_, Lib.hid rfl⟩
      rw [hl.out] at HJ HST HL
      by_cases hq : x = 34 ∨ x = 92
      · have HQ : Hid (qw x = [92, x]) := Lib.hid (by unfold qw; rw [if_pos hq])
        rw [HQ.out] at HST
        have HA := Lib.hid (At.made wr #[.int .u8 92, .int .u8 (x : Int)] 5)
        rcases hq with rfl | rfl
        all_goals
          go_wp2_with (first
            | (at_builtin
               refine wpList_app (news := [92, _]) rfl (.tmp 31) (.tmp 33) rfl rfl (HJ.out.1.alloc _) rfl (At.made _ _ _) rfl (by have := HL.out.1; omega) (by have := HL.out.2; simp; omega) ?_
               intro v2 w2 ho2 hb2 _ _
               have HO2 := Lib.hid ho2
               have HB2 := Lib.hid ((HJ.out.2.alloc HL.out.2 _).trans hb2)
               clear ho2 hb2)
            | (fail))
          go_roundw
          case rel => exact ⟨j + 1, by omega, by go_num, Lib.hid ⟨by rw [HST.out]; exact HO2.out, HB2.out⟩⟩
          case measure => simp [intOf]; omega
      · have d34 : ((x : Int) == 34) = false := beq_eq_false_iff_ne.2 (by omega)
        have d92 : ((x : Int) == 92) = false := beq_eq_false_iff_ne.2 (by omega)
        by_cases h10 : x = 10
        · have HQ : Hid (qw x = [92, 110]) := Lib.hid (by unfold qw; rw [if_neg hq, if_pos h10])
          rw [HQ.out] at HST
          subst h10
          go_wp2_with (first
            | (at_builtin
               refine wpList_app (news := [92, 110]) rfl (.tmp 38) (.tmp 39) rfl rfl (HJ.out.1.alloc _) rfl (At.made _ _ _) rfl (by have := HL.out.1; omega) (by have := HL.out.2; simp; omega) ?_
               intro v2 w2 ho2 hb2 _ _
               have HO2 := Lib.hid ho2
               have HB2 := Lib.hid ((HJ.out.2.alloc HL.out.2 _).trans hb2)
               clear ho2 hb2)
            | (fail))
          go_roundw
          case rel => exact ⟨j + 1, by omega, by go_num, Lib.hid ⟨by rw [HST.out]; exact HO2.out, HB2.out⟩⟩
          case measure => simp [intOf]; omega
        · have d10 : ((x : Int) == 10) = false := beq_eq_false_iff_ne.2 (by omega)
          by_cases hp : 32 ≤ x ∧ x ≤ 126
          · have HQ : Hid (qw x = [x]) := Lib.hid (by unfold qw; rw [if_neg hq, if_neg h10, if_pos hp])
            rw [HQ.out] at HST
            have p0 : decide ((32 : Int) ≤ (x : Int)) = true := decide_eq_true (by omega)
            have p1 : decide ((x : Int) ≤ 126) = true := decide_eq_true (by omega)
            go_wp2_with (first
              | (at_builtin
                 refine wpList_app (news := [x]) rfl (.tmp 48) (.tmp 50) rfl rfl (HJ.out.1.alloc _) rfl (At.made _ _ _) rfl (by have := HL.out.1; omega) (by have := HL.out.2; simp; omega) ?_
                 intro v2 w2 ho2 hb2 _ _
                 have HO2 := Lib.hid ho2
                 have HB2 := Lib.hid ((HJ.out.2.alloc HL.out.2 _).trans hb2)
                 clear ho2 hb2)
              | (fail))
            go_roundw
            case rel => exact ⟨j + 1, by omega, by go_num, Lib.hid ⟨by rw [HST.out]; exact HO2.out, HB2.out⟩⟩
            case measure => simp [intOf]; omega
          · have HQ : Hid (qw x = [92, 120, hx (x / 16), hx (x % 16)]) := Lib.hid (by unfold qw; rw [if_neg hq, if_neg h10, if_neg hp])
            rw [HQ.out] at HST
            have HH := Lib.hid hex_at
            have e1 : (x : Int) / 16 = ((x / 16 : Nat) : Int) := by omega
            have e2 := and15 x hx8
            obtain ⟨p, hp16⟩ : ∃ p, Hid (x / 16 = p) := ⟨_, Lib.hid rfl⟩
            obtain ⟨q, hq16⟩ : ∃ q, Hid (x % 16 = q) := ⟨_, Lib.hid rfl⟩
            have lp : p < 16 := by have := hp16.out; omega
            have lq : q < 16 := by have := hq16.out; omega
            have ip : (p : Int) < 16 := by omega
            have iq : (q : Int) < 16 := by omega
            rw [hp16.out] at e1 HST
            rw [hq16.out] at e2 HST
            have v1 : (({ data := #[48, 49, 50, 51, 52, 53, 54, 55, 56, 57, 97, 98, 99, 100, 101, 102] } : ByteArray)[p]'lp).toNat = hx p := hex_at p lp
            have v2 : (({ data := #[48, 49, 50, 51, 52, 53, 54, 55, 56, 57, 97, 98, 99, 100, 101, 102] } : ByteArray)[q]'lq).toNat = hx q := hex_at q lq
            obtain ⟨hp1, hh1⟩ : ∃ a, Hid (hx p = a) := ⟨_, Lib.hid rfl⟩
            obtain ⟨hq1, hh2⟩ : ∃ a, Hid (hx q = a) := ⟨_, Lib.hid rfl⟩
            rw [hh1.out] at v1 HST
            rw [hh2.out] at v2 HST
            by_cases p0 : 32 ≤ x
            · have p1 : decide ((32 : Int) ≤ (x : Int)) = true := decide_eq_true (by omega)
              have p2 : decide ((x : Int) ≤ 126) = false := decide_eq_false (by omega)
              go_wp2_with fail
              go_region_law (
                refine step_app (news := [92, 120, hp1, hq1]) rfl (.tmp 15) (.tmp 22) rfl rfl (HJ.out.1.drew.alloc _) rfl (At.made _ _ _) rfl (by have := HL.out.1; omega) (by have := HL.out.2; simp; omega) ?_
                intro v2 w2 ho2 hb2
                have HO2 := Lib.hid ho2
                have HB2 := Lib.hid ((HJ.out.2.drew.alloc HL.out.2 _).trans hb2)
                clear ho2 hb2)
              all_goals
                go_wp2_with fail
                go_roundw
                case rel => exact ⟨j + 1, by omega, by go_num, Lib.hid ⟨by rw [HST.out]; exact HO2.out, HB2.out⟩⟩
                case measure => simp [intOf]; omega
            · have p1 : decide ((32 : Int) ≤ (x : Int)) = false := decide_eq_false (by omega)
              go_wp2_with fail
              go_region_law (
                refine step_app (news := [92, 120, hp1, hq1]) rfl (.tmp 15) (.tmp 22) rfl rfl (HJ.out.1.drew.alloc _) rfl (At.made _ _ _) rfl (by have := HL.out.1; omega) (by have := HL.out.2; simp; omega) ?_
                intro v2 w2 ho2 hb2
                have HO2 := Lib.hid ho2
                have HB2 := Lib.hid ((HJ.out.2.drew.alloc HL.out.2 _).trans hb2)
                clear ho2 hb2)
              all_goals
                go_wp2_with fail
                go_roundw
                case rel => exact ⟨j + 1, by omega, by go_num, Lib.hid ⟨by rw [HST.out]; exact HO2.out, HB2.out⟩⟩
                case measure => simp [intOf]; omega
    · obtain rfl : j = n := by omega
      have HT : Hid (T.take j = T) := Lib.hid (List.take_of_length_le (by rw [hnn.out]; omega))
      have HL2 : Hid ((34 :: T.flatMap qw).length + 1 ≤ 8796093022208 ∧ B ≤ wr.heap.size) := Lib.hid (by
        have h1 := (quoW_len T).2
        unfold quoW at h1
        rw [hnn.out] at h1
        refine ⟨by simp only [List.length_cons, List.length_append] at h1 ⊢; omega, by have := HJ.out.2.size; have := hB.out; omega⟩)
      rw [HT.out] at HJ
      have HQ8 : Hid (∀ y ∈ quoW T, y < 256) := Lib.hid (fun y hy => by have := quoW_bytes T H8.out y hy; omega)
      obtain ⟨l, hl⟩ : ∃ l, Hid ((34 :: T.flatMap qw) = l) := ⟨_, Lib.hid rfl⟩
      rw [hl.out] at HJ HL2
      have HE : Hid (quoW T = l ++ [34]) := Lib.hid (by rw [← hl.out]; rfl)
      rw [HE.out] at HQ8
      go_wp2_with (first
        | (at_builtin
           refine wpList_app (news := [34]) rfl (.tmp 53) (.tmp 54) rfl rfl (HJ.out.1.alloc _) rfl (At.made _ _ _) rfl (by have := HL2.out.1; omega) (by have := HL2.out.2; simp; omega) ?_
           intro v2 w2 ho2 hb2 _ _
           have HO2 := Lib.hid ho2
           have HB2 := Lib.hid ((HJ.out.2.alloc HL2.out.2 _).trans hb2)
           have hcv := quo_conv _ w2 B v2 ho2 HQ8.out
           clear ho2 hb2)
        | (fail))
      go_ret
      exact ⟨by rw [HE.out]; rfl, HB2.out⟩
end Go.Proofs.YteacmanbiamhoaaGreatDoor
