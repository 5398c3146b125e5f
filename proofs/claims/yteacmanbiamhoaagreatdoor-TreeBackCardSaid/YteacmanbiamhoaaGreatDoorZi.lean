/- droverkit.hugeStmts: the walk. -/
import Derived.Test.YteacmanbiamhoaaGreatDoorZh
namespace Go.Proofs.YteacmanbiamhoaaGreatDoor
open Go.RowKit
set_option linter.unusedVariables false

def nxHY (many : Int) (lv : Nat) (el : List Sm) : Option Int → Option Int
  | none => none
  | some n2 => hgSs many lv el n2
def nxHX (many : Int) (lv : Nat) (bd el : List Sm) : Option Int → Option Int
  | none => none
  | some n1 => nxHY many lv el (hgSs many lv bd n1)
theorem hgS_eq (many : Int) (lv : Nat) (k : Nat) (s : List Nat) (xs : List Ex) (bd el : List Sm) (ln : Int) (n : Int) (h : ¬ (many < n + 1 ∨ lv = 0 ∨ 1000 < s.length)) : hgS many lv (.mk k s xs bd el ln) n = nxHX many (lv - 1) bd el (hgEs many (lv - 1) xs (n + 1)) := by
  rw [hgS, if_neg h]
  cases hgEs many (lv - 1) xs (n + 1) with
  | none => rfl
  | some n1 =>
    dsimp only [nxHX]
    cases hgSs many (lv - 1) bd n1 <;> rfl
set_option maxRecDepth 100000 in
set_option maxHeartbeats 8000000 in
theorem hugestmts_step (q : Nat) (many : Int) (hm : many ≤ 1000000) (hm0 : 0 ≤ many) (lv : Nat) (hlv : lv ≤ 1000)
    (IH : 1 ≤ lv → ∀ (l : List Sm) (c : Int) (w : World) (S : Nat → Prop) (v : Value), (∀ b, S b → b < w.heap.size ∧ b ≠ q) → Rw w S (.row 6 (l.map Sm.nd)) v → Cn w q c → -9223372036854775808 ≤ c → c ≤ many → Calls Tryz.prog 119 #[v, .int .i64 ((lv : Int) - 1), .int .i64 many, .pointer (some ⟨q, 0, none⟩)] w (OutH q w (hgSs many (lv - 1) l c)))
    (l : List Sm) (c : Int) (w : World) (S : Nat → Prop) (v : Value) (hS : ∀ b, S b → b < w.heap.size ∧ b ≠ q) (hr : Rw w S (.row 6 (l.map Sm.nd)) v) (hc : Cn w q c) (hc1 : -9223372036854775808 ≤ c) (hc2 : c ≤ many) :
    Calls Tryz.prog 119 #[v, .int .i64 (lv : Int), .int .i64 many, .pointer (some ⟨q, 0, none⟩)] w (OutH q w (hgSs many lv l c)) := by
  rw [Rw] at hr
  obtain ⟨A, cp, rfl, hcp, hcpm, hr⟩ := hr
  rw [List.length_map] at hcp ⊢
  have HR := Lib.hid hr
  have HSS := Lib.hid hS
  have HC := Lib.hid hc
  have HIH := Lib.hid IH
  obtain ⟨n, hn⟩ : ∃ n, Hid (l.length = n) := ⟨_, Lib.hid rfl⟩
  rw [hn.out] at hcp ⊢
  obtain ⟨r, hrr⟩ : ∃ r, Hid (hgSs many lv l c = r) := ⟨_, Lib.hid rfl⟩
  rw [hrr.out]
  unfold maxLen at hcpm
  clear hr hS hc IH
  go_enter Tryz.func119, Tryz.ntmps119
  go_wp2_with fail
  go_loopg [9] n (fun g i wr => ∃ (j : Nat) (cj : Int), j + g = n ∧ i = .int .i64 (j : Int) ∧ Hid (hgSs many lv (l.drop j) cj = r) ∧ Hid (-9223372036854775808 ≤ cj ∧ cj ≤ many) ∧ Hid (Cn wr q cj) ∧ Hid (Kp q w wr))
  case atStart => exact ⟨0, c, by omega, rfl, Lib.hid (by rw [List.drop_zero]; exact hrr.out), Lib.hid ⟨hc1, hc2⟩, HC, Lib.hid (Kp.refl _ _)⟩
  case round =>
    obtain ⟨j, cj, hj, rfl, HF, HCL, HCJ, HKJ⟩ := hrel
    cases gk with
    | zero =>
      have h1 : ¬ (j : Int) < (n : Int) := by omega
      have HE : Hid (some cj = r) := Lib.hid (by rw [← HF.out, List.drop_eq_nil_of_le (by rw [hn.out]; omega), hgSs])
      clear HF HIH
      go_wp2_with fail
      go_ret
      exact ⟨by rw [← HE.out]; rfl, ⟨_, HCJ.out, fun c' h => by rw [← HE.out] at h; cases h; rfl⟩, HKJ.out⟩
    | succ g =>
      have h1 : (j : Int) < (n : Int) := by omega
      have hjl : j < l.length := by rw [hn.out]; omega
      obtain ⟨hcj0, hcj⟩ := HCL.out
      obtain ⟨b, o, vs, rfl, hSb, hvl, hrg, hx⟩ := HR.out.at j (Sm.nd l[j]) (by simp [hjl])
      have HD := Lib.hid (List.drop_eq_getElem_cons hjl)
      generalize l[j] = x at *
      obtain ⟨k, s, xs, bd, el, ln⟩ := x
      obtain ⟨u2, u3, u4, hv, -, -, r2, r3, r4⟩ := (Sm.rw k s xs bd el ln _).1 hx
      obtain ⟨A2, n2, c2, rfl⟩ := r2.rowf
      obtain ⟨A3, n3, c3, rfl⟩ := r3.rowf
      obtain ⟨A4, n4, c4, rfl⟩ := r4.rowf
      obtain ⟨X, hX⟩ : ∃ X, strOf s = X := ⟨_, rfl⟩
      have hXs : X.size = s.length := by rw [← hX, strOf_size]
      rw [hX] at hv
      obtain rfl := bx6v hv
      have hbs := HSS.out b hSb
      have HCE : Hid (∀ w', Kp q w w' → w'.cell? ⟨b, o + j * 6, none⟩ = some (.int .u8 (k : Int)) ∧ w'.cell? ⟨b, o + j * 6 + 1, none⟩ = some (.string X) ∧ w'.cell? ⟨b, o + j * 6 + 2, none⟩ = some (.slice A2 n2 c2) ∧ w'.cell? ⟨b, o + j * 6 + 3, none⟩ = some (.slice A3 n3 c3) ∧ w'.cell? ⟨b, o + j * 6 + 4, none⟩ = some (.slice A4 n4 c4) ∧ w'.cell? ⟨b, o + j * 6 + 5, none⟩ = some (.int .i64 ln)) := Lib.hid fun w' hk =>
        six_cells (fun i u hu => by
          have := hrg i u hu
          rw [Nat.zero_add] at this
          exact (hk.cellq (p := ⟨b, o + j * 6 + i, none⟩) hbs.1 hbs.2).trans this)
      have hup : ∀ w', Kp q w w' → ∀ b, S b → b < w'.heap.size ∧ b ≠ q := fun w' hk b hb => ⟨Nat.lt_of_lt_of_le (HSS.out b hb).1 hk.size, (HSS.out b hb).2⟩
      have HEX := Lib.hid (fun (h0 : 1 ≤ lv) w' (hk : Kp q w w') (cc : Int) (h' : Cn w' q cc) (hl0 : -9223372036854775808 ≤ cc) (hl : cc ≤ many) => by
        have := hugeexprs_any q many hm hm0 (lv - 1) (by omega) xs cc w' S (.slice A2 n2 c2) (hup w' hk) (Rw.keep (fun p hp => hk.cellq (HSS.out _ hp).1 (HSS.out _ hp).2) (fun _ h => h) _ _ r2) h' hl0 hl
        rw [show (((lv - 1 : Nat)) : Int) = (lv : Int) - 1 by omega] at this
        exact this)
      have HBD := Lib.hid (fun (h0 : 1 ≤ lv) w' (hk : Kp q w w') (cc : Int) (h' : Cn w' q cc) (hl0 : -9223372036854775808 ≤ cc) (hl : cc ≤ many) => HIH.out h0 bd cc w' S (.slice A3 n3 c3) (hup w' hk) (Rw.keep (fun p hp => hk.cellq (HSS.out _ hp).1 (HSS.out _ hp).2) (fun _ h => h) _ _ r3) h' hl0 hl)
      have HEL := Lib.hid (fun (h0 : 1 ≤ lv) w' (hk : Kp q w w') (cc : Int) (h' : Cn w' q cc) (hl0 : -9223372036854775808 ≤ cc) (hl : cc ≤ many) => HIH.out h0 el cc w' S (.slice A4 n4 c4) (hup w' hk) (Rw.keep (fun p hp => hk.cellq (HSS.out _ hp).1 (HSS.out _ hp).2) (fun _ h => h) _ _ r4) h' hl0 hl)
      obtain ⟨y0, y1, y2, y3, y4, y5⟩ := HCE.out wr HKJ.out
      have hbq : b ≠ q := hbs.2
      have hbq' : q ≠ b := fun e => hbq e.symm
      have c0 := cell_of_one HCJ.out
      have f0 := free_block HCJ.out 0
      have hqr := lt_heap HCJ.out
      have HF2 := Lib.hid (HF.out.symm.trans (by rw [HD.out, hgSs_cons]))
      have HCN := Lib.hid (HCJ.out.set (cj + 1))
      have HKN := Lib.hid (HKJ.out.set (p := ⟨q, 0, none⟩) rfl (.int .i64 (cj + 1)))
      obtain ⟨z, hz⟩ : ∃ z, X.size = z := ⟨_, rfl⟩
      have hzs : z = s.length := hz.symm.trans hXs
      clear hrg hx hv hX hXs hvl HF HD hjl r2 r3 r4 hup hbs HIH
      by_cases hA : many < cj + 1
      · have t1 : many < cj + 1 := by omega
        have t2 : decide (many < cj + 1) = true := decide_eq_true t1
        have HE : Hid (none = r) := Lib.hid (by rw [HF2.out, hgS, if_pos (.inl hA)]; rfl)
        clear hA HF2 hzs
        go_wp2_with fail
        go_ret
        exact ⟨by rw [← HE.out]; rfl, ⟨_, HCN.out, fun c' h => by rw [← HE.out] at h; cases h⟩, HKN.out⟩
      · have t1 : ¬ many < cj + 1 := by omega
        have t2 : decide (many < cj + 1) = false := decide_eq_false t1
        by_cases hB : lv = 0
        · have HE : Hid (none = r) := Lib.hid (by rw [HF2.out, hgS, if_pos (.inr (.inl hB))]; rfl)
          subst hB
          clear HF2 hzs hA
          go_wp2_with fail
          go_ret
          exact ⟨by rw [← HE.out]; rfl, ⟨_, HCN.out, fun c' h => by rw [← HE.out] at h; cases h⟩, HKN.out⟩
        · have t3 : ¬ (lv : Int) < 1 := by omega
          have t4 : decide ((lv : Int) < 1) = false := decide_eq_false t3
          by_cases hL : 1000 < z
          · have HE : Hid (none = r) := Lib.hid (by rw [HF2.out, hgS, if_pos (.inr (.inr (by omega)))]; rfl)
            have t5 : (1000 : Int) < (z : Int) := by omega
            have t6 : decide ((1000 : Int) < (z : Int)) = true := decide_eq_true t5
            clear HF2 hzs hA hB
            go_wp2_with fail
            go_ret
            exact ⟨by rw [← HE.out]; rfl, ⟨_, HCN.out, fun c' h => by rw [← HE.out] at h; cases h⟩, HKN.out⟩
          · have t5 : ¬ (1000 : Int) < (z : Int) := by omega
            have t6 : decide ((1000 : Int) < (z : Int)) = false := decide_eq_false t5
            have hlv1 : 1 ≤ lv := by omega
            have HS1 : Hid (hgS many lv (.mk k s xs bd el ln) cj = nxHX many (lv - 1) bd el (hgEs many (lv - 1) xs (cj + 1))) := Lib.hid (hgS_eq many lv k s xs bd el ln cj (by omega))
            have hcj1 : cj + 1 ≤ many := by omega
            have hcj2 : -9223372036854775808 ≤ cj + 1 := by omega
            have HI1 := Lib.hid (HEX.out hlv1 _ HKN.out (cj + 1) HCN.out hcj2 hcj1)
            obtain ⟨r1, hr1⟩ : ∃ r1, hgEs many (lv - 1) xs (cj + 1) = r1 := ⟨_, rfl⟩
            rw [hr1] at HI1 HS1
            have hb1 : ∀ n1, r1 = some n1 → -9223372036854775808 ≤ n1 ∧ n1 ≤ many := fun n1 h => by
              have h5 := ((hgE_ok _).2 xs (lv - 1) (cj + 1) n1 (Nat.lt_succ_self _) (hr1.trans h))
              omega
            have HLV := Lib.hid hlv1
            clear hr1 hzs hA hB hlv1 hcj1
            cases r1 with
            | none =>
              have HE : Hid (none = r) := Lib.hid (by rw [HF2.out, HS1.out]; rfl)
              clear HF2 HS1 hb1
              go_wp2_with (first
                | (go_at_call 183
                   refine HI1.out.mono ?_
                   rintro e w3 ⟨rfl, ⟨z3, hz3, hz3'⟩, hk3⟩
                   have HZ3 := Lib.hid hz3
                   have HE3 := Lib.hid hz3'
                   have HK3 := Lib.hid (HKN.out.trans hk3)
                   clear hz3 hz3' hk3 y0 y1 y2 y3 y4 y5
                   obtain ⟨y0, y1, y2, y3, y4, y5⟩ := HCE.out w3 HK3.out)
                | (fail))
              go_ret
              exact ⟨by rw [← HE.out]; rfl, ⟨_, HZ3.out, fun c' h => by rw [← HE.out] at h; cases h⟩, HK3.out⟩
            | some m1 =>
              have HM1 := Lib.hid (hb1 m1 rfl)
              obtain ⟨r2, hr2⟩ : ∃ r2, hgSs many (lv - 1) bd m1 = r2 := ⟨_, rfl⟩
              have HS2 : Hid (hgS many lv (.mk k s xs bd el ln) cj = nxHY many (lv - 1) el r2) := Lib.hid (by rw [HS1.out, ← hr2]; rfl)
              have hb2 : ∀ n2, r2 = some n2 → -9223372036854775808 ≤ n2 ∧ n2 ≤ many := fun n2 h => by
                have h5 := ((hgS_ok _).2 bd (lv - 1) m1 n2 (Nat.lt_succ_self _) (hr2.trans h))
                have h6 := HM1.out
                omega
              have HR2 := Lib.hid hr2
              clear hr2 HS1 hb1
              cases r2 with
              | none =>
                have HE : Hid (none = r) := Lib.hid (by rw [HF2.out, HS2.out]; rfl)
                clear HF2 HS2 hb2
                go_wp2_with (first
                  | (go_at_call 183
                     refine HI1.out.mono ?_
                     rintro e w3 ⟨rfl, ⟨z3, hz3, hz3'⟩, hk3⟩
                     have HZ3 := Lib.hid hz3
                     have HE3 := Lib.hid hz3'
                     have HK3 := Lib.hid (HKN.out.trans hk3)
                     clear hz3 hz3' hk3 y0 y1 y2 y3 y4 y5
                     obtain ⟨y0, y1, y2, y3, y4, y5⟩ := HCE.out w3 HK3.out)
                  | (go_at_call 119
                     (with_reducible show Calls _ _ #[.slice A3 n3 c3, _, _, _] _ _)
                     refine (HBD.out HLV.out w3 HK3.out m1 (by have := HE3.out m1 rfl; subst this; exact HZ3.out) HM1.out.1 HM1.out.2).mono ?_
                     rw [HR2.out]
                     rintro e w4 ⟨rfl, ⟨z4, hz4, hz4'⟩, hk4⟩
                     have HZ4 := Lib.hid hz4
                     have HE4 := Lib.hid hz4'
                     have HK4 := Lib.hid (HK3.out.trans hk4)
                     clear hz4 hz4' hk4 y0 y1 y2 y3 y4 y5
                     obtain ⟨y0, y1, y2, y3, y4, y5⟩ := HCE.out w4 HK4.out)
                  | (fail))
                go_ret
                exact ⟨by rw [← HE.out]; rfl, ⟨_, HZ4.out, fun c' h => by rw [← HE.out] at h; cases h⟩, HK4.out⟩
              | some m2 =>
                have HM2 := Lib.hid (hb2 m2 rfl)
                obtain ⟨r3, hr3⟩ : ∃ r3, hgSs many (lv - 1) el m2 = r3 := ⟨_, rfl⟩
                have HS3 : Hid (hgS many lv (.mk k s xs bd el ln) cj = r3) := Lib.hid (by rw [HS2.out]; exact hr3)
                have hb3 : ∀ n3, r3 = some n3 → -9223372036854775808 ≤ n3 ∧ n3 ≤ many := fun n3 h => by
                  have h5 := ((hgS_ok _).2 el (lv - 1) m2 n3 (Nat.lt_succ_self _) (hr3.trans h))
                  have h6 := HM2.out
                  omega
                have HR3 := Lib.hid hr3
                clear hr3 HS2 hb2
                cases r3 with
                | none =>
                  have HE : Hid (none = r) := Lib.hid (by rw [HF2.out, HS3.out]; rfl)
                  clear HF2 HS3 hb3
                  go_wp2_with (first
                    | (go_at_call 183
                       refine HI1.out.mono ?_
                       rintro e w3 ⟨rfl, ⟨z3, hz3, hz3'⟩, hk3⟩
                       have HZ3 := Lib.hid hz3
                       have HE3 := Lib.hid hz3'
                       have HK3 := Lib.hid (HKN.out.trans hk3)
                       clear hz3 hz3' hk3 y0 y1 y2 y3 y4 y5
                       obtain ⟨y0, y1, y2, y3, y4, y5⟩ := HCE.out w3 HK3.out)
                    | (go_at_call 119
                       (with_reducible show Calls _ _ #[.slice A3 n3 c3, _, _, _] _ _)
                       refine (HBD.out HLV.out w3 HK3.out m1 (by have := HE3.out m1 rfl; subst this; exact HZ3.out) HM1.out.1 HM1.out.2).mono ?_
                       rw [HR2.out]
                       rintro e w4 ⟨rfl, ⟨z4, hz4, hz4'⟩, hk4⟩
                       have HZ4 := Lib.hid hz4
                       have HE4 := Lib.hid hz4'
                       have HK4 := Lib.hid (HK3.out.trans hk4)
                       clear hz4 hz4' hk4 y0 y1 y2 y3 y4 y5
                       obtain ⟨y0, y1, y2, y3, y4, y5⟩ := HCE.out w4 HK4.out)
                    | (go_at_call 119
                       (with_reducible show Calls _ _ #[.slice A4 n4 c4, _, _, _] _ _)
                       refine (HEL.out HLV.out w4 HK4.out m2 (by have := HE4.out m2 rfl; subst this; exact HZ4.out) HM2.out.1 HM2.out.2).mono ?_
                       rw [HR3.out]
                       rintro e w5 ⟨rfl, ⟨z5, hz5, hz5'⟩, hk5⟩
                       have HZ5 := Lib.hid hz5
                       have HE5 := Lib.hid hz5'
                       have HK5 := Lib.hid (HK4.out.trans hk5)
                       clear hz5 hz5' hk5)
                    | (fail))
                  go_ret
                  exact ⟨by rw [← HE.out]; rfl, ⟨_, HZ5.out, fun c' h => by rw [← HE.out] at h; cases h⟩, HK5.out⟩
                | some m3 =>
                  have HM3 := Lib.hid (hb3 m3 rfl)
                  have HF4 : Hid (hgSs many lv (l.drop (j + 1)) m3 = r) := Lib.hid (by rw [HF2.out, HS3.out]; rfl)
                  clear HF2 HS3 hb3
                  go_wp2_with (first
                    | (go_at_call 183
                       refine HI1.out.mono ?_
                       rintro e w3 ⟨rfl, ⟨z3, hz3, hz3'⟩, hk3⟩
                       have HZ3 := Lib.hid hz3
                       have HE3 := Lib.hid hz3'
                       have HK3 := Lib.hid (HKN.out.trans hk3)
                       clear hz3 hz3' hk3 y0 y1 y2 y3 y4 y5
                       obtain ⟨y0, y1, y2, y3, y4, y5⟩ := HCE.out w3 HK3.out)
                    | (go_at_call 119
                       (with_reducible show Calls _ _ #[.slice A3 n3 c3, _, _, _] _ _)
                       refine (HBD.out HLV.out w3 HK3.out m1 (by have := HE3.out m1 rfl; subst this; exact HZ3.out) HM1.out.1 HM1.out.2).mono ?_
                       rw [HR2.out]
                       rintro e w4 ⟨rfl, ⟨z4, hz4, hz4'⟩, hk4⟩
                       have HZ4 := Lib.hid hz4
                       have HE4 := Lib.hid hz4'
                       have HK4 := Lib.hid (HK3.out.trans hk4)
                       clear hz4 hz4' hk4 y0 y1 y2 y3 y4 y5
                       obtain ⟨y0, y1, y2, y3, y4, y5⟩ := HCE.out w4 HK4.out)
                    | (go_at_call 119
                       (with_reducible show Calls _ _ #[.slice A4 n4 c4, _, _, _] _ _)
                       refine (HEL.out HLV.out w4 HK4.out m2 (by have := HE4.out m2 rfl; subst this; exact HZ4.out) HM2.out.1 HM2.out.2).mono ?_
                       rw [HR3.out]
                       rintro e w5 ⟨rfl, ⟨z5, hz5, hz5'⟩, hk5⟩
                       have HZ5 := Lib.hid hz5
                       have HE5 := Lib.hid hz5'
                       have HK5 := Lib.hid (HK4.out.trans hk5)
                       clear hz5 hz5' hk5)
                    | (fail))
                  go_roundg g
                  case measure => omega
                  case rel => exact ⟨j + 1, m3, by omega, by go_num, HF4, HM3, Lib.hid (by rw [← HE5.out m3 rfl]; exact HZ5.out), HK5⟩
/-- Statements, so deep. -/
theorem hugestmts_any (q : Nat) (many : Int) (hm : many ≤ 1000000) (hm0 : 0 ≤ many) : ∀ (lv : Nat), lv ≤ 1000 → ∀ (l : List Sm) (c : Int) (w : World) (S : Nat → Prop) (v : Value), (∀ b, S b → b < w.heap.size ∧ b ≠ q) → Rw w S (.row 6 (l.map Sm.nd)) v → Cn w q c → -9223372036854775808 ≤ c → c ≤ many → Calls Tryz.prog 119 #[v, .int .i64 (lv : Int), .int .i64 many, .pointer (some ⟨q, 0, none⟩)] w (OutH q w (hgSs many lv l c))
  | 0, hl => fun l c w S v hS hr hc hc1 hc2 => hugestmts_step q many hm hm0 0 hl (fun h => absurd h (by omega)) l c w S v hS hr hc hc1 hc2
  | lv + 1, hl => fun l c w S v hS hr hc hc1 hc2 => hugestmts_step q many hm hm0 (lv + 1) hl (fun _ l c w S v hS hr hc hc1 hc2 => by
      have := hugestmts_any q many hm hm0 lv (by omega) l c w S v hS hr hc hc1 hc2
      rw [show (((lv + 1 : Nat)) : Int) - 1 = (lv : Int) by omega]
      exact this) l c w S v hS hr hc hc1 hc2
end Go.Proofs.YteacmanbiamhoaaGreatDoor
