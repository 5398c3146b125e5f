/- droverkit.hugeExprs, hugeStmts, long: the walks. -/
import Derived.Test.YteacmanbiamhoaaGreatDoorZg
import Derived.Test.YteacmanbiamhoaaGreatDoorZac
import Derived.Deep.LoopGhost
namespace Go.Proofs.YteacmanbiamhoaaGreatDoor
open Go.RowKit
set_option linter.unusedVariables false

/-- The counter of parts, at block q. -/
def Cn (w : World) (q : Nat) (z : Int) : Prop := w.heap[q]? = some (.cells #[.int .i64 z] 3 (0, 0))
/-- What counting leaves. -/
def OutH (q : Nat) (w : World) (r : Option Int) (e : Ending) (w' : World) : Prop := e = .returned (.bool r.isNone) ∧ (∃ z : Int, Cn w' q z ∧ ∀ c' : Int, r = some c' → z = c') ∧ Kp q w w'
def nxH (many : Int) (lv : Nat) (l : List Ex) : Option Int → Option Int
  | none => none
  | some c => hgEs many lv l c
theorem hgEs_cons (many : Int) (lv : Nat) (x : Ex) (l : List Ex) (c : Int) : hgEs many lv (x :: l) c = nxH many lv l (hgE many lv x c) := by
  rw [hgEs]
  cases hgE many lv x c <;> rfl
def nxHS (many : Int) (lv : Nat) (l : List Sm) : Option Int → Option Int
  | none => none
  | some c => hgSs many lv l c
theorem hgSs_cons (many : Int) (lv : Nat) (x : Sm) (l : List Sm) (c : Int) : hgSs many lv (x :: l) c = nxHS many lv l (hgS many lv x c) := by
  rw [hgSs]
  cases hgS many lv x c <;> rfl
theorem Cn.set {w : World} {q : Nat} {z : Int} (h : Cn w q z) (z' : Int) : Cn (w.setCell ⟨q, 0, none⟩ (.int .i64 z')) q z' := by
  have := heap_set h 0 (.int .i64 z')
  unfold Cn
  simpa using this
theorem Rw.rowf {w : World} {S : Nat → Prop} {sz : Nat} {l : List Nd} {v : Value} (h : Rw w S (.row sz l) v) : ∃ A n c, v = .slice A n c := by
  rw [Rw] at h
  obtain ⟨A, c, rfl, -⟩ := h
  exact ⟨_, _, _, rfl⟩
set_option maxRecDepth 100000 in
set_option maxHeartbeats 4000000 in
theorem long_any (l : List (List Nat)) (w : World) (S : Nat → Prop) (v : Value) (h : Rw w S (.row 1 (l.map nmNd)) v) :
    Calls Tryz.prog 60 #[v] w fun e w' => e = .returned (.bool (longF l)) ∧ w' = w := by
  rw [Rw] at h
  obtain ⟨A, c, rfl, hc, hcm, hr⟩ := h
  rw [List.length_map] at hc ⊢
  have HR := Lib.hid hr
  obtain ⟨n, hn⟩ : ∃ n, Hid (l.length = n) := ⟨_, Lib.hid rfl⟩
  rw [hn.out] at hc ⊢
  unfold maxLen at hcm
  obtain ⟨r, hrr⟩ : ∃ r, Hid (longF l = r) := ⟨_, Lib.hid rfl⟩
  rw [hrr.out]
  clear hr
  go_enter Tryz.func60, Tryz.ntmps60
  go_wp2_with fail
  go_loopg [3] n (fun g i wr => ∃ (j : Nat), j + g = n ∧ i = .int .i64 (j : Int) ∧ Hid (longF (l.drop j) = r) ∧ Hid (wr = w))
  case atStart => exact ⟨0, by omega, rfl, Lib.hid (by rw [List.drop_zero]; exact hrr.out), Lib.hid rfl⟩
  case round =>
    obtain ⟨j, hj, rfl, HF, HW⟩ := hrel
    cases gk with
    | zero =>
      have h1 : ¬ (j : Int) < (n : Int) := by omega
      have HE : Hid (false = r) := Lib.hid (by rw [← HF.out, List.drop_eq_nil_of_le (by rw [hn.out]; omega)]; rfl)
      go_wp2_with fail
      go_ret
      exact ⟨by rw [← HE.out]; rfl, HW.out⟩
    | succ g =>
      have h1 : (j : Int) < (n : Int) := by omega
      have hjl : j < l.length := by rw [hn.out]; omega
      obtain ⟨b, o, vs, rfl, hSb, hvl, hrg, hx⟩ := HR.out.at j (nmNd l[j]) (by simp [hjl])
      have e1 := ((nm_rw _ _).1 hx).1
      obtain ⟨X, hX⟩ : ∃ X, strOf l[j] = X := ⟨_, rfl⟩
      have hXs : X.size = l[j].length := by rw [← hX, strOf_size]
      rw [hX] at e1
      have hv : vs = [.string X] := by
        injection e1 with e1
        have := congrArg Array.toList e1
        simpa using this
      subst hv
      have y0 : wr.cell? ⟨b, o + j, none⟩ = some (.string X) := by
        have := hrg 0 _ rfl
        simp only [Nat.zero_add, Nat.mul_one, Nat.add_zero] at this
        rw [HW.out]
        exact this
      have HD := Lib.hid (List.drop_eq_getElem_cons hjl)
      obtain ⟨k, hk⟩ : ∃ k, X.size = k := ⟨_, rfl⟩
      by_cases hL : 1000 < k
      · have t1 : decide ((1000 : Int) < (k : Int)) = true := decide_eq_true (by omega)
        have t2 : (1000 : Int) < (k : Int) := by omega
        have HE : Hid (true = r) := Lib.hid (by
          rw [← HF.out, HD.out]
          unfold longF
          rw [List.any_cons, ← hXs, hk, decide_eq_true hL]
          rfl)
        clear hX hrg hx e1 hjl hXs HF HD
        go_wp2_with fail
        go_ret
        exact ⟨by rw [← HE.out]; rfl, HW.out⟩
      · have t1 : decide ((1000 : Int) < (k : Int)) = false := decide_eq_false (by omega)
        have t2 : ¬ (1000 : Int) < (k : Int) := by omega
        have HF2 : Hid (longF (l.drop (j + 1)) = r) := Lib.hid (by
          rw [← HF.out, HD.out]
          unfold longF
          rw [List.any_cons, ← hXs, hk, decide_eq_false hL]
          rfl)
        clear hX hrg hx e1 hjl hXs HF HD
        go_wp2_with fail
        go_roundg g
        case measure => omega
        case rel => exact ⟨j + 1, by omega, by go_num, HF2, HW⟩
set_option maxRecDepth 100000 in
set_option maxHeartbeats 8000000 in
theorem hugeexprs_step (q : Nat) (many : Int) (hm : many ≤ 1000000) (hm0 : 0 ≤ many) (lv : Nat) (hlv : lv ≤ 1000)
    (IH : 1 ≤ lv → ∀ (l : List Ex) (c : Int) (w : World) (S : Nat → Prop) (v : Value), (∀ b, S b → b < w.heap.size ∧ b ≠ q) → Rw w S (.row 4 (l.map Ex.nd)) v → Cn w q c → -9223372036854775808 ≤ c → c ≤ many → Calls Tryz.prog 183 #[v, .int .i64 ((lv : Int) - 1), .int .i64 many, .pointer (some ⟨q, 0, none⟩)] w (OutH q w (hgEs many (lv - 1) l c)))
    (l : List Ex) (c : Int) (w : World) (S : Nat → Prop) (v : Value) (hS : ∀ b, S b → b < w.heap.size ∧ b ≠ q) (hr : Rw w S (.row 4 (l.map Ex.nd)) v) (hc : Cn w q c) (hc1 : -9223372036854775808 ≤ c) (hc2 : c ≤ many) :
    Calls Tryz.prog 183 #[v, .int .i64 (lv : Int), .int .i64 many, .pointer (some ⟨q, 0, none⟩)] w (OutH q w (hgEs many lv l c)) := by
  rw [Rw] at hr
  obtain ⟨A, cp, rfl, hcp, hcpm, hr⟩ := hr
  rw [List.length_map] at hcp ⊢
  have HR := Lib.hid hr
  have HSS := Lib.hid hS
  have HC := Lib.hid hc
  have HIH := Lib.hid IH
  obtain ⟨n, hn⟩ : ∃ n, Hid (l.length = n) := ⟨_, Lib.hid rfl⟩
  rw [hn.out] at hcp ⊢
  obtain ⟨r, hrr⟩ : ∃ r, Hid (hgEs many lv l c = r) := ⟨_, Lib.hid rfl⟩
  rw [hrr.out]
  unfold maxLen at hcpm
  clear hr hS hc IH
  go_enter Tryz.func183, Tryz.ntmps183
  go_wp2_with fail
  go_loopg [9] n (fun g i wr => ∃ (j : Nat) (cj : Int), j + g = n ∧ i = .int .i64 (j : Int) ∧ Hid (hgEs many lv (l.drop j) cj = r) ∧ Hid (-9223372036854775808 ≤ cj ∧ cj ≤ many) ∧ Hid (Cn wr q cj) ∧ Hid (Kp q w wr))
  case atStart => exact ⟨0, c, by omega, rfl, Lib.hid (by rw [List.drop_zero]; exact hrr.out), Lib.hid ⟨hc1, hc2⟩, HC, Lib.hid (Kp.refl _ _)⟩
  case round =>
    obtain ⟨j, cj, hj, rfl, HF, HCL, HCJ, HKJ⟩ := hrel
    cases gk with
    | zero =>
      have h1 : ¬ (j : Int) < (n : Int) := by omega
      have HE : Hid (some cj = r) := Lib.hid (by rw [← HF.out, List.drop_eq_nil_of_le (by rw [hn.out]; omega), hgEs])
      clear HF HIH
      go_wp2_with fail
      go_ret
      exact ⟨by rw [← HE.out]; rfl, ⟨_, HCJ.out, fun c' h => by rw [← HE.out] at h; cases h; rfl⟩, HKJ.out⟩
    | succ g =>
      have h1 : (j : Int) < (n : Int) := by omega
      have hjl : j < l.length := by rw [hn.out]; omega
      obtain ⟨hcj0, hcj⟩ := HCL.out
      obtain ⟨b, o, vs, rfl, hSb, hvl, hrg, hx⟩ := HR.out.at j (Ex.nd l[j]) (by simp [hjl])
      have HD := Lib.hid (List.drop_eq_getElem_cons hjl)
      generalize l[j] = x at *
      obtain ⟨k, s, m, ks⟩ := x
      obtain ⟨y, hv, -, -, hy⟩ := (Ex.rw k s m ks _).1 hx
      obtain ⟨A3, n3, c3, rfl⟩ := hy.rowf
      obtain ⟨X, hX⟩ : ∃ X, strOf s = X := ⟨_, rfl⟩
      have hXs : X.size = s.length := by rw [← hX, strOf_size]
      rw [hX] at hv
      obtain rfl := bx4v hv
      have hcell : ∀ i u, [Value.int .u8 (k : Int), .string X, .int .i64 m, .slice A3 n3 c3][i]? = some u → wr.cell? ⟨b, o + j * 4 + i, none⟩ = some u := fun i u hu => by
        have := hrg i u hu
        rw [Nat.zero_add] at this
        exact (HKJ.out.cellq (p := ⟨b, o + j * 4 + i, none⟩) (HSS.out b hSb).1 (HSS.out b hSb).2).trans this
      have y1 := hcell 1 _ rfl
      have y3 := hcell 3 _ rfl
      have hbq : b ≠ q := (HSS.out b hSb).2
      have hbq' : q ≠ b := fun e => hbq e.symm
      have c0 := cell_of_one HCJ.out
      have f0 := free_block HCJ.out 0
      have hqr := lt_heap HCJ.out
      have HF2 := Lib.hid (HF.out.symm.trans (by rw [HD.out, hgEs_cons]))
      have HCN := Lib.hid (HCJ.out.set (cj + 1))
      have HKN := Lib.hid (HKJ.out.set (p := ⟨q, 0, none⟩) rfl (.int .i64 (cj + 1)))
      obtain ⟨z, hz⟩ : ∃ z, X.size = z := ⟨_, rfl⟩
      have hzs : z = s.length := hz.symm.trans hXs
      have HY := Lib.hid hy
      clear hrg hx hv hX hXs hvl HF HD hjl hcell hy
      by_cases hA : many < cj + 1
      · have t1 : many < cj + 1 := by omega
        have t2 : decide (many < cj + 1) = true := decide_eq_true t1
        have HE : Hid (none = r) := Lib.hid (by rw [HF2.out, hgE, if_pos (.inl hA)]; rfl)
        clear hA HF2 HIH hzs
        go_wp2_with fail
        go_ret
        exact ⟨by rw [← HE.out]; rfl, ⟨_, HCN.out, fun c' h => by rw [← HE.out] at h; cases h⟩, HKN.out⟩
      · have t1 : ¬ many < cj + 1 := by omega
        have t2 : decide (many < cj + 1) = false := decide_eq_false t1
        by_cases hB : lv = 0
        · have HE : Hid (none = r) := Lib.hid (by rw [HF2.out, hgE, if_pos (.inr (.inl hB))]; rfl)
          subst hB
          clear HF2 HIH hzs hA
          go_wp2_with fail
          go_ret
          exact ⟨by rw [← HE.out]; rfl, ⟨_, HCN.out, fun c' h => by rw [← HE.out] at h; cases h⟩, HKN.out⟩
        · have t3 : ¬ (lv : Int) < 1 := by omega
          have t4 : decide ((lv : Int) < 1) = false := decide_eq_false t3
          by_cases hL : 1000 < z
          · have HE : Hid (none = r) := Lib.hid (by rw [HF2.out, hgE, if_pos (.inr (.inr (by omega)))]; rfl)
            have t5 : (1000 : Int) < (z : Int) := by omega
            have t6 : decide ((1000 : Int) < (z : Int)) = true := decide_eq_true t5
            clear HF2 HIH hzs hA hB
            go_wp2_with fail
            go_ret
            exact ⟨by rw [← HE.out]; rfl, ⟨_, HCN.out, fun c' h => by rw [← HE.out] at h; cases h⟩, HKN.out⟩
          · have t5 : ¬ (1000 : Int) < (z : Int) := by omega
            have t6 : decide ((1000 : Int) < (z : Int)) = false := decide_eq_false t5
            obtain ⟨r2, hr2⟩ : ∃ r2, Hid (hgEs many (lv - 1) ks (cj + 1) = r2) := ⟨_, Lib.hid rfl⟩
            have HF3 : Hid (r = nxH many lv (l.drop (j + 1)) r2) := Lib.hid (by rw [HF2.out, hgE, if_neg (by omega), hr2.out])
            have HCC : Hid (∀ c4, r2 = some c4 → -9223372036854775808 ≤ c4 ∧ c4 ≤ many) := Lib.hid (fun c4 h => by
              have h5 := ((hgE_ok _).2 ks (lv - 1) (cj + 1) c4 (Nat.lt_succ_self _) (hr2.out.trans h))
              omega)
            have HI := Lib.hid (HIH.out (by omega) ks (cj + 1) _ S _ (fun b hb => ⟨Nat.lt_of_lt_of_le (HSS.out b hb).1 HKN.out.size, (HSS.out b hb).2⟩) (Rw.keep (fun p hp => HKN.out.cellq (HSS.out _ hp).1 (HSS.out _ hp).2) (fun _ h => h) _ _ HY.out) HCN.out (by omega) (by omega))
            rw [hr2.out] at HI
            clear HF2 HIH hzs hA hB hr2
            cases hr3 : r2 with
            | none =>
              have HE : Hid (none = r) := Lib.hid (by rw [HF3.out, hr3]; rfl)
              rw [hr3] at HI
              clear hr3 HF3 HCC
              go_wp2_with (first
                | (go_at_call 183
                   refine HI.out.mono ?_
                   rintro e w3 ⟨rfl, ⟨z3, hz3, -⟩, hk3⟩
                   have HZ := Lib.hid hz3
                   have HK3 := Lib.hid (HKN.out.trans hk3)
                   clear hz3 hk3)
                | (fail))
              go_ret
              exact ⟨by rw [← HE.out]; rfl, ⟨_, HZ.out, fun c' h => by rw [← HE.out] at h; cases h⟩, HK3.out⟩
            | some c4 =>
              have HF4 : Hid (hgEs many lv (l.drop (j + 1)) c4 = r) := Lib.hid (by rw [HF3.out, hr3]; rfl)
              have HC4 : Hid (-9223372036854775808 ≤ c4 ∧ c4 ≤ many) := Lib.hid (HCC.out c4 hr3)
              rw [hr3] at HI
              clear hr3 HF3 HCC
              go_wp2_with (first
                | (go_at_call 183
                   refine HI.out.mono ?_
                   rintro e w3 ⟨rfl, ⟨z3, hz3, hz4⟩, hk3⟩
                   have HZ := Lib.hid hz3
                   have HZ2 := Lib.hid hz4
                   have HK3 := Lib.hid (HKN.out.trans hk3)
                   clear hz3 hz4 hk3)
                | (fail))
              go_roundg g
              case measure => omega
              case rel => exact ⟨j + 1, c4, by omega, by go_num, HF4, HC4, Lib.hid (by rw [← HZ2.out c4 rfl]; exact HZ.out), HK3⟩
/-- Expressions, so deep. -/
theorem hugeexprs_any (q : Nat) (many : Int) (hm : many ≤ 1000000) (hm0 : 0 ≤ many) : ∀ (lv : Nat), lv ≤ 1000 → ∀ (l : List Ex) (c : Int) (w : World) (S : Nat → Prop) (v : Value), (∀ b, S b → b < w.heap.size ∧ b ≠ q) → Rw w S (.row 4 (l.map Ex.nd)) v → Cn w q c → -9223372036854775808 ≤ c → c ≤ many → Calls Tryz.prog 183 #[v, .int .i64 (lv : Int), .int .i64 many, .pointer (some ⟨q, 0, none⟩)] w (OutH q w (hgEs many lv l c))
  | 0, hl => fun l c w S v hS hr hc hc1 hc2 => hugeexprs_step q many hm hm0 0 hl (fun h => absurd h (by omega)) l c w S v hS hr hc hc1 hc2
  | lv + 1, hl => fun l c w S v hS hr hc hc1 hc2 => hugeexprs_step q many hm hm0 (lv + 1) hl (fun _ l c w S v hS hr hc hc1 hc2 => by
      have := hugeexprs_any q many hm hm0 lv (by omega) l c w S v hS hr hc hc1 hc2
      rw [show (((lv + 1 : Nat)) : Int) - 1 = (lv : Int) by omega]
      exact this) l c w S v hS hr hc hc1 hc2
end Go.Proofs.YteacmanbiamhoaaGreatDoor
