/- Package words: run, passedOver: the walks. -/
import Derived.Test.YteacmanbiamhoaaGreatDoorWb
namespace Go.Proofs.YteacmanbiamhoaaGreatDoor
open Go.RowKit
set_option linter.unusedVariables false

/-- The bytes of a string. -/
def StrIs (S : ByteArray) (T : List Nat) : Prop := S.size = T.length ∧ ∀ (j : Nat) (hj : j < T.length) (hj' : j < S.size), (S[j]'hj').toNat = T[j]
theorem strIs (T : List Nat) (h8 : ∀ x ∈ T, x < 256) : StrIs (strOf T) T := by
  refine ⟨strOf_size T, fun j hj hj' => ?_⟩
  have e : (strOf T)[j]'hj' = UInt8.ofNat T[j] := by
    have h1 : (strOf T).data[j]? = some (UInt8.ofNat T[j]) := by simp [strOf, hj]
    have h2 : (strOf T).data[j]? = some ((strOf T)[j]'hj') := Array.getElem?_eq_getElem hj'
    rw [h1] at h2
    exact (Option.some.inj h2).symm
  rw [e, UInt8.toNat_ofNat', Nat.mod_eq_of_lt (h8 _ (List.getElem_mem hj))]
set_option maxRecDepth 100000 in
set_option maxHeartbeats 1000000 in
theorem run_dig {T : List Nat} (h8 : ∀ x ∈ T, x < 256) (hn : T.length ≤ 1099511627776) (w : World) :
    Calls Tryz.prog 256 #[.string (strOf T), .func (.func 259) #[] #[]] w fun e w' => e = .returned (.int .i64 ((T.takeWhile dig).length : Int)) ∧ w' = w := by
  have HS := Lib.hid (strIs T h8)
  generalize strOf T = S at *
  have hz := HS.out.1
  obtain ⟨n, hnn⟩ : ∃ n, Hid (T.length = n) := ⟨_, Lib.hid rfl⟩
  rw [hnn.out] at hz hn
  have HF := Lib.hid (isDigit_any w)
  obtain ⟨p, hp0⟩ : ∃ p : Nat → Bool, p = dig := ⟨_, rfl⟩
  rw [← hp0] at HF ⊢
  clear hp0
  have HT := Lib.hid h8
  obtain ⟨k, hk⟩ : ∃ k, Hid ((T.takeWhile p).length = k) := ⟨_, Lib.hid rfl⟩
  have hkn : k ≤ n := by have := tw_len (p := p) T; have := hk.out; have := hnn.out; omega
  rw [hk.out]
  clear h8
  go_enter Tryz.func256, Tryz.ntmps256
  go_wp2_with fail
  go_loopw [8] (fun i wr => ∃ j : Nat, j ≤ k ∧ i = .int .i64 (j : Int) ∧ wr = w) (fun i _ => n - (intOf i).toNat)
  case atStart => exact ⟨0, by omega, rfl, rfl⟩
  case round =>
    obtain ⟨j, hj, rfl, rfl⟩ := hrel
    by_cases hjn : j < n
    · have hjS : j < S.size := by omega
      have hx := HS.out.2 j (by rw [hnn.out]; exact hjn) hjS
      have HC := Lib.hid (HF.out (T[j]'(by rw [hnn.out]; exact hjn)))
      by_cases hjk : j < k
      · have hp : p (T[j]'(by rw [hnn.out]; exact hjn)) = true := by
          have h1 : (T.takeWhile p)[j]'(by rw [hk.out]; exact hjk) = T[j]'(by rw [hnn.out]; exact hjn) := by
            have := (List.takeWhile_prefix (l := T) p).getElem (i := j) (by rw [hk.out]; exact hjk)
            exact this
          rw [← h1]
          exact tw_all T _ (List.getElem_mem _)
        generalize T[j]'(by rw [hnn.out]; exact hjn) = x at *
        rw [hp] at HC
        have HP := Lib.hid hp
        clear hp
        go_wp2_with (go_at_call 259; refine HC.out.mono ?_; rintro e w' ⟨rfl, rfl⟩)
        go_roundw
        case rel => exact ⟨j + 1, by omega, by go_num, trivial⟩
        case measure => simp [intOf]; omega
      · obtain rfl : j = k := by omega
        have hp : p (T[j]'(by rw [hnn.out]; exact hjn)) = false := by
          have h1 := tw_stop (p := p) T (by rw [hk.out, hnn.out]; exact hjn)
          have h2 : ∀ i (hi : i < T.length), i = j → p T[i] = p (T[j]'(by rw [hnn.out]; exact hjn)) := fun i hi e => by subst e; rfl
          rw [← h2 _ _ hk.out]
          exact h1
        generalize T[j]'(by rw [hnn.out]; exact hjn) = x at *
        rw [hp] at HC
        have HP := Lib.hid hp
        clear hp
        go_wp2_with (go_at_call 259; refine HC.out.mono ?_; rintro e w' ⟨rfl, rfl⟩)
        go_ret
        exact ⟨rfl, rfl⟩
    · obtain rfl : j = n := by omega
      obtain rfl : j = k := by omega
      go_wp2_with fail
      go_ret
      exact ⟨rfl, rfl⟩
set_option maxRecDepth 100000 in
set_option maxHeartbeats 1000000 in
theorem run_wrd {T : List Nat} (h8 : ∀ x ∈ T, x < 256) (hn : T.length ≤ 1099511627776) (w : World) :
    Calls Tryz.prog 256 #[.string (strOf T), .func (.func 294) #[] #[]] w fun e w' => e = .returned (.int .i64 ((T.takeWhile wrd).length : Int)) ∧ w' = w := by
  have HS := Lib.hid (strIs T h8)
  generalize strOf T = S at *
  have hz := HS.out.1
  obtain ⟨n, hnn⟩ : ∃ n, Hid (T.length = n) := ⟨_, Lib.hid rfl⟩
  rw [hnn.out] at hz hn
  have HF := Lib.hid (wrd_any w)
  obtain ⟨p, hp0⟩ : ∃ p : Nat → Bool, p = wrd := ⟨_, rfl⟩
  rw [← hp0] at HF ⊢
  clear hp0
  have HT := Lib.hid h8
  obtain ⟨k, hk⟩ : ∃ k, Hid ((T.takeWhile p).length = k) := ⟨_, Lib.hid rfl⟩
  have hkn : k ≤ n := by have := tw_len (p := p) T; have := hk.out; have := hnn.out; omega
  rw [hk.out]
  clear h8
  go_enter Tryz.func256, Tryz.ntmps256
  go_wp2_with fail
  go_loopw [8] (fun i wr => ∃ j : Nat, j ≤ k ∧ i = .int .i64 (j : Int) ∧ wr = w) (fun i _ => n - (intOf i).toNat)
  case atStart => exact ⟨0, by omega, rfl, rfl⟩
  case round =>
    obtain ⟨j, hj, rfl, rfl⟩ := hrel
    by_cases hjn : j < n
    · have hjS : j < S.size := by omega
      have hx := HS.out.2 j (by rw [hnn.out]; exact hjn) hjS
      have HC := Lib.hid (HF.out (T[j]'(by rw [hnn.out]; exact hjn)))
      by_cases hjk : j < k
      · have hp : p (T[j]'(by rw [hnn.out]; exact hjn)) = true := by
          have h1 : (T.takeWhile p)[j]'(by rw [hk.out]; exact hjk) = T[j]'(by rw [hnn.out]; exact hjn) := by
            have := (List.takeWhile_prefix (l := T) p).getElem (i := j) (by rw [hk.out]; exact hjk)
            exact this
          rw [← h1]
          exact tw_all T _ (List.getElem_mem _)
        generalize T[j]'(by rw [hnn.out]; exact hjn) = x at *
        rw [hp] at HC
        have HP := Lib.hid hp
        clear hp
        go_wp2_with (go_at_call 294; refine HC.out.mono ?_; rintro e w' ⟨rfl, rfl⟩)
        go_roundw
        case rel => exact ⟨j + 1, by omega, by go_num, trivial⟩
        case measure => simp [intOf]; omega
      · obtain rfl : j = k := by omega
        have hp : p (T[j]'(by rw [hnn.out]; exact hjn)) = false := by
          have h1 := tw_stop (p := p) T (by rw [hk.out, hnn.out]; exact hjn)
          have h2 : ∀ i (hi : i < T.length), i = j → p T[i] = p (T[j]'(by rw [hnn.out]; exact hjn)) := fun i hi e => by subst e; rfl
          rw [← h2 _ _ hk.out]
          exact h1
        generalize T[j]'(by rw [hnn.out]; exact hjn) = x at *
        rw [hp] at HC
        have HP := Lib.hid hp
        clear hp
        go_wp2_with (go_at_call 294; refine HC.out.mono ?_; rintro e w' ⟨rfl, rfl⟩)
        go_ret
        exact ⟨rfl, rfl⟩
    · obtain rfl : j = n := by omega
      obtain rfl : j = k := by omega
      go_wp2_with fail
      go_ret
      exact ⟨rfl, rfl⟩
set_option maxRecDepth 100000 in
set_option maxHeartbeats 1000000 in
theorem run_pln {T : List Nat} (h8 : ∀ x ∈ T, x < 256) (hn : T.length ≤ 1099511627776) (w : World) :
    Calls Tryz.prog 256 #[.string (strOf T), .func (.func 292) #[] #[]] w fun e w' => e = .returned (.int .i64 ((T.takeWhile pln).length : Int)) ∧ w' = w := by
  have HS := Lib.hid (strIs T h8)
  generalize strOf T = S at *
  have hz := HS.out.1
  obtain ⟨n, hnn⟩ : ∃ n, Hid (T.length = n) := ⟨_, Lib.hid rfl⟩
  rw [hnn.out] at hz hn
  have HF := Lib.hid (saysItself_any w)
  obtain ⟨p, hp0⟩ : ∃ p : Nat → Bool, p = pln := ⟨_, rfl⟩
  rw [← hp0] at HF ⊢
  clear hp0
  have HT := Lib.hid h8
  obtain ⟨k, hk⟩ : ∃ k, Hid ((T.takeWhile p).length = k) := ⟨_, Lib.hid rfl⟩
  have hkn : k ≤ n := by have := tw_len (p := p) T; have := hk.out; have := hnn.out; omega
  rw [hk.out]
  clear h8
  go_enter Tryz.func256, Tryz.ntmps256
  go_wp2_with fail
  go_loopw [8] (fun i wr => ∃ j : Nat, j ≤ k ∧ i = .int .i64 (j : Int) ∧ wr = w) (fun i _ => n - (intOf i).toNat)
  case atStart => exact ⟨0, by omega, rfl, rfl⟩
  case round =>
    obtain ⟨j, hj, rfl, rfl⟩ := hrel
    by_cases hjn : j < n
    · have hjS : j < S.size := by omega
      have hx := HS.out.2 j (by rw [hnn.out]; exact hjn) hjS
      have HC := Lib.hid (HF.out (T[j]'(by rw [hnn.out]; exact hjn)))
      by_cases hjk : j < k
      · have hp : p (T[j]'(by rw [hnn.out]; exact hjn)) = true := by
          have h1 : (T.takeWhile p)[j]'(by rw [hk.out]; exact hjk) = T[j]'(by rw [hnn.out]; exact hjn) := by
            have := (List.takeWhile_prefix (l := T) p).getElem (i := j) (by rw [hk.out]; exact hjk)
            exact this
          rw [← h1]
          exact tw_all T _ (List.getElem_mem _)
        generalize T[j]'(by rw [hnn.out]; exact hjn) = x at *
        rw [hp] at HC
        have HP := Lib.hid hp
        clear hp
        go_wp2_with (go_at_call 292; refine HC.out.mono ?_; rintro e w' ⟨rfl, rfl⟩)
        go_roundw
        case rel => exact ⟨j + 1, by omega, by go_num, trivial⟩
        case measure => simp [intOf]; omega
      · obtain rfl : j = k := by omega
        have hp : p (T[j]'(by rw [hnn.out]; exact hjn)) = false := by
          have h1 := tw_stop (p := p) T (by rw [hk.out, hnn.out]; exact hjn)
          have h2 : ∀ i (hi : i < T.length), i = j → p T[i] = p (T[j]'(by rw [hnn.out]; exact hjn)) := fun i hi e => by subst e; rfl
          rw [← h2 _ _ hk.out]
          exact h1
        generalize T[j]'(by rw [hnn.out]; exact hjn) = x at *
        rw [hp] at HC
        have HP := Lib.hid hp
        clear hp
        go_wp2_with (go_at_call 292; refine HC.out.mono ?_; rintro e w' ⟨rfl, rfl⟩)
        go_ret
        exact ⟨rfl, rfl⟩
    · obtain rfl : j = n := by omega
      obtain rfl : j = k := by omega
      go_wp2_with fail
      go_ret
      exact ⟨rfl, rfl⟩
/-- Whether a remark goes on, behind some bytes. -/
def rem (b : Bool) (l : List Nat) : Bool := l.foldl pasB b
theorem pas_at : ∀ (T : List Nat) (b : Bool) (j : Nat) (h : j < T.length), j < pas b T → (pasB (rem b (T.take j)) T[j] || blk T[j]) = true
  | x :: r, b, 0, h, hj => by
    unfold pas at hj
    split at hj
    · rename_i hx; exact hx
    · omega
  | x :: r, b, j + 1, h, hj => by
    unfold pas at hj
    split at hj
    · exact pas_at r (pasB b x) j (by simpa using h) (by omega)
    · omega
theorem pas_end : ∀ (T : List Nat) (b : Bool) (j : Nat) (h : j < T.length), j = pas b T → (pasB (rem b (T.take j)) T[j] || blk T[j]) = false
  | x :: r, b, j, h, hj => by
    unfold pas at hj
    split at hj
    · subst hj
      exact pas_end r (pasB b x) _ (by simpa using h) rfl
    · rename_i hx
      subst hj
      simpa [rem] using hx
theorem rem_snoc (b : Bool) (T : List Nat) (j : Nat) (h : j < T.length) : rem b (T.take (j + 1)) = pasB (rem b (T.take j)) T[j] := by
  unfold rem
  rw [List.take_succ_eq_append_getElem h, List.foldl_append]
  rfl
def Bx1 (w : World) (B : Nat) (b : Bool) : Prop := w.heap[B]? = some (.cells #[.bool b] 4 (0, 0))
theorem pov_any (w : World) (B : Nat) (b : Bool) (x : Nat) (hB : Bx1 w B b) : Calls Tryz.prog 257 #[.int .u8 (x : Int), .pointer (some ⟨B, 0, none⟩)] w fun e w' => e = .returned (.bool (pasB b x || blk x)) ∧ Bx1 w' B (pasB b x) ∧ Kp B w w' := by
  have HB := Lib.hid hB
  have c0 := cell_block hB 0
  have f0 := free_block hB 0
  have H1 := Lib.hid (isBlank_any)
  have e : pasB b x = ((x : Int) != 10 && (b || ((x : Int) == 35))) := by
    unfold pasB
    by_cases h1 : x = 10
    · subst h1; rfl
    · have h2 : (x : Int) ≠ 10 := by omega
      by_cases h3 : x = 35
      · subst h3; rfl
      · have h4 : (x : Int) ≠ 35 := by omega
        rw [show ((x : Int) != 10) = true from bne_iff_ne.2 h2, show ((x : Int) == 35) = false from beq_eq_false_iff_ne.2 h4]
        simp [h1, h3]
  have HW := Lib.hid (fun (v : Bool) => show Bx1 (w.setCell ⟨B, 0, none⟩ (.bool v)) B v from heap_set hB 0 (.bool v))
  have HK := Lib.hid (fun (v : Bool) => (Kp.refl B w).set (p := ⟨B, 0, none⟩) rfl (.bool v))
  rw [e]
  obtain ⟨b0, h0⟩ : ∃ b, ((x : Int) != 10) = b := ⟨_, rfl⟩
  obtain ⟨b1, h1⟩ : ∃ b, ((x : Int) == 35) = b := ⟨_, rfl⟩
  rw [h0, h1]
  clear e hB
  go_enter Tryz.func257, Tryz.ntmps257
  obtain ⟨b2, h2⟩ : ∃ b, blk x = b := ⟨_, rfl⟩
  rw [h2]
  have H2 := Lib.hid (fun w => isBlank_any w x)
  rw [h2] at H2
  clear H1
  cases b0 <;> cases b <;> cases b1
  all_goals
    go_wp2_with (go_at_call 258; refine (H2.out _).mono ?_; rintro e w' ⟨rfl, rfl⟩)
    go_ret
    exact ⟨rfl, HW.out _, HK.out _⟩
set_option maxRecDepth 100000 in
set_option maxHeartbeats 1000000 in
theorem run_pas {T : List Nat} (h8 : ∀ x ∈ T, x < 256) (hn : T.length ≤ 1099511627776) (w : World) (B : Nat) (hB : Bx1 w B false) :
    Calls Tryz.prog 256 #[.string (strOf T), .func (.func 257) #[] #[.pointer (some ⟨B, 0, none⟩)]] w fun e w' => e = .returned (.int .i64 (pas false T : Int)) ∧ Kp B w w' := by
  have HS := Lib.hid (strIs T h8)
  generalize strOf T = S at *
  have hz := HS.out.1
  obtain ⟨n, hnn⟩ : ∃ n, Hid (T.length = n) := ⟨_, Lib.hid rfl⟩
  rw [hnn.out] at hz hn
  obtain ⟨k, hk⟩ : ∃ k, Hid (pas false T = k) := ⟨_, Lib.hid rfl⟩
  have hkn : k ≤ n := by have := pas_le false T; have := hk.out; have := hnn.out; omega
  rw [hk.out]
  have HB0 := Lib.hid hB
  clear h8 hB
  go_enter Tryz.func256, Tryz.ntmps256
  go_wp2_with fail
  go_loopw [8] (fun i wr => ∃ j : Nat, j ≤ k ∧ i = .int .i64 (j : Int) ∧ Hid (Bx1 wr B (rem false (T.take j)) ∧ Kp B w wr)) (fun i _ => n - (intOf i).toNat)
  case atStart => exact ⟨0, by omega, rfl, Lib.hid ⟨HB0.out, Kp.refl _ _⟩⟩
  case round =>
    obtain ⟨j, hj, rfl, HJ⟩ := hrel
    by_cases hjn : j < n
    · have hjS : j < S.size := by omega
      have hjT : j < T.length := by rw [hnn.out]; exact hjn
      have hx := HS.out.2 j hjT hjS
      have HC := Lib.hid (pov_any wr B _ T[j] HJ.out.1)
      have HR := Lib.hid (rem_snoc false T j hjT)
      by_cases hjk : j < k
      · have hp := pas_at T false j hjT (by rw [hk.out]; exact hjk)
        have HJ2 := Lib.hid (fun (w' : World) (h1 : Bx1 w' B (pasB (rem false (T.take j)) T[j])) (h2 : Kp B wr w') => show Bx1 w' B (rem false (T.take (j + 1))) ∧ Kp B w w' from ⟨by rw [HR.out]; exact h1, HJ.out.2.trans h2⟩)
        rw [hp] at HC
        clear hp
        generalize T[j] = x at *
        generalize pasB (rem false (T.take j)) x = b at *
        go_wp2_with (go_at_call 257; refine HC.out.mono ?_; rintro e w' ⟨he, hb1, hk1⟩; subst he; have HJ3 := Lib.hid (HJ2.out w' hb1 hk1); clear hb1 hk1)
        go_roundw
        case rel => exact ⟨j + 1, by omega, by go_num, HJ3⟩
        case measure => simp [intOf]; omega
      · obtain rfl : j = k := by omega
        have hp := pas_end T false j hjT hk.out.symm
        have HJ2 := Lib.hid (fun (w' : World) (h2 : Kp B wr w') => show Kp B w w' from HJ.out.2.trans h2)
        rw [hp] at HC
        clear hp
        generalize T[j] = x at *
        generalize pasB (rem false (T.take j)) x = b at *
        go_wp2_with (go_at_call 257; refine HC.out.mono ?_; rintro e w' ⟨he, hb1, hk1⟩; subst he; have HJ3 := Lib.hid (HJ2.out w' hk1); clear hb1 hk1)
        go_ret
        exact ⟨rfl, HJ3.out⟩
    · obtain rfl : j = n := by omega
      obtain rfl : j = k := by omega
      go_wp2_with fail
      go_ret
      exact ⟨rfl, HJ.out.2⟩
theorem Kp.low8 {w w' : World} {g B : Nat} (k : Kp g w w') (hB : B ≤ g) (hw : B ≤ w.heap.size) : Below B w w' := ⟨k.os, k.tape, k.output, k.size, fun j hj => k.block j (by omega) (fun e => by have := Option.some.inj e; omega)⟩
set_option maxHeartbeats 1000000 in
theorem passedOver_any {T : List Nat} (h8 : ∀ x ∈ T, x < 256) (hn : T.length ≤ 1099511627776) (w : World) :
    Calls Tryz.prog 214 #[.string (strOf T)] w fun e w' => e = .returned (.int .i64 (pas false T : Int)) ∧ Below w.heap.size w w' := by
  have H0 := heap_new w (.cells #[.bool false] 4)
  have HR := Lib.hid (run_pas h8 hn (w.alloc (.cells #[.bool false] 4)) w.heap.size H0)
  have HB := Lib.hid ((Below.refl w.heap.size w).alloc (Nat.le_refl _) (.cells #[.bool false] 4))
  generalize strOf T = S at *
  clear H0
  go_enter Tryz.func214, Tryz.ntmps214
  go_wp2_with (go_at_call 256; refine HR.out.mono ?_; rintro e w' ⟨he, hk1⟩; subst he; have HK := Lib.hid hk1; clear hk1)
  go_ret
  have hsz := HB.out.size
  exact ⟨rfl, HB.out.trans (HK.out.low8 (Nat.le_refl _) (Nat.le_of_lt (by simp)))⟩
end Go.Proofs.YteacmanbiamhoaaGreatDoor
