/- droverkit.hugeBody, at any counter. -/
import Derived.Test.YteacmanbiamhoaaGreatDoorZi
namespace Go.Proofs.YteacmanbiamhoaaGreatDoor
open Go.RowKit
set_option linter.unusedVariables false

set_option maxRecDepth 100000 in
set_option maxHeartbeats 8000000 in
theorem hugebody_any (q : Nat) (many : Int) (hm : many ≤ 1000000) (hm0 : 0 ≤ many) (lv : Nat) (hlv : lv ≤ 1000) (b : Bd) (c : Int) (w : World) (S : Nat → Prop) (v : Value) (hS : ∀ b, S b → b < w.heap.size ∧ b ≠ q) (hr : Rw w S b.nd v) (hc : Cn w q c) :
    Calls Tryz.prog 59 #[v, .int .i64 (lv : Int), .int .i64 many, .pointer (some ⟨q, 0, none⟩)] w (OutH q w (hgB many lv b c)) := by
  obtain ⟨nm, ps, st, ln⟩ := b
  obtain ⟨y, z, rfl, -, -, hy, hz⟩ := (hd_rw nm ps 6 _ ln v).1 hr
  obtain ⟨A2, n2, c2, rfl⟩ := hz.rowf
  have hy0 := hy
  rw [Rw] at hy0
  obtain ⟨A1, c1, rfl, hc1, hcm1, -⟩ := hy0
  rw [List.length_map] at hc1 hy ⊢
  obtain ⟨n1, hn1⟩ : ∃ n, Hid (ps.length = n) := ⟨_, Lib.hid rfl⟩
  rw [hn1.out] at hc1 hy ⊢
  unfold maxLen at hcm1
  obtain ⟨X, hX⟩ : ∃ X, strOf nm = X := ⟨_, rfl⟩
  have hXs : X.size = nm.length := by rw [← hX, strOf_size]
  rw [hX]
  obtain ⟨r, hrr⟩ : ∃ r, Hid (hgB many lv ⟨nm, ps, st, ln⟩ c = r) := ⟨_, Lib.hid rfl⟩
  rw [hrr.out]
  obtain ⟨k, hk⟩ : ∃ k, X.size = k := ⟨_, rfl⟩
  obtain ⟨m1, hm1⟩ : ∃ m, wi (c + 1) = m := ⟨_, rfl⟩
  obtain ⟨m, hmm⟩ : ∃ m, wi (m1 + (n1 : Int)) = m := ⟨_, rfl⟩
  have hml := wi_lo (m1 + (n1 : Int))
  rw [hmm] at hml
  obtain ⟨hml0, hml1⟩ := hml
  have HF : Hid ((if many < m ∨ 1000 < k ∨ longF ps = true then none else hgSs many lv st m) = r) := Lib.hid (by
    rw [← hrr.out]
    unfold hgB
    dsimp only
    rw [hn1.out, hm1, hmm, ← hk, hXs])
  have HY := Lib.hid hy
  have HZ := Lib.hid hz
  have HSS := Lib.hid hS
  have HC := Lib.hid hc
  have hqw := lt_heap hc
  have hqn : ¬ w.heap.size = q := by omega
  have HQ := Lib.hid (heap_new w (.cells #[.string X, .slice A1 n1 c1, .slice A2 n2 c2, .int .i64 ln] 55))
  have HC1 := Lib.hid (show Cn (w.alloc (.cells #[.string X, .slice A1 n1 c1, .slice A2 n2 c2, .int .i64 ln] 55)) q c from heap_old hc _)
  have HK1 := Lib.hid ((Kp.refl q w).alloc (.cells #[.string X, .slice A1 n1 c1, .slice A2 n2 c2, .int .i64 ln] 55))
  obtain ⟨⟨b0, b1, b2, b3⟩, -⟩ := box4f HQ.out
  have c0 := cell_of_one HC1.out
  have f0 := free_block HC1.out 0
  have w1 : IntKind.i64.wrap (c + 1) = m1 := hm1
  have w2 : IntKind.i64.wrap (m1 + (n1 : Int)) = m := hmm
  clear hr hy hz hS hc hXs hX hrr hm1 hmm
  go_enter Tryz.func59, Tryz.ntmps59
  go_wp2_with fail
  go_region
  obtain ⟨W1, hW1⟩ : ∃ W, Hid (((w.setCell ⟨q, 0, none⟩ (.int .i64 m)).alloc (.cells #[.string X, .slice A1 n1 c1, .slice A2 n2 c2, .int .i64 ln] 55)).drew = W) := ⟨_, Lib.hid rfl⟩
  have HC2 : Hid (Cn W1 q m) := Lib.hid (by rw [← hW1.out]; exact heap_old (HC.out.set m) _)
  have HK2 : Hid (Kp q w W1) := Lib.hid (by rw [← hW1.out]; exact (((Kp.refl q w).set (p := ⟨q, 0, none⟩) rfl (.int .i64 m)).alloc _).drew)
  have HQ2 : Hid (W1.heap[w.heap.size]? = some (.cells #[.string X, .slice A1 n1 c1, .slice A2 n2 c2, .int .i64 ln] 55 (0, 0))) := Lib.hid (by
    rw [← hW1.out]
    have := heap_new (w.setCell ⟨q, 0, none⟩ (.int .i64 m)) (.cells #[.string X, .slice A1 n1 c1, .slice A2 n2 c2, .int .i64 ln] 55)
    rw [show (w.setCell ⟨q, 0, none⟩ (.int .i64 m)).heap.size = w.heap.size by simp [World.setCell]] at this
    exact this)
  rw [hW1.out]
  have HLG := Lib.hid (long_any ps W1 S (.slice A1 n1 c1) (Rw.keep (fun p hp => HK2.out.cellq (HSS.out _ hp).1 (HSS.out _ hp).2) (fun _ h => h) _ _ HY.out))
  have HST := Lib.hid (fun (h0 : m ≤ many) => hugestmts_any q many hm hm0 lv hlv st m W1 S (.slice A2 n2 c2) (fun b hb => ⟨Nat.lt_of_lt_of_le (HSS.out b hb).1 HK2.out.size, (HSS.out b hb).2⟩) (Rw.keep (fun p hp => HK2.out.cellq (HSS.out _ hp).1 (HSS.out _ hp).2) (fun _ h => h) _ _ HZ.out) HC2.out hml0 h0)
  clear b0 b1 b2 b3 c0 f0 hW1
  obtain ⟨⟨b0, b1, b2, b3⟩, -⟩ := box4f HQ2.out
  have c0 := cell_of_one HC2.out
  obtain ⟨lg, hlg⟩ : ∃ lg, Hid (longF ps = lg) := ⟨_, Lib.hid rfl⟩
  rw [hlg.out] at HF HLG
  by_cases hA : many < m
  · have t1 : decide (many < m) = true := decide_eq_true hA
    have t2 : decide (m > many) = true := decide_eq_true hA
    have HE : Hid (none = r) := Lib.hid (by rw [← HF.out, if_pos (.inl hA)])
    clear HF
    go_wp2_with fail
    go_ret
    exact ⟨by rw [← HE.out]; rfl, ⟨_, HC2.out, fun c' h => by rw [← HE.out] at h; cases h⟩, HK2.out⟩
  · have t1 : decide (many < m) = false := decide_eq_false hA
    have t2 : decide (m > many) = false := decide_eq_false hA
    by_cases hL : 1000 < k
    · have t3 : (1000 : Int) < (k : Int) := by omega
      have t4 : decide ((1000 : Int) < (k : Int)) = true := decide_eq_true t3
      have HE : Hid (none = r) := Lib.hid (by rw [← HF.out, if_pos (.inr (.inl hL))])
      clear HF
      go_wp2_with fail
      go_ret
      exact ⟨by rw [← HE.out]; rfl, ⟨_, HC2.out, fun c' h => by rw [← HE.out] at h; cases h⟩, HK2.out⟩
    · have t3 : ¬ (1000 : Int) < (k : Int) := by omega
      have t4 : decide ((1000 : Int) < (k : Int)) = false := decide_eq_false t3
      cases lg with
      | true =>
        have HE : Hid (none = r) := Lib.hid (by rw [← HF.out, if_pos (.inr (.inr rfl))])
        clear HF HST
        go_wp2_with (first
          | (go_at_call 60
             refine HLG.out.mono ?_
             rintro e w1 ⟨rfl, rfl⟩)
          | (fail))
        go_ret
        exact ⟨by rw [← HE.out]; rfl, ⟨_, HC2.out, fun c' h => by rw [← HE.out] at h; cases h⟩, HK2.out⟩
      | false =>
        have HE : Hid (hgSs many lv st m = r) := Lib.hid (by rw [← HF.out, if_neg (by rintro (h | h | h); exact hA h; exact hL h; cases h)])
        have HS2 := Lib.hid (HST.out (by omega))
        rw [HE.out] at HS2
        clear HF HST
        go_wp2_with (first
          | (go_at_call 60
             refine HLG.out.mono ?_
             rintro e w1 ⟨rfl, rfl⟩)
          | (go_at_call 119
             refine HS2.out.mono ?_
             rintro e w3 ⟨rfl, hz3, hk3⟩
             have HZ3 := Lib.hid hz3
             have HK3 := Lib.hid (HK2.out.trans hk3)
             clear hz3 hk3)
          | (fail))
        go_ret
        exact ⟨rfl, HZ3.out, HK3.out⟩
end Go.Proofs.YteacmanbiamhoaaGreatDoor
