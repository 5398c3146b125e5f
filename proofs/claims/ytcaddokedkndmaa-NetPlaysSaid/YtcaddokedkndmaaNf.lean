/- droverlaw06.same, awake: the walks. -/
import Derived.Test.YtcaddokedkndmaaNe
import Derived.Lib.SlBytesConst
namespace Go.Proofs.Ytcaddokedkndmaa
open Go.RowKit
set_option linter.unusedVariables false

section
variable {w w' : World} {base q N : Nat} {r r' : Option Nat} {l l' : List Gr}
theorem AfterN.keep (h : NtAt w base q r N l) (ha : AfterN w base q r N l' w') {k : Nat} {C : Array Value} {T : TypeId} {fr : Nat × Nat} (hk : w.heap[k]? = some (.cells C T fr)) (h1 : T ≠ 54) (h2 : T ≠ 67) : w'.heap[k]? = some (.cells C T fr) := by
  obtain ⟨r', -, hk', -⟩ := ha
  exact hk'.heap hk (h.q_ne hk h1) (h.row_ne hk h2)
theorem AfterN.bx (h : NtAt w base q r N l) (ha : AfterN w base q r N l' w') {v : Value} {x : List Nat} (hv : Bx w base v x) : Bx w' base v x := by
  obtain ⟨r', -, hk', -⟩ := ha
  exact hv.kr h hk'
theorem AfterN.low (h : NtAt w base q r N l) (ha : AfterN w base q r N l' w') : Below base w w' := by
  obtain ⟨r', -, hk', -⟩ := ha
  exact h.belowOf hk'
theorem Bx.of_blk {b c n : Nat} {cur : Array Value} {fr : Nat × Nat} {x : List Nat} (h : Bs w (.slice (some ⟨b, 0, none⟩) n c) x) (hh : w.heap[b]? = some (.cells cur 5 fr)) : Bx w base (.slice (some ⟨b, 0, none⟩) n c) x := by
  obtain ⟨⟨A, c', h1, h2, h3⟩, h4⟩ := h
  refine ⟨⟨A, c', h1, h2, fun hn => ?_⟩, h4⟩
  obtain ⟨b', o, k1, k2, k3⟩ := h3 hn
  refine ⟨b', o, k1, .inr ⟨cur, fr, ?_⟩, k3⟩
  injection h1 with h1 _ _
  subst h1
  injection k1 with k1
  injection k1 with k1 _
  subst k1
  exact hh
/-- A datagram as a value. -/
def GmIs (w : World) (v : Value) (x : Gr) : Prop := ∃ u, v = .agg #[.int .i64 x.fr, .int .i64 x.to, u] ∧ Bs w u x.d
theorem GmIs.zero (w : World) : GmIs w (.agg #[.int .i64 0, .int .i64 0, .slice none 0 0]) gz := ⟨_, rfl, Bs.nil w⟩
set_option maxHeartbeats 800000 in
theorem samegr_any (a b : Value) (x : Gr) (ha : GmIs w a x) (hb : GmIs w b x) : Calls Try.prog 24 #[a, b] w fun e w' => e = .returned (.bool true) ∧ Below w.heap.size w w' := by
  obtain ⟨u, rfl, hu⟩ := ha
  obtain ⟨v, rfl, hv⟩ := hb
  have hW := two w (.cells #[.int .i64 x.fr, .int .i64 x.to, u] 29) (.cells #[.int .i64 x.fr, .int .i64 x.to, v] 29)
  have q0 := heap_old (heap_new w (.cells #[.int .i64 x.fr, .int .i64 x.to, u] 29)) (.cells #[.int .i64 x.fr, .int .i64 x.to, v] 29)
  have q1 := heap_new' (w.alloc (.cells #[.int .i64 x.fr, .int .i64 x.to, u] 29)) (.cells #[.int .i64 x.fr, .int .i64 x.to, v] 29) (w.heap.size + 1) (by simp)
  obtain ⟨⟨c0, c1, c2⟩, -⟩ := box3 q0
  obtain ⟨⟨d0, d1, d2⟩, -⟩ := box3 q1
  have HS := Lib.hid (same_bs u v x.d x.d true _ (hu.below hW) (hv.below hW) (by simp))
  go_enter Try.func24, Try.ntmps24
  go_wp2_with fail
  refine HS.out.mono ?_
  rintro e w1 ⟨rfl, rfl⟩
  go_wp2_with fail
  go_ret
  exact ⟨rfl, hW⟩
end
def ga : Gr := ⟨0, 1, [97]⟩
def gb6 : Gr := ⟨1, 0, [98]⟩
set_option maxRecDepth 100000 in
set_option maxHeartbeats 3200000 in
theorem awake06_any (w : World) : Calls Try.prog 17 #[] w fun e w' => e = .returned (.bool true) ∧ Below w.heap.size w w' := by
  have hcv : ∀ (w : World) (C : Array Value) (n c g : Nat), g = w.heap.size → (convert 26 26 (.slice (some ⟨g, 0, none⟩) n c)).run Try.prog (w.alloc (.cells C 5)) = .ok (.slice (some ⟨g, 0, none⟩) n c) (w.alloc (.cells C 5 (C.size, C.size + 1))) := by
    intro w C n c g hg
    subst hg
    exact Lib.run_convert_bytes_const (P := Try.prog) w 26 5 C n c Try.underlying26 Try.underlying5
  go_enter Try.func17, Try.ntmps17
  go_wp2_with fail
  refine (new_any 2 w).mono ?_
  rintro e w1 (⟨h, -, -⟩ | ⟨N, hN, -, -, rfl, hn1, hb1⟩)
  · omega
  obtain rfl : N = 2 := by omega
  clear hN
  go_wp2_with fail
  -- Send a
  have ha := hb1.alloc hb1.size (.cells #[.int .u8 97] 5 (1, 2))
  have hn := hn1.below ((Below.refl w1.heap.size w1).alloc (Nat.le_refl _) (.cells #[.int .u8 97] 5 (1, 2)))
  refine (send_any hn 0 1 _ [97] (Bs.made' w1 #[.int .u8 97] 5 [97] 1 w1.heap.size rfl rfl rfl (by simp) (1, 2))).mono ?_
  rintro e w2 ⟨rfl, r2, hn2, hk2, -⟩
  rw [show sendE 2 [] 0 1 [97] = 0 from rfl]
  replace hn2 : NtAt w2 w.heap.size w.heap.size r2 2 [ga] := hn2
  have hb2 := ha.trans (hn.belowOf hk2)
  clear ha hn hk2 hn1 hb1
  go_wp2_with fail
  -- Send b
  have ha := hb2.alloc hb2.size (.cells #[.int .u8 98] 5 (1, 2))
  have hn := hn2.below ((Below.refl w2.heap.size w2).alloc (Nat.le_refl _) (.cells #[.int .u8 98] 5 (1, 2)))
  refine (send_any hn 1 0 _ [98] (Bs.made' w2 #[.int .u8 98] 5 [98] 1 w2.heap.size rfl rfl rfl (by simp) (1, 2))).mono ?_
  rintro e w3 ⟨rfl, r3, hn3, hk3, -⟩
  rw [show sendE 2 [ga] 1 0 [98] = 0 from rfl]
  replace hn3 : NtAt w3 w.heap.size w.heap.size r3 2 [ga, gb6] := hn3
  have hb3 := ha.trans (hn.belowOf hk3)
  clear ha hn hk3 hn2 hb2
  go_wp2_with fail
  refine (flying_any hn3).mono ?_
  rintro e wx ⟨rfl, rfl⟩
  rw [show ([ga, gb6] : List Gr).length = 2 from rfl]
  go_wp2_with fail
  -- Copy 0
  refine (copy_any6 hn3 0).mono ?_
  rintro e w4 ⟨rfl, r4, hn4, hk4, -⟩
  rw [show copyE [ga, gb6] 0 = 0 from rfl]
  replace hn4 : NtAt w4 w.heap.size w.heap.size r4 2 [ga, gb6, ga] := hn4
  have hb4 := hb3.trans (hn3.belowOf hk4)
  clear hk4 hn3 hb3
  go_wp2_with fail
  -- Look 2
  refine (look_any hn4 2).mono ?_
  rintro e w5 ⟨hb5, he⟩
  obtain ⟨b5, c5, cur5, fr5, rfl, -, hh5, hbs5, -⟩ : ∃ b c cur fr, e = .returned (.tuple #[.agg #[.int .i64 0, .int .i64 1, .slice (some ⟨b, 0, none⟩) 1 c], .bool true]) ∧ w4.heap.size ≤ b ∧ w5.heap[b]? = some (.cells cur 5 fr) ∧ Bs w5 (.slice (some ⟨b, 0, none⟩) 1 c) [97] ∧ ∀ j, j < 1 → w5.frozen? ⟨b, j, none⟩ = false := he
  have hx5 := Bx.of_blk (base := w.heap.size) hbs5 hh5
  have ho5 := (Below.refl w5.heap.size w5).alloc (Nat.le_refl _) (.cells #[.int .i64 0, .int .i64 1, .slice (some ⟨b5, 0, none⟩) 1 c5] 29)
  have hq5 := heap_new w5 (.cells #[.int .i64 0, .int .i64 1, .slice (some ⟨b5, 0, none⟩) 1 c5] 29)
  replace hx5 := hx5.below ho5
  have hn := (hn4.below hb5).below ho5
  have hb := (nxt hb4 hb5).trans (ho5.mono (nxt hb4 hb5).size)
  obtain ⟨B5, hB5⟩ : ∃ B, B = w5.heap.size := ⟨_, rfl⟩
  go_wp2_with fail
  rw [← hB5] at hq5 ⊢
  -- Take 1
  refine (take_any hn 1).mono ?_
  rintro e w6 ⟨ha6, he⟩
  obtain ⟨b6, c6, cur6, fr6, rfl, -, hh6, hbs6, -⟩ : ∃ b c cur fr, e = .returned (.tuple #[.agg #[.int .i64 1, .int .i64 0, .slice (some ⟨b, 0, none⟩) 1 c], .bool true]) ∧ _ ≤ b ∧ w6.heap[b]? = some (.cells cur 5 fr) ∧ Bs w6 (.slice (some ⟨b, 0, none⟩) 1 c) [98] ∧ ∀ j, j < 1 → w6.frozen? ⟨b, j, none⟩ = false := he
  have hq6 := ha6.keep hn hq5 (by decide) (by decide)
  have hx6 := ha6.bx hn hx5
  have hb6 := hb.trans (ha6.low hn)
  obtain ⟨r6, hn6, -, -⟩ := ha6
  replace hn6 : NtAt w6 w.heap.size w.heap.size r6 2 [ga, ga] := hn6
  have hy6 := Bx.of_blk (base := w.heap.size) hbs6 hh6
  have ho6 := (Below.refl w6.heap.size w6).alloc (Nat.le_refl _) (.cells #[.int .i64 1, .int .i64 0, .slice (some ⟨b6, 0, none⟩) 1 c6] 29)
  have hp6 := heap_new w6 (.cells #[.int .i64 1, .int .i64 0, .slice (some ⟨b6, 0, none⟩) 1 c6] 29)
  replace hx6 := hx6.below ho6
  replace hy6 := hy6.below ho6
  replace hq6 := heap_below hq6 ho6
  have hn := hn6.below ho6
  have hb := hb6.trans (ho6.mono hb6.size)
  clear hq5 hx5 ho5 hn4 hb4 hb5 hbs5 hh5 hB5 hbs6 hh6 hb6 hn6
  obtain ⟨B6, hB6⟩ : ∃ B, B = w6.heap.size := ⟨_, rfl⟩
  go_wp2_with fail
  rw [← hB6] at hp6 ⊢
  -- Drop 0
  refine (drop_any hn 0).mono ?_
  rintro e w7 ⟨rfl, ha7⟩
  rw [show hasB [ga, ga].length 0 = true from rfl]
  have hq7 := ha7.keep hn hq6 (by decide) (by decide)
  have hp7 := ha7.keep hn hp6 (by decide) (by decide)
  have hx7 := ha7.bx hn hx6
  have hy7 := ha7.bx hn hy6
  have hb7 := hb.trans (ha7.low hn)
  obtain ⟨r7, hn7, -, -⟩ := ha7
  replace hn7 : NtAt w7 w.heap.size w.heap.size r7 2 [ga] := hn7
  clear hq6 hp6 hx6 hy6 hn hb ho6 hB6
  go_wp2_with fail
  -- Forget 1
  refine (forget_any hn7 1).mono ?_
  rintro e w8 ⟨rfl, ha8⟩
  rw [show (([ga] : List Gr).length - (rest [ga] 1).length) = 1 from rfl]
  have hq8 := ha8.keep hn7 hq7 (by decide) (by decide)
  have hp8 := ha8.keep hn7 hp7 (by decide) (by decide)
  have hx8 := ha8.bx hn7 hx7
  have hy8 := ha8.bx hn7 hy7
  have hb8 := hb7.trans (ha8.low hn7)
  obtain ⟨r8, hn8, -, -⟩ := ha8
  replace hn8 : NtAt w8 w.heap.size w.heap.size r8 2 [] := hn8
  clear hq7 hp7 hx7 hy7 hn7 hb7
  go_wp2_with fail
  -- Look 0
  refine (look_any hn8 0).mono ?_
  rintro e w9 ⟨hb9, he⟩
  obtain rfl : e = .returned (.tuple #[.agg #[.int .i64 0, .int .i64 0, .slice none 0 0], .bool false]) := he
  have ho9 := (Below.refl w9.heap.size w9).alloc (Nat.le_refl _) (.cells #[.int .i64 0, .int .i64 0, .slice none 0 0] 29)
  have hq9 := heap_below (heap_below hq8 hb9) ho9
  have hp9 := heap_below (heap_below hp8 hb9) ho9
  have hx9 := (hx8.below hb9).below ho9
  have hy9 := (hy8.below hb9).below ho9
  have hn9 := (hn8.below hb9).below ho9
  have hb := (nxt hb8 hb9).trans (ho9.mono (nxt hb8 hb9).size)
  obtain ⟨W, hW⟩ : ∃ W, W = w9.alloc (.cells #[.int .i64 0, .int .i64 0, .slice none 0 0] 29) := ⟨_, rfl⟩
  clear hq8 hp8 hx8 hy8 hn8 hb8 hb9 ho9
  obtain ⟨⟨c0, c1, c2⟩, -⟩ := box3 hq9
  go_wp2_with fail
  rw [← hW] at hq9 hp9 hx9 hy9 hn9 hb
  rw [← hW]
  clear c0 c1 c2
  have hs : w9.heap.size + 1 = W.heap.size := by rw [hW]; simp
  rw [hs]
  clear hW hs
  have hoA := (Below.refl W.heap.size W).alloc (Nat.le_refl _) (.cells #[.int .u8 97] 5 (1, 2))
  refine (samegr_any _ _ ga ⟨_, rfl, (hx9.below hoA).bs⟩ ⟨_, rfl, Bs.made' W #[.int .u8 97] 5 [97] 1 W.heap.size rfl rfl rfl (by simp) (1, 2)⟩).mono ?_
  rintro e w10 ⟨rfl, hb10⟩
  have hp10 := heap_below (heap_below hp9 hoA) hb10
  have hy10 := (hy9.below hoA).below hb10
  have hn10 := (hn9.below hoA).below hb10
  have hbA := hb.trans ((nxt hoA hb10).mono hb.size)
  clear hq9 hp9 hx9 hy9 hn9 hb hoA hb10
  obtain ⟨⟨d0, d1, d2⟩, -⟩ := box3 hp10
  go_wp2_with fail
  clear d0 d1 d2
  have hoB := (Below.refl w10.heap.size w10).alloc (Nat.le_refl _) (.cells #[.int .u8 98] 5 (1, 2))
  refine (samegr_any _ _ gb6 ⟨_, rfl, (hy10.below hoB).bs⟩ ⟨_, rfl, Bs.made' w10 #[.int .u8 98] 5 [98] 1 w10.heap.size rfl rfl rfl (by simp) (1, 2)⟩).mono ?_
  rintro e w11 ⟨rfl, hb11⟩
  have hn11 := (hn10.below hoB).below hb11
  have hbB := hbA.trans ((nxt hoB hb11).mono hbA.size)
  clear hp10 hy10 hn10 hbA hoB hb11
  go_wp2_with fail
  refine (flying_any hn11).mono ?_
  rintro e wx ⟨rfl, rfl⟩
  rw [show ([] : List Gr).length = 0 from rfl]
  go_wp2_with fail
  go_ret
  exact ⟨rfl, hbB⟩
end Go.Proofs.Ytcaddokedkndmaa
