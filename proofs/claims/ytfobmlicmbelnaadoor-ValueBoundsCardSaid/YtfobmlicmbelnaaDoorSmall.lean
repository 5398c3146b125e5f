/- drover/droverlow.SmallValue: the walk. -/
import Derived.Test.YtfobmlicmbelnaaDoorBuf
namespace Go.Proofs.YtfobmlicmbelnaaDoor
open Go.RowKit

/-- A value that is looked at: so many levels, so many parts of each. -/
def smallV (many : Nat) : Nat → Va → Bool
  | 0, _ => false
  | L + 1, .mk _ _ s l => decide (l.length ≤ many) && decide (s.length ≤ 5000) && l.all (smallV many L)

set_option maxRecDepth 100000 in
set_option maxHeartbeats 1600000 in
theorem small_any (many : Nat) (hmany : many ≤ 1000) : ∀ (L : Nat) (t : Va) (v : Value) (w : World) (B : Nat), L ≤ 1000 → Rep w B v t → B ≤ w.heap.size →
    Calls Tryd.prog 26 #[v, .int .i64 (L : Int), .int .i64 (many : Int)] w fun e w' => e = .returned (.bool (smallV many L t)) ∧ Below w.heap.size w w' := by
  intro L
  induction L with
  | zero =>
    intro t v w B _ hrep hB
    obtain ⟨k, n, s, l⟩ := t
    obtain ⟨y0, y1, y2, y3, rfl⟩ := hrep.form
    obtain ⟨A, c, rfl, rfl, rfl, rfl, -⟩ := hrep.parts
    go_enter Tryd.func26, Tryd.ntmps26
    go_wp2_with fail
    go_ret
    exact ⟨rfl, (Below.refl _ _).alloc (Nat.le_refl _) _⟩
  | succ L ih =>
    intro t v w B hL hrep hB
    obtain ⟨k, n, s, l⟩ := t
    obtain ⟨y0, y1, y2, y3, rfl⟩ := hrep.form
    obtain ⟨A, c, rfl, rfl, rfl, rfl, hk8, hn0, hn1, hs8, hsl, hcl, hcm, hl⟩ := hrep.parts
    have HZ := strOf_size s
    have g0 : decide (((L + 1 : Nat) : Int) < 1) = false := by simp; omega
    clear hs8 hk8 hn0 hn1 hrep
    have E : smallV many (L + 1) (.mk k n s l) = (decide (l.length ≤ many) && decide (s.length ≤ 5000) && l.all (smallV many L)) := rfl
    by_cases h1 : l.length ≤ many
    · by_cases h2 : s.length ≤ 5000
      · have HE : Hid (smallV many (L + 1) (.mk k n s l) = l.all (smallV many L)) := by
          show _ = _
          rw [E, decide_eq_true h1, decide_eq_true h2]
          rfl
        have g1 : decide ((many : Int) < (l.length : Int)) = false := by simp; omega
        have g1' : decide (many < l.length) = false := by simp; omega
        have g2 : decide ((5000 : Int) < ((strOf s).size : Int)) = false := by simp; omega
        have g2' : decide (5000 < (strOf s).size) = false := by simp; omega
        have HZ' := Lib.hid HZ
        clear E HZ
        obtain ⟨W2, hW2⟩ : ∃ W2 : World, W2 = w.alloc (.cells #[.int .u8 (k : Int), .int .i64 n, .string (strOf s), .slice A l.length c] 25) := ⟨_, rfl⟩
        have q1 : W2.heap[w.heap.size]? = some (.cells #[.int .u8 (k : Int), .int .i64 n, .string (strOf s), .slice A l.length c] 25 (0, 0)) := by rw [hW2]; exact heap_new _ _
        have q3 : Below w.heap.size w W2 := by rw [hW2]; exact (Below.refl _ _).alloc (Nat.le_refl _) _
        have HW := Lib.hid hW2
        clear hW2
        go_enter Tryd.func26, Tryd.ntmps26
        go_wp2_with fail
        rw [← HW.out]
        go_loopw [7] (fun i wr => ∃ j : Nat, j ≤ l.length ∧ i = .int .i64 (j : Int) ∧ Hid ((l.take j).all (smallV many L) = true) ∧ Below W2.heap.size W2 wr) (fun i _ => l.length - (intOf i).toNat)
        case atStart => exact ⟨0, Nat.zero_le _, rfl, rfl, Below.refl _ _⟩
        case round =>
          obtain ⟨j, hj, rfl, HF, hbr⟩ := hrel
          obtain ⟨p0, p1, p2, p3⟩ := box4 (heap_below q1 hbr)
          have hb5 : Below w.heap.size w wr := q3.trans (hbr.mono q3.size)
          have hbel : Below B w wr := hb5.mono hB
          by_cases hlt : j < l.length
          · obtain ⟨b, o, y0, y1, y2, y3, rfl, hbB, hrange, hrepj⟩ := hl.at j hlt
            have HJ : Hid ((l.take (j + 1)).all (smallV many L) = smallV many L l[j]) := by
              show _ = _
              rw [List.take_succ_eq_append_getElem hlt, List.all_append, HF.out]
              simp
            have HA : Hid (l.all (smallV many L) = true → smallV many L l[j] = true) := fun h => List.all_eq_true.1 h _ (List.getElem_mem hlt)
            have hrepj' := hrepj.under hbel
            generalize l[j] = tj at *
            obtain ⟨kj, nj, sj, lj⟩ := tj
            obtain ⟨Aj, cj, rfl, rfl, rfl, rfl, -⟩ := hrepj.parts
            have d0 : wr.cell? ⟨b, o + j * 4, none⟩ = some _ := (hbel.cell hbB).trans (hrange 0 _ rfl)
            have d1 : wr.cell? ⟨b, o + j * 4 + 1, none⟩ = some _ := (hbel.cell hbB).trans (hrange 1 _ rfl)
            have d2 : wr.cell? ⟨b, o + j * 4 + 2, none⟩ = some _ := (hbel.cell hbB).trans (hrange 2 _ rfl)
            have d3 : wr.cell? ⟨b, o + j * 4 + 3, none⟩ = some _ := (hbel.cell hbB).trans (hrange 3 _ rfl)
            have p5 : IntKind.i64.wrap (((L + 1 : Nat) : Int) - 1) = (L : Int) := by rw [IntKind.wrap_i64]; omega
            clear hrange hrepj
            go_wp2_with fail
            refine (ih _ _ _ B (by omega) hrepj' (Nat.le_trans hB hb5.size)).mono ?_
            rintro e w3 ⟨rfl, hb3⟩
            have hb4 : Below W2.heap.size W2 w3 := nxt hbr hb3
            clear hb3 hbr hrepj' d0 d1 d2 d3 p0 p1 p2 p3
            cases hres : smallV many L (.mk kj nj sj lj) with
            | false =>
              rw [hres] at HA HJ
              have HN : Hid (l.all (smallV many L) = false) := by
                show _ = _
                cases h : l.all (smallV many L) with
                | false => rfl
                | true => exact absurd (HA.out h) (by simp)
              clear HA HJ hres
              go_wp2_with fail
              go_ret
              exact ⟨ret_bool (by rw [HE.out, HN.out]), q3.trans (hb4.mono q3.size)⟩
            | true =>
              rw [hres] at HJ
              clear HA hres
              go_wp2_with fail
              go_roundw
              case rel => exact ⟨j + 1, by omega, by go_num, HJ, hb4⟩
              case measure => simp [intOf]; omega
          · obtain rfl : j = l.length := by omega
            rw [List.take_length] at HF
            go_wp2_with fail
            go_ret
            exact ⟨ret_bool (by rw [HE.out, HF.out]), hb5⟩
      · have HE : Hid (smallV many (L + 1) (.mk k n s l) = false) := by
          show _ = _
          rw [E, decide_eq_false h2]
          simp
        have g1 : decide ((many : Int) < (l.length : Int)) = false := by simp; omega
        have g1' : decide (many < l.length) = false := by simp; omega
        have g2 : decide ((5000 : Int) < ((strOf s).size : Int)) = true := by simp; omega
        have g2' : decide (5000 < (strOf s).size) = true := by simp; omega
        clear E HZ h2
        go_enter Tryd.func26, Tryd.ntmps26
        go_wp2_with fail
        go_ret
        exact ⟨ret_bool HE.out.symm, (Below.refl _ _).alloc (Nat.le_refl _) _⟩
    · have HE : Hid (smallV many (L + 1) (.mk k n s l) = false) := by
        show _ = _
        rw [E, decide_eq_false h1]
        simp
      have g1 : decide ((many : Int) < (l.length : Int)) = true := by simp; omega
      have g1' : decide (many < l.length) = true := by simp; omega
      clear E HZ h1
      go_enter Tryd.func26, Tryd.ntmps26
      go_wp2_with fail
      go_ret
      exact ⟨ret_bool HE.out.symm, (Below.refl _ _).alloc (Nat.le_refl _) _⟩
end Go.Proofs.YtfobmlicmbelnaaDoor
