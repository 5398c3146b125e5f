/- droverlaw06.NetTrue returns true whatever its argument: what is taken was sent, by whom it says to whom it says, byte by byte; those that are left stay in order. For every input, without conditions. -/
import Derived.Test.YtcaddokedkndmaaRow
import Derived.Test.YtcaddokedkndmaaNf
import Derived.Test.YtcaddokedkndmaaNk
import Derived.Test.YtcaddokedkndmaaOwn2
namespace Go.Proofs.Ytcaddokedkndmaa.netTrue
open Go.ChangeShapes Go.WideShapes Go.ChangeAt Go.RowKit
set_option linter.unusedVariables false

theorem w64_succ (k j : Nat) (h : k + 1 = j) (hk : k ≤ 100) : wrap64 ((k : Int) + 1) = (j : Int) := by
  rw [IntWalk.wrap64_in _ ⟨by omega, by omega⟩]
  omega
theorem i64_succ (k j : Nat) (h : k + 1 = j) (hk : k ≤ 100) : IntKind.i64.wrap ((k : Int) + 1) = (j : Int) := by
  rw [IntWalk.i64_in _ (by omega)]
  omega
theorem box5 {w : World} {g : Nat} {y0 y1 y2 y3 y4 : Value} {T : TypeId} (h : w.heap[g]? = some (.cells #[y0, y1, y2, y3, y4] T (0, 0))) :
    w.cell? ⟨g, 0, none⟩ = some y0 ∧ w.cell? ⟨g, 1, none⟩ = some y1 ∧ w.cell? ⟨g, 2, none⟩ = some y2 ∧ w.cell? ⟨g, 3, none⟩ = some y3 ∧ w.cell? ⟨g, 4, none⟩ = some y4 :=
  ⟨cell_block h 0, cell_block h 1, cell_block h 2, cell_block h 3, cell_block h 4⟩
/-- What holds at the loop's head: so many calls are done, the net and the list beside it are alike. -/
def TrI (w : World) (n : Nat) (v i : Value) (wr : World) : Prop := ∃ (j : Nat) (r : Option Nat) (L : List Gr), j ≤ n ∧ j ≤ 60 ∧ i = .int .i64 (j : Int) ∧ Below w.heap.size w wr ∧ NtAt wr w.heap.size w.heap.size r 3 L ∧ GR wr w.heap.size v L ∧ L.length ≤ j
theorem send_one (L : List Gr) (f t : Int) (d : List Nat) (hL : L.length ≤ 60) (hd : d.length ≤ 100) : sendE 3 L (f % 3) (t % 3) d = 0 ∧ sendL 3 L (f % 3) (t % 3) d = L ++ [⟨f % 3, t % 3, d⟩] := by
  have b1 : hasB 3 (f % 3) = true := by simp [hasB]; omega
  have b2 : hasB 3 (t % 3) = true := by simp [hasB]; omega
  have hE : sendE 3 L (f % 3) (t % 3) d = 0 := by
    unfold sendE
    rw [b1, b2, if_neg (by simp), if_neg (by simp), if_neg (by omega), if_neg (by omega)]
  refine ⟨hE, ?_⟩
  unfold sendL
  rw [if_pos hE]
theorem copy_one (L : List Gr) (k : Nat) (x : Gr) (hx : L[k]? = some x) (hL : L.length ≤ 60) : copyE L (k : Int) = 0 ∧ copyL L (k : Int) = L ++ [x] := by
  have hk := (List.getElem?_eq_some_iff.1 hx).1
  have hn : nthG L (k : Int) = some x := by unfold nthG; rw [if_pos (by omega)]; simpa using hx
  constructor
  · unfold copyE
    rw [show hasB L.length (k : Int) = true by simp [hasB, hk], if_neg (by simp), if_neg (by omega)]
  · unfold copyL
    rw [if_neg (by omega), hn]
theorem drop_one (L : List Gr) (k : Nat) : dropL L (k : Int) = L.eraseIdx k := by unfold dropL; rw [if_pos (by omega)]; simp
theorem nth_one (L : List Gr) (k : Nat) (x : Gr) (hx : L[k]? = some x) : nthG L (k : Int) = some x := by unfold nthG; rw [if_pos (by omega)]; simpa using hx
theorem has_one (L : List Gr) (k : Nat) (x : Gr) (hx : L[k]? = some x) : hasB L.length (k : Int) = true := by
  have hk := (List.getElem?_eq_some_iff.1 hx).1
  simp [hasB, hk]

set_option maxRecDepth 100000 in
set_option maxHeartbeats 16000000 in
theorem walk (w : World) (a0 : Option Addr) (n0 c0 : Nat) (w0 : ∃ l, l.length = n0 ∧ n0 ≤ c0 ∧ c0 ≤ maxLen ∧ Ops6 w w.heap.size a0 l) :
    Calls Try.prog 6 #[.slice a0 n0 c0] w fun e w' => e = .returned (.bool true) ∧ Below w.heap.size w w' := by
  obtain ⟨l, hl, hc, hcm, hg⟩ := w0
  have HG := Lib.hid hg
  have HL := Lib.hid hl
  unfold maxLen at hcm
  clear hg hl
  go_enter Try.func6, Try.ntmps6
  go_wp2_with fail
  refine (new_any 3 w).mono ?_
  rintro e w1 (⟨h, -, -⟩ | ⟨N, hN, -, -, rfl, hn1, hb1⟩)
  · omega
  obtain rfl : N = 3 := by omega
  clear hN
  go_wp2_with fail
  go_loopw [5, 6] (fun v i wr => TrI w n0 v i wr) (fun _ i _ => n0 - (intOf i).toNat)
  case atStart => exact ⟨0, none, [], by omega, by omega, rfl, hb1, hn1, GR.nil _ _, by simp⟩
  case round =>
    obtain ⟨j, r, L, hjn, hj60, rfl, hbr, hnr, hGr, hLj⟩ := hrel
    obtain ⟨A, c, rfl, hAc, hcm2⟩ := hGr.slice
    obtain ⟨m, hm⟩ : ∃ m, Hid (L.length = m) := ⟨_, Lib.hid rfl⟩
    rw [hm.out] at hAc hLj
    have HV := Lib.hid hGr
    rw [show (Value.slice A L.length c) = .slice A m c by rw [hm.out]] at HV ⊢
    have HN := Lib.hid hnr
    clear hGr hnr hn1 hb1
    unfold maxLen at hcm2
    obtain ⟨bb, hbb⟩ : ∃ b, Hid (decide (j < n0 ∧ j < 60) = b) := ⟨_, Lib.hid rfl⟩
    go_upto_region 6 with fail
    go_cut [32] from 25 to 32 (fun s wx => s = .bool bb ∧ wr = wx)
    case first =>
      by_cases h1 : j < n0
      · have d1 : decide ((j : Int) < (n0 : Int)) = true := decide_eq_true (by omega)
        have d2 : decide (j < n0) = true := decide_eq_true h1
        obtain ⟨b2, hb2⟩ : ∃ b, decide ((j : Int) < 60) = b := ⟨_, rfl⟩
        have hb3 : decide (j < 60) = b2 := by rw [← hb2]; exact decide_eq_decide.2 (by omega)
        obtain rfl : bb = b2 := by rw [← hbb.out, ← hb3]; exact decide_eq_decide.2 ⟨fun h => h.2, fun h => ⟨h1, h⟩⟩
        go_wp2_with fail
        go_meet
        exact ⟨rfl, rfl⟩
      · have d1 : decide ((j : Int) < (n0 : Int)) = false := decide_eq_false (by omega)
        have d2 : decide (j < n0) = false := decide_eq_false h1
        obtain rfl : bb = false := by rw [← hbb.out]; exact decide_eq_false (fun h => h1 h.1)
        go_wp2_with fail
        go_meet
        exact ⟨rfl, rfl⟩
    case rest =>
      obtain ⟨rfl, rfl⟩ := hcut
      cases bb with
      | true =>
        obtain ⟨hlt, hlt2⟩ := of_decide_eq_true hbb.out
        have hjl : j < l.length := by have := HL.out; omega
        obtain ⟨x, hx⟩ : ∃ x, Hid (l[j]? = some x) := ⟨l[j], Lib.hid (List.getElem?_eq_getElem hjl)⟩
        obtain ⟨b, o, y0, y1, y2, y3, y4, rfl, hbB, hra, Ad, cd, rfl, rfl, rfl, rfl, rfl, hcd, hat, h8, -, -, -, -, -⟩ := HG.out j x hx.out
        have H8 := Lib.hid h8
        have t0 := (hbr.cell (p := ⟨b, o + j * 5, none⟩) hbB).trans (hra 0 _ rfl)
        have t1 := (hbr.cell (p := ⟨b, o + j * 5 + 1, none⟩) hbB).trans (hra 1 _ rfl)
        have t2 := (hbr.cell (p := ⟨b, o + j * 5 + 2, none⟩) hbB).trans (hra 2 _ rfl)
        have t3 := (hbr.cell (p := ⟨b, o + j * 5 + 3, none⟩) hbB).trans (hra 3 _ rfl)
        have t4 := (hbr.cell (p := ⟨b, o + j * 5 + 4, none⟩) hbB).trans (hra 4 _ rfl)
        have hbx : Bx w w.heap.size (.slice Ad x.d.length cd) x.d := Bx.of_bs ⟨⟨Ad, cd, rfl, hcd, hat⟩, h8⟩ (Nat.le_refl _)
        have hb8 := (Below.refl wr.heap.size wr).alloc (Nat.le_refl _) (.cells #[.int .i64 x.k, .int .i64 x.fr, .int .i64 x.to, .int .i64 x.i, .slice Ad x.d.length cd] 44)
        have hq8 := heap_new wr (.cells #[.int .i64 x.k, .int .i64 x.fr, .int .i64 x.to, .int .i64 x.i, .slice Ad x.d.length cd] 44)
        have HN8 := Lib.hid (HN.out.below hb8)
        have HV8 := Lib.hid (HV.out.below hb8)
        have HX8 := Lib.hid ((hbx.below hbr).below hb8)
        have hbw := nxt hbr hb8
        obtain ⟨W, hW⟩ : ∃ W, W = wr.alloc (.cells #[.int .i64 x.k, .int .i64 x.fr, .int .i64 x.to, .int .i64 x.i, .slice Ad x.d.length cd] 44) := ⟨_, rfl⟩
        obtain ⟨B, hB⟩ : ∃ B, B = wr.heap.size := ⟨_, rfl⟩
        clear hra hat h8 hbx hjl hbr hb8 HN HV
        go_upto_region 9 with fail
        rw [← hW] at hq8 HN8 HV8 HX8 hbw ⊢
        rw [← hB] at hq8 ⊢
        clear hW hB t0 t1 t2 t3 t4 hbB
        obtain ⟨c0, c1, c2, c3, c4⟩ := box5 hq8
        by_cases h100 : x.d.length ≤ 100
        · have d1 : decide ((x.d.length : Int) > 100) = false := decide_eq_false (by omega)
          have d2 : decide (100 < x.d.length) = false := decide_eq_false (by omega)
          go_upto_region 10 with fail
          go_cut [8, 9] from 43 to 48 (fun s t wx => s = .int .i64 (x.fr % 3) ∧ t = .int .i64 (x.to % 3) ∧ wx = W.drew)
          case first =>
            clear HN8 HV8 HX8
            go_region_held3 (fun w' => w'.cell? ⟨B, 1, none⟩ = some (.int .i64 x.fr) ∧ w'.cell? ⟨B, 2, none⟩ = some (.int .i64 x.to)) (go_keep)
              (first
                | (go_at_call 25
                   with_reducible refine (pick_any x.fr 3 _ (by omega) (by omega)).mono ?_
                   rintro e wx ⟨rfl, rfl⟩)
                | (go_at_call 25
                   with_reducible refine (pick_any x.to 3 _ (by omega) (by omega)).mono ?_
                   rintro e wx ⟨rfl, rfl⟩)
                | (fail))
            all_goals
              go_wp2_with fail
              go_meet
              exact ⟨rfl, rfl, rfl⟩
          case rest =>
            obtain ⟨rfl, rfl, rfl⟩ := hcut
            clear d1 d2
            obtain ⟨W1, hW1⟩ : ∃ W1, W1 = W.drew := ⟨_, rfl⟩
            have HN9 : Hid (NtAt W1 w.heap.size w.heap.size r 3 L) := by rw [hW1]; exact Lib.hid HN8.out.drew
            have HV9 : Hid (GR W1 w.heap.size (.slice A m c) L) := by rw [hW1]; exact Lib.hid HV8.out.drew
            have HX9 : Hid (Bx W1 w.heap.size (.slice Ad x.d.length cd) x.d) := by rw [hW1]; exact Lib.hid HX8.out
            have hq9 : W1.heap[B]? = some (.cells #[.int .i64 x.k, .int .i64 x.fr, .int .i64 x.to, .int .i64 x.i, .slice Ad x.d.length cd] 44 (0, 0)) := by rw [hW1]; exact hq8
            have hb9 : Below w.heap.size w W1 := by rw [hW1]; exact bel_drew hbw
            rw [← hW1]
            clear hW1 HN8 HV8 HX8 hq8 hbw c0 c1 c2 c3 c4 W
            have HQ9 := Lib.hid hq9
            obtain ⟨c0, c1, c2, c3, c4⟩ := box5 hq9
            clear hq9
            have hm60 : m ≤ 60 := by omega
            have HK : Hid (x.k = 4 ∨ (x.k ≠ 4 ∧ x.k = 6) ∨ (x.k ≠ 4 ∧ x.k ≠ 6 ∧ x.k = 5) ∨ (x.k ≠ 4 ∧ x.k ≠ 6 ∧ x.k ≠ 5)) := Lib.hid (by omega)
            by_cases h0 : m = 0
            · subst h0
              obtain rfl : L = [] := List.length_eq_zero_iff.1 hm.out
              rcases HK.out with hk | hk | hk | hk
              ·
                have e4 : (x.k == 4) = true := by rw [hk]; rfl
                clear hk
                go_wp2_with fail
                refine (take_any HN9.out 0).mono ?_
                rintro e w4 ⟨ha4, he⟩
                rw [show nthG [] 0 = none from rfl] at he
                obtain rfl := he
                have hG4 := HV9.out.aft HN9.out ha4
                have hb4 := hb9.trans (ha4.low HN9.out)
                obtain ⟨r4, hn4, -, -⟩ := ha4
                rw [show dropL [] 0 = [] from rfl] at hn4
                have ho := (Below.refl w4.heap.size w4).alloc (Nat.le_refl _) (.cells #[.int .i64 0, .int .i64 0, .slice none 0 0] 29)
                have HGZ := Lib.hid (hG4.below ho)
                have HNZ := Lib.hid (hn4.below ho)
                have hb5 := nxt hb4 ho
                clear hG4 hn4 hb4 ho HN9 HV9 HX9 HQ9 c0 c1 c2 c3 c4
                go_wp2_with fail
                go_roundw
                case rel => exact ⟨j + 1, _, [], by omega, by omega, by go_num, hb5, HNZ.out, HGZ.out, by simp⟩
                case measure => simp [intOf]; omega
              ·
                have e4 : (x.k == 4) = false := beq_eq_false_iff_ne.2 hk.1
                have e6 : (x.k == 6) = true := by rw [hk.2]; rfl
                clear hk
                go_wp2_with fail
                refine (take_any HN9.out 0).mono ?_
                rintro e w4 ⟨ha4, he⟩
                rw [show nthG [] 0 = none from rfl] at he
                obtain rfl := he
                have hG4 := HV9.out.aft HN9.out ha4
                have hb4 := hb9.trans (ha4.low HN9.out)
                obtain ⟨r4, hn4, -, -⟩ := ha4
                rw [show dropL [] 0 = [] from rfl] at hn4
                have ho := (Below.refl w4.heap.size w4).alloc (Nat.le_refl _) (.cells #[.int .i64 0, .int .i64 0, .slice none 0 0] 29)
                have HGZ := Lib.hid (hG4.below ho)
                have HNZ := Lib.hid (hn4.below ho)
                have hb5 := nxt hb4 ho
                clear hG4 hn4 hb4 ho HN9 HV9 HX9 HQ9 c0 c1 c2 c3 c4
                go_wp2_with fail
                go_roundw
                case rel => exact ⟨j + 1, _, [], by omega, by omega, by go_num, hb5, HNZ.out, HGZ.out, by simp⟩
                case measure => simp [intOf]; omega
              ·
                have e4 : (x.k == 4) = false := beq_eq_false_iff_ne.2 hk.1
                have e6 : (x.k == 6) = false := beq_eq_false_iff_ne.2 hk.2.1
                have e5 : (x.k == 5) = true := by rw [hk.2.2]; rfl
                clear hk
                have HSE := Lib.hid (send_one ([] : List Gr) x.fr x.to x.d (by rw [hm.out]; exact hm60) h100)
                go_wp2_with fail
                refine (send_any HN9.out (x.fr % 3) (x.to % 3) _ x.d HX9.out.bs).mono ?_
                rw [HSE.out.1, HSE.out.2]
                rintro e w4 ⟨rfl, ha4⟩
                have hG4 := HV9.out.aft HN9.out ha4
                have hX4 := ha4.bx HN9.out HX9.out
                have hq4 := ha4.keep HN9.out HQ9.out (by decide) (by decide)
                have hb4 := hb9.trans (ha4.low HN9.out)
                obtain ⟨r4, hn4, -, -⟩ := ha4
                clear c0 c1 c2 c3 c4 HN9 HV9 HX9 HQ9 hb9 HSE
                obtain ⟨c0, c1, c2, c3, c4⟩ := box5 hq4
                go_wp2_with fail
                refine (copy_bs _ x.d w4 hX4.bs (by omega)).mono ?_
                rintro e w5 ⟨u, rfl, hown, hbs, hb5⟩
                have hXu : Bx w5 w.heap.size u x.d := Bx.of_own hown H8.out
                obtain ⟨Au, cu, rfl⟩ : ∃ A' c', u = .slice A' x.d.length c' := by obtain ⟨⟨A', c', h, -⟩, -⟩ := hXu; exact ⟨A', c', h⟩
                have hn5 := hn4.below hb5
                have hG5 := hG4.below hb5
                have hb6 := nxt hb4 hb5
                have hoA := (Below.refl w5.heap.size w5).alloc (Nat.le_refl _) (.cells #[.int .i64 (x.fr % 3), .int .i64 (x.to % 3), .slice Au x.d.length cu] 29)
                have hnA := hn5.below hoA
                have hGA := hG5.below hoA
                have hbA := nxt hb6 hoA
                have hat := gm_at w5 (.int .i64 (x.fr % 3)) (.int .i64 (x.to % 3)) (.slice Au x.d.length cu)
                have HCS := Lib.hid (Gcs.one (x := ⟨x.fr % 3, x.to % 3, x.d⟩) (hXu.below hoA))
                have H1 := Lib.hid (gm_ones (y0 := .int .i64 (x.fr % 3)) (y1 := .int .i64 (x.to % 3)) (y2 := .slice Au x.d.length cu) rfl rfl rfl)
                have hsz := hb6.size
                clear hown hbs hb5 hXu hn5 hG5 hn4 hG4 hX4 hq4 hb4 c0 c1 c2 c3 c4 hb6 hoA
                go_wp2_with (at_builtin
                             (refine wpList_gr rfl (.tmp 64) (.tmp 71) rfl rfl hGA rfl hat rfl HCS.out rfl H1.out (by have := hm.out; omega) (by simp; omega) ?_; intro v10 w10 hG10 hg10 hr10 hn10))
                have hn11 := hnA.rowgrown hg10 hr10
                have hb10 : Below w.heap.size w w10 := below_row hbA hg10 (by simp; omega) (fun g hg => (hr10 g hg).1)
                clear hg10 hr10 hn10 hat hnA hGA hbA
                obtain ⟨A', c', rfl, -, -⟩ := hG10.slice
                obtain ⟨n', hn'⟩ : ∃ n', Hid ((([] : List Gr) ++ [(⟨x.fr % 3, x.to % 3, x.d⟩ : Gr)]).length = n') := ⟨_, Lib.hid rfl⟩
                have HGZ := Lib.hid hG10
                rw [show (Value.slice A' (([] : List Gr) ++ [(⟨x.fr % 3, x.to % 3, x.d⟩ : Gr)]).length c') = .slice A' n' c' by rw [hn'.out]] at HGZ ⊢
                have HFZ := flying_any hn11
                rw [hn'.out] at HFZ
                have HNZ := Lib.hid hn11
                have hlen : (([] : List Gr) ++ [(⟨x.fr % 3, x.to % 3, x.d⟩ : Gr)]).length ≤ j + 1 := by rw [List.length_append, hm.out]; exact Nat.add_le_add_right hLj 1
                have HLZ := Lib.hid hlen
                clear hlen hG10 hn11
                have d9 : ((n' : Int) != (n' : Int)) = false := by simp
                go_wp2_with fail
                refine HFZ.mono ?_
                rintro e wx ⟨rfl, rfl⟩
                go_wp2_with fail
                go_roundw
                case rel => exact ⟨j + 1, _, ([] : List Gr) ++ [(⟨x.fr % 3, x.to % 3, x.d⟩ : Gr)], by omega, by omega, by go_num, hb10, HNZ.out, HGZ.out, HLZ.out⟩
                case measure => simp [intOf]; omega
              ·
                have e4 : (x.k == 4) = false := beq_eq_false_iff_ne.2 hk.1
                have e6 : (x.k == 6) = false := beq_eq_false_iff_ne.2 hk.2.1
                have e5 : (x.k == 5) = false := beq_eq_false_iff_ne.2 hk.2.2
                clear hk
                have HSE := Lib.hid (send_one ([] : List Gr) x.fr x.to x.d (by rw [hm.out]; exact hm60) h100)
                go_wp2_with fail
                refine (send_any HN9.out (x.fr % 3) (x.to % 3) _ x.d HX9.out.bs).mono ?_
                rw [HSE.out.1, HSE.out.2]
                rintro e w4 ⟨rfl, ha4⟩
                have hG4 := HV9.out.aft HN9.out ha4
                have hX4 := ha4.bx HN9.out HX9.out
                have hq4 := ha4.keep HN9.out HQ9.out (by decide) (by decide)
                have hb4 := hb9.trans (ha4.low HN9.out)
                obtain ⟨r4, hn4, -, -⟩ := ha4
                clear c0 c1 c2 c3 c4 HN9 HV9 HX9 HQ9 hb9 HSE
                obtain ⟨c0, c1, c2, c3, c4⟩ := box5 hq4
                go_wp2_with fail
                refine (copy_bs _ x.d w4 hX4.bs (by omega)).mono ?_
                rintro e w5 ⟨u, rfl, hown, hbs, hb5⟩
                have hXu : Bx w5 w.heap.size u x.d := Bx.of_own hown H8.out
                obtain ⟨Au, cu, rfl⟩ : ∃ A' c', u = .slice A' x.d.length c' := by obtain ⟨⟨A', c', h, -⟩, -⟩ := hXu; exact ⟨A', c', h⟩
                have hn5 := hn4.below hb5
                have hG5 := hG4.below hb5
                have hb6 := nxt hb4 hb5
                have hoA := (Below.refl w5.heap.size w5).alloc (Nat.le_refl _) (.cells #[.int .i64 (x.fr % 3), .int .i64 (x.to % 3), .slice Au x.d.length cu] 29)
                have hnA := hn5.below hoA
                have hGA := hG5.below hoA
                have hbA := nxt hb6 hoA
                have hat := gm_at w5 (.int .i64 (x.fr % 3)) (.int .i64 (x.to % 3)) (.slice Au x.d.length cu)
                have HCS := Lib.hid (Gcs.one (x := ⟨x.fr % 3, x.to % 3, x.d⟩) (hXu.below hoA))
                have H1 := Lib.hid (gm_ones (y0 := .int .i64 (x.fr % 3)) (y1 := .int .i64 (x.to % 3)) (y2 := .slice Au x.d.length cu) rfl rfl rfl)
                have hsz := hb6.size
                clear hown hbs hb5 hXu hn5 hG5 hn4 hG4 hX4 hq4 hb4 c0 c1 c2 c3 c4 hb6 hoA
                go_wp2_with (at_builtin
                             (refine wpList_gr rfl (.tmp 64) (.tmp 71) rfl rfl hGA rfl hat rfl HCS.out rfl H1.out (by have := hm.out; omega) (by simp; omega) ?_; intro v10 w10 hG10 hg10 hr10 hn10))
                have hn11 := hnA.rowgrown hg10 hr10
                have hb10 : Below w.heap.size w w10 := below_row hbA hg10 (by simp; omega) (fun g hg => (hr10 g hg).1)
                clear hg10 hr10 hn10 hat hnA hGA hbA
                obtain ⟨A', c', rfl, -, -⟩ := hG10.slice
                obtain ⟨n', hn'⟩ : ∃ n', Hid ((([] : List Gr) ++ [(⟨x.fr % 3, x.to % 3, x.d⟩ : Gr)]).length = n') := ⟨_, Lib.hid rfl⟩
                have HGZ := Lib.hid hG10
                rw [show (Value.slice A' (([] : List Gr) ++ [(⟨x.fr % 3, x.to % 3, x.d⟩ : Gr)]).length c') = .slice A' n' c' by rw [hn'.out]] at HGZ ⊢
                have HFZ := flying_any hn11
                rw [hn'.out] at HFZ
                have HNZ := Lib.hid hn11
                have hlen : (([] : List Gr) ++ [(⟨x.fr % 3, x.to % 3, x.d⟩ : Gr)]).length ≤ j + 1 := by rw [List.length_append, hm.out]; exact Nat.add_le_add_right hLj 1
                have HLZ := Lib.hid hlen
                clear hlen hG10 hn11
                have d9 : ((n' : Int) != (n' : Int)) = false := by simp
                go_wp2_with fail
                refine HFZ.mono ?_
                rintro e wx ⟨rfl, rfl⟩
                go_wp2_with fail
                go_roundw
                case rel => exact ⟨j + 1, _, ([] : List Gr) ++ [(⟨x.fr % 3, x.to % 3, x.d⟩ : Gr)], by omega, by omega, by go_num, hb10, HNZ.out, HGZ.out, HLZ.out⟩
                case measure => simp [intOf]; omega
            · obtain ⟨z, k, hk0, hkm, hz⟩ : ∃ (z : Gr) (k : Nat), x.i % (m : Int) = (k : Int) ∧ k < m ∧ Hid (L[k]? = some z) := by
                have h1 := Int.emod_nonneg x.i (show (m : Int) ≠ 0 by omega)
                have h2 := Int.emod_lt_of_pos x.i (show (0 : Int) < (m : Int) by omega)
                have h3 : (x.i % (m : Int)).toNat < L.length := by have := hm.out; omega
                exact ⟨L[(x.i % (m : Int)).toNat], (x.i % (m : Int)).toNat, by omega, by omega, Lib.hid (List.getElem?_eq_getElem h3)⟩
              have d0 : decide ((m : Int) > 0) = true := decide_eq_true (by omega)
              have d00 : decide (0 < m) = true := decide_eq_true (by omega)
              obtain ⟨g, u0, rfl, -⟩ := HV9.out.cell hz.out
              go_wp2_with fail
              refine (pick_any x.i (m : Int) _ (by omega) (by omega)).mono ?_
              rintro e wx ⟨rfl, rfl⟩
              rw [hk0]
              clear d0 d00 hk0
              have dk : decide ((k : Int) < 0) = false := decide_eq_false (by omega)
              have dk2 : decide ((k : Int) ≥ 0) = true := decide_eq_true (by omega)
              rcases HK.out with hk | hk | hk | hk
              ·
                have e4 : (x.k == 4) = true := by rw [hk]; rfl
                clear hk
                go_wp2_with fail
                refine (take_any HN9.out (k : Int)).mono ?_
                rintro e w4 ⟨ha4, he⟩
                rw [nth_one L k z hz.out] at he
                obtain ⟨b2, cc2, cur2, fr2, rfl, hbl, hbh, hbs, hfr⟩ := he
                have hV4 := HV9.out.aft HN9.out ha4
                have hb4 := hb9.trans (ha4.low HN9.out)
                obtain ⟨r4, hn4, -, -⟩ := ha4
                rw [drop_one] at hn4
                have ho := (Below.refl w4.heap.size w4).alloc (Nat.le_refl _) (.cells #[.int .i64 z.fr, .int .i64 z.to, .slice (some ⟨b2, 0, none⟩) z.d.length cc2] 29)
                have hqC := heap_new w4 (.cells #[.int .i64 z.fr, .int .i64 z.to, .slice (some ⟨b2, 0, none⟩) z.d.length cc2] 29)
                have HXC := Lib.hid ((Bx.of_blk (base := w.heap.size) hbs hbh).below ho)
                have HVC := Lib.hid (hV4.below ho)
                have HNC := Lib.hid (hn4.below ho)
                have hbC := nxt hb4 ho
                clear hV4 hb4 hn4 ho hbl hbh hbs hfr HN9 HV9 HX9 HQ9 hb9 c0 c1 c2 c3 c4
                obtain ⟨W2, hW2⟩ : ∃ W2, W2 = w4.alloc (.cells #[.int .i64 z.fr, .int .i64 z.to, .slice (some ⟨b2, 0, none⟩) z.d.length cc2] 29) := ⟨_, rfl⟩
                obtain ⟨B2, hB2⟩ : ∃ B2, B2 = w4.heap.size := ⟨_, rfl⟩
                go_upto_region 24 with fail
                rw [← hW2] at hqC HXC HVC HNC hbC ⊢
                rw [← hB2] at hqC ⊢
                clear hW2 hB2
                obtain ⟨g2, u, hge, t0, t1, t2, hbx⟩ := HVC.out.cell hz.out
                obtain rfl : g = g2 := by injection hge with hge; injection hge
                have hbu := Lib.hid hbx.bs
                have hbs := Lib.hid HXC.out.bs
                obtain ⟨⟨f0, f1, f2⟩, -⟩ := box3 hqC
                have hgW : g < W2.heap.size := World.block_lt_of_cell? W2 _ t0
                have HQC := Lib.hid hqC
                clear hbx hqC hge
                go_cut [109] from 99 to 109 (fun s wx => s = .bool false ∧ Below W2.heap.size W2 wx)
                case first =>
                  go_region_held3 (fun w' => (w'.cell? ⟨B2, 0, none⟩ = some (.int .i64 z.fr) ∧ w'.cell? ⟨B2, 1, none⟩ = some (.int .i64 z.to) ∧ w'.cell? ⟨B2, 2, none⟩ = some (.slice (some ⟨b2, 0, none⟩) z.d.length cc2)) ∧
                      (w'.cell? ⟨g, k * 3, none⟩ = some (.int .i64 z.fr) ∧ w'.cell? ⟨g, k * 3 + 1, none⟩ = some (.int .i64 z.to) ∧ w'.cell? ⟨g, k * 3 + 2, none⟩ = some u)) (go_keep)
                    (first
                      | (go_at_call 24
                         refine (samegr_any _ _ z ⟨_, rfl, hbs.out.drew⟩ ⟨_, rfl, hbu.out.drew⟩).mono ?_
                         rintro e w10 ⟨rfl, hb10'⟩
                         have hb10 := of_drew6 hb10'
                         obtain ⟨⟨f0, f1, f2⟩, -⟩ := box3 (heap_below HQC.out hb10)
                         have r0 := (hb10.cell (p := ⟨g, k * 3, none⟩) hgW).trans t0
                         have r1 := (hb10.cell (p := ⟨g, k * 3 + 1, none⟩) hgW).trans t1
                         have r2 := (hb10.cell (p := ⟨g, k * 3 + 2, none⟩) hgW).trans t2)
                      | (fail))
                  all_goals
                    go_wp2_with fail
                    go_meet
                    exact ⟨rfl, hb10⟩
                case rest =>
                  obtain ⟨rfl, hcut⟩ := hcut
                  have HVD := Lib.hid (HVC.out.below hcut)
                  have HND := Lib.hid (HNC.out.below hcut)
                  have hbD := nxt hbC hcut
                  clear HVC HNC HXC HQC hbs hbu hgW t0 t1 t2 f0 f1 f2 hcut hbC
                  go_upto_region 29 with fail
                  have hml := hm.out
                  obtain ⟨jj, hjj⟩ : ∃ jj, k + 1 = jj := ⟨_, rfl⟩
                  obtain ⟨ys1, hat1, hcs1, hyl1, hon1⟩ := HVD.out.first k (by omega)
                  obtain ⟨A', hA'⟩ : ∃ A' : Option Addr, (if c = jj then some (⟨g, 0, none⟩ : Addr) else some ⟨g, jj * 3, none⟩) = A' := ⟨_, rfl⟩
                  obtain ⟨ys2, hat2, hcs2, hyl2, hon2⟩ := HVD.out.behind jj (by omega) A' (by
                    intro h1 g' h2
                    rw [← hA', if_neg (by omega)]
                    injection h2 with h2
                    injection h2 with h2
                    rw [h2])
                  have hlt1 : (L.take k).length = k := by rw [List.length_take]; omega
                  have hlt2 : (L.drop jj).length = m - jj := by rw [List.length_drop, hml]
                  rw [show (L.length - jj) = m - jj by omega] at hyl2
                  have hER : L.take k ++ L.drop jj = L.eraseIdx k := by rw [← hjj]; exact (List.eraseIdx_eq_take_drop_succ L k).symm
                  have H1 := Lib.hid (show At wc.drew wc.drew.heap.size (some ⟨g, 0, none⟩) ys1 from hat1)
                  have H2 := Lib.hid hat2
                  have C1 := Lib.hid (show Gcs wc.drew w.heap.size ys1 (L.take k) from hcs1)
                  have C2 := Lib.hid hcs2
                  have O1 := Lib.hid hon1
                  have O2 := Lib.hid hon2
                  have Y1 := Lib.hid hyl1
                  have Y2 := Lib.hid hyl2
                  have T1 := Lib.hid hlt1
                  have T2 := Lib.hid hlt2
                  have ER := Lib.hid hER
                  have hsz := hbD.size
                  have hszd : w.heap.size ≤ wc.drew.heap.size := hsz
                  have hkc : k ≤ c := by omega
                  have hjc : jj ≤ c := by omega
                  have hjm : jj ≤ m := by omega
                  have hw1 := w64_succ k jj hjj (by omega)
                  have hw2 := i64_succ k jj hjj (Nat.le_of_lt (Nat.lt_of_lt_of_le hkm (Nat.le_trans hm60 (by decide))))
                  clear hat1 hat2 hcs1 hcs2 hon1 hon2 hyl1 hyl2 hlt1 hlt2 hER hml hjj
                  go_cut [15] from 114 to 123 (fun s wx => GR wx w.heap.size s (L.eraseIdx k) ∧ Below wc.heap.size wc wx)
                  case first =>
                    go_region_law
                      (first
                        | (refine step_gr (v := v13) (base := w.heap.size) (w := w13) (A := A') (m := m - jj) (c := c - jj) (ys := ys2) (l' := L.drop jj) rfl (.tmp 118) (.tmp 122) rfl (by simp [Act.eval]) hG13 (by simp [Act.eval]) hat13 T2.out hcs13 Y2.out O2.out (by rw [hl13]; clear hw1 hw2; omega) (Nat.le_trans hsz hb13.size) ?_
                           intro v14 w14 hG14 hg14 _ hr14
                           have hb14 : Below wc.heap.size wc w14 := below_row hb13 hg14 hb13.size (fun g h => by
                             rcases hr13 with hr | hr
                             · rw [hr] at h
                               cases h
                             · rw [hr] at h
                               exact Nat.le_of_eq (Option.some.inj h)))
                        | (refine step_gr (v := .slice none 0 0) (l := []) (base := w.heap.size) (w := wc.drew) (A := some ⟨g, 0, none⟩) (m := k) (c := c) (ys := ys1) (l' := L.take k) rfl (.tmp 114) (.tmp 117) rfl (by simp [Act.eval, Act.put]) (GR.nil _ _) (by simp [Act.eval, Act.put]) H1.out T1.out C1.out Y1.out O1.out (by clear hw1 hw2; simp; omega) hszd ?_
                           intro v13 w13 hG13 hg13 _ hr13
                           have hb13 : Below wc.heap.size wc w13 := below_row (bel_drew (Below.refl _ wc)) hg13 (Nat.le_refl _) (fun g h => by cases h)
                           have hat13 := (H2.out.below hb13).more hb13.size
                           have hcs13 := C2.out.below hb13
                           have hl13 : (([] : List Gr) ++ L.take k).length = k := by rw [List.nil_append, T1.out])
                        | (fail))
                    all_goals
                      go_wp2_with fail
                      go_meet
                      refine ⟨?_, hb14⟩
                      rw [List.nil_append, ER.out] at hG14
                      exact hG14
                  case rest =>
                    obtain ⟨hGE, hbE⟩ := hcut
                    have hnE := HND.out.below hbE
                    have hbF := nxt hbD hbE
                    clear hw1 hw2 hA' H1 H2 C1 C2 O1 O2 Y1 Y2 T1 T2 ER hsz hszd hkc hjc hjm HVD HND hbD hbE
                    obtain ⟨A', c', rfl, -, -⟩ := hGE.slice
                    obtain ⟨n', hn'⟩ : ∃ n', Hid ((L.eraseIdx k).length = n') := ⟨_, Lib.hid rfl⟩
                    have HGZ := Lib.hid hGE
                    rw [show (Value.slice A' (L.eraseIdx k).length c') = .slice A' n' c' by rw [hn'.out]] at HGZ ⊢
                    have HFZ := flying_any hnE
                    rw [hn'.out] at HFZ
                    have HNZ := Lib.hid hnE
                    have hlen : (L.eraseIdx k).length ≤ j + 1 := by exact Nat.le_trans (List.length_eraseIdx_le ..) (by rw [hm.out]; omega)
                    have HLZ := Lib.hid hlen
                    clear hlen hGE hnE
                    have d9 : ((n' : Int) != (n' : Int)) = false := by simp
                    go_wp2_with fail
                    refine HFZ.mono ?_
                    rintro e wx ⟨rfl, rfl⟩
                    go_wp2_with fail
                    go_roundw
                    case rel => exact ⟨j + 1, _, L.eraseIdx k, by omega, by omega, by go_num, hbF, HNZ.out, HGZ.out, HLZ.out⟩
                    case measure => simp [intOf]; omega
              ·
                have e4 : (x.k == 4) = false := beq_eq_false_iff_ne.2 hk.1
                have e6 : (x.k == 6) = true := by rw [hk.2]; rfl
                clear hk
                go_wp2_with fail
                refine (drop_any HN9.out (k : Int)).mono ?_
                rw [has_one L k z hz.out, drop_one]
                rintro e w4 ⟨rfl, ha4⟩
                have HVD := Lib.hid (HV9.out.aft HN9.out ha4)
                have hbD := hb9.trans (ha4.low HN9.out)
                obtain ⟨r4, hn4, -, -⟩ := ha4
                have HND := Lib.hid hn4
                clear hn4 HN9 HV9 HX9 HQ9 hb9 c0 c1 c2 c3 c4
                go_upto_region 29 with fail
                have hml := hm.out
                obtain ⟨jj, hjj⟩ : ∃ jj, k + 1 = jj := ⟨_, rfl⟩
                obtain ⟨ys1, hat1, hcs1, hyl1, hon1⟩ := HVD.out.first k (by omega)
                obtain ⟨A', hA'⟩ : ∃ A' : Option Addr, (if c = jj then some (⟨g, 0, none⟩ : Addr) else some ⟨g, jj * 3, none⟩) = A' := ⟨_, rfl⟩
                obtain ⟨ys2, hat2, hcs2, hyl2, hon2⟩ := HVD.out.behind jj (by omega) A' (by
                  intro h1 g' h2
                  rw [← hA', if_neg (by omega)]
                  injection h2 with h2
                  injection h2 with h2
                  rw [h2])
                have hlt1 : (L.take k).length = k := by rw [List.length_take]; omega
                have hlt2 : (L.drop jj).length = m - jj := by rw [List.length_drop, hml]
                rw [show (L.length - jj) = m - jj by omega] at hyl2
                have hER : L.take k ++ L.drop jj = L.eraseIdx k := by rw [← hjj]; exact (List.eraseIdx_eq_take_drop_succ L k).symm
                have H1 := Lib.hid (show At w4.drew w4.drew.heap.size (some ⟨g, 0, none⟩) ys1 from hat1)
                have H2 := Lib.hid hat2
                have C1 := Lib.hid (show Gcs w4.drew w.heap.size ys1 (L.take k) from hcs1)
                have C2 := Lib.hid hcs2
                have O1 := Lib.hid hon1
                have O2 := Lib.hid hon2
                have Y1 := Lib.hid hyl1
                have Y2 := Lib.hid hyl2
                have T1 := Lib.hid hlt1
                have T2 := Lib.hid hlt2
                have ER := Lib.hid hER
                have hsz := hbD.size
                have hszd : w.heap.size ≤ w4.drew.heap.size := hsz
                have hkc : k ≤ c := by omega
                have hjc : jj ≤ c := by omega
                have hjm : jj ≤ m := by omega
                have hw1 := w64_succ k jj hjj (by omega)
                have hw2 := i64_succ k jj hjj (Nat.le_of_lt (Nat.lt_of_lt_of_le hkm (Nat.le_trans hm60 (by decide))))
                clear hat1 hat2 hcs1 hcs2 hon1 hon2 hyl1 hyl2 hlt1 hlt2 hER hml hjj
                go_cut [15] from 114 to 123 (fun s wx => GR wx w.heap.size s (L.eraseIdx k) ∧ Below w4.heap.size w4 wx)
                case first =>
                  go_region_law
                    (first
                      | (refine step_gr (v := v13) (base := w.heap.size) (w := w13) (A := A') (m := m - jj) (c := c - jj) (ys := ys2) (l' := L.drop jj) rfl (.tmp 118) (.tmp 122) rfl (by simp [Act.eval]) hG13 (by simp [Act.eval]) hat13 T2.out hcs13 Y2.out O2.out (by rw [hl13]; clear hw1 hw2; omega) (Nat.le_trans hsz hb13.size) ?_
                         intro v14 w14 hG14 hg14 _ hr14
                         have hb14 : Below w4.heap.size w4 w14 := below_row hb13 hg14 hb13.size (fun g h => by
                           rcases hr13 with hr | hr
                           · rw [hr] at h
                             cases h
                           · rw [hr] at h
                             exact Nat.le_of_eq (Option.some.inj h)))
                      | (refine step_gr (v := .slice none 0 0) (l := []) (base := w.heap.size) (w := w4.drew) (A := some ⟨g, 0, none⟩) (m := k) (c := c) (ys := ys1) (l' := L.take k) rfl (.tmp 114) (.tmp 117) rfl (by simp [Act.eval, Act.put]) (GR.nil _ _) (by simp [Act.eval, Act.put]) H1.out T1.out C1.out Y1.out O1.out (by clear hw1 hw2; simp; omega) hszd ?_
                         intro v13 w13 hG13 hg13 _ hr13
                         have hb13 : Below w4.heap.size w4 w13 := below_row (bel_drew (Below.refl _ w4)) hg13 (Nat.le_refl _) (fun g h => by cases h)
                         have hat13 := (H2.out.below hb13).more hb13.size
                         have hcs13 := C2.out.below hb13
                         have hl13 : (([] : List Gr) ++ L.take k).length = k := by rw [List.nil_append, T1.out])
                      | (fail))
                  all_goals
                    go_wp2_with fail
                    go_meet
                    refine ⟨?_, hb14⟩
                    rw [List.nil_append, ER.out] at hG14
                    exact hG14
                case rest =>
                  obtain ⟨hGE, hbE⟩ := hcut
                  have hnE := HND.out.below hbE
                  have hbF := nxt hbD hbE
                  clear hw1 hw2 hA' H1 H2 C1 C2 O1 O2 Y1 Y2 T1 T2 ER hsz hszd hkc hjc hjm HVD HND hbD hbE
                  obtain ⟨A', c', rfl, -, -⟩ := hGE.slice
                  obtain ⟨n', hn'⟩ : ∃ n', Hid ((L.eraseIdx k).length = n') := ⟨_, Lib.hid rfl⟩
                  have HGZ := Lib.hid hGE
                  rw [show (Value.slice A' (L.eraseIdx k).length c') = .slice A' n' c' by rw [hn'.out]] at HGZ ⊢
                  have HFZ := flying_any hnE
                  rw [hn'.out] at HFZ
                  have HNZ := Lib.hid hnE
                  have hlen : (L.eraseIdx k).length ≤ j + 1 := by exact Nat.le_trans (List.length_eraseIdx_le ..) (by rw [hm.out]; omega)
                  have HLZ := Lib.hid hlen
                  clear hlen hGE hnE
                  have d9 : ((n' : Int) != (n' : Int)) = false := by simp
                  go_wp2_with fail
                  refine HFZ.mono ?_
                  rintro e wx ⟨rfl, rfl⟩
                  go_wp2_with fail
                  go_roundw
                  case rel => exact ⟨j + 1, _, L.eraseIdx k, by omega, by omega, by go_num, hbF, HNZ.out, HGZ.out, HLZ.out⟩
                  case measure => simp [intOf]; omega
              ·
                have e4 : (x.k == 4) = false := beq_eq_false_iff_ne.2 hk.1
                have e6 : (x.k == 6) = false := beq_eq_false_iff_ne.2 hk.2.1
                have e5 : (x.k == 5) = true := by rw [hk.2.2]; rfl
                clear hk
                go_wp2_with fail
                refine (copy_any6 HN9.out (k : Int)).mono ?_
                rw [(copy_one L k z hz.out (by rw [hm.out]; exact hm60)).1, (copy_one L k z hz.out (by rw [hm.out]; exact hm60)).2]
                rintro e w4 ⟨rfl, ha4⟩
                have hG4 := HV9.out.aft HN9.out ha4
                have hb4 := hb9.trans (ha4.low HN9.out)
                obtain ⟨r4, hn4, -, -⟩ := ha4
                clear HN9 HV9 HX9 HQ9 hb9 c0 c1 c2 c3 c4
                obtain ⟨g2, u, hge, t0, t1, t2, hbx⟩ := hG4.cell hz.out
                obtain rfl : g = g2 := by injection hge with hge; injection hge
                have hu1 : u.oneCell' = true := by obtain ⟨⟨A', c', rfl, -⟩, -⟩ := hbx; rfl
                have hoA := (Below.refl w4.heap.size w4).alloc (Nat.le_refl _) (.cells #[.int .i64 z.fr, .int .i64 z.to, u] 29)
                have hnA := hn4.below hoA
                have hGA := hG4.below hoA
                have hbA := nxt hb4 hoA
                have hat := gm_at w4 (.int .i64 z.fr) (.int .i64 z.to) u
                have HCS := Lib.hid (Gcs.one (x := z) (hbx.below hoA))
                have H1 := Lib.hid (gm_ones (y0 := .int .i64 z.fr) (y1 := .int .i64 z.to) rfl rfl hu1)
                have hsz := hb4.size
                clear hbx hu1 hn4 hG4 hb4 hoA hge
                go_wp2_with (at_builtin
                             refine wpList_gr rfl (.tmp 137) (.tmp 142) rfl rfl hGA rfl hat rfl HCS.out rfl H1.out (by have := hm.out; omega) (by simp; omega) ?_
                             intro v10 w10 hG10 hg10 hr10 hn10)
                have hn11 := hnA.rowgrown hg10 hr10
                have hb10 : Below w.heap.size w w10 := below_row hbA hg10 (by simp; omega) (fun g hg => (hr10 g hg).1)
                clear hg10 hr10 hn10 hat hnA hGA hbA t0 t1 t2
                obtain ⟨A', c', rfl, -, -⟩ := hG10.slice
                obtain ⟨n', hn'⟩ : ∃ n', Hid ((L ++ [z]).length = n') := ⟨_, Lib.hid rfl⟩
                have HGZ := Lib.hid hG10
                rw [show (Value.slice A' (L ++ [z]).length c') = .slice A' n' c' by rw [hn'.out]] at HGZ ⊢
                have HFZ := flying_any hn11
                rw [hn'.out] at HFZ
                have HNZ := Lib.hid hn11
                have hlen : (L ++ [z]).length ≤ j + 1 := by rw [List.length_append, hm.out]; exact Nat.add_le_add_right hLj 1
                have HLZ := Lib.hid hlen
                clear hlen hG10 hn11
                have d9 : ((n' : Int) != (n' : Int)) = false := by simp
                go_wp2_with fail
                refine HFZ.mono ?_
                rintro e wx ⟨rfl, rfl⟩
                go_wp2_with fail
                go_roundw
                case rel => exact ⟨j + 1, _, L ++ [z], by omega, by omega, by go_num, hb10, HNZ.out, HGZ.out, HLZ.out⟩
                case measure => simp [intOf]; omega
              ·
                have e4 : (x.k == 4) = false := beq_eq_false_iff_ne.2 hk.1
                have e6 : (x.k == 6) = false := beq_eq_false_iff_ne.2 hk.2.1
                have e5 : (x.k == 5) = false := beq_eq_false_iff_ne.2 hk.2.2
                clear hk
                have HSE := Lib.hid (send_one L x.fr x.to x.d (by rw [hm.out]; exact hm60) h100)
                go_wp2_with fail
                refine (send_any HN9.out (x.fr % 3) (x.to % 3) _ x.d HX9.out.bs).mono ?_
                rw [HSE.out.1, HSE.out.2]
                rintro e w4 ⟨rfl, ha4⟩
                have hG4 := HV9.out.aft HN9.out ha4
                have hX4 := ha4.bx HN9.out HX9.out
                have hq4 := ha4.keep HN9.out HQ9.out (by decide) (by decide)
                have hb4 := hb9.trans (ha4.low HN9.out)
                obtain ⟨r4, hn4, -, -⟩ := ha4
                clear c0 c1 c2 c3 c4 HN9 HV9 HX9 HQ9 hb9 HSE
                obtain ⟨c0, c1, c2, c3, c4⟩ := box5 hq4
                go_wp2_with fail
                refine (copy_bs _ x.d w4 hX4.bs (by omega)).mono ?_
                rintro e w5 ⟨u, rfl, hown, hbs, hb5⟩
                have hXu : Bx w5 w.heap.size u x.d := Bx.of_own hown H8.out
                obtain ⟨Au, cu, rfl⟩ : ∃ A' c', u = .slice A' x.d.length c' := by obtain ⟨⟨A', c', h, -⟩, -⟩ := hXu; exact ⟨A', c', h⟩
                have hn5 := hn4.below hb5
                have hG5 := hG4.below hb5
                have hb6 := nxt hb4 hb5
                have hoA := (Below.refl w5.heap.size w5).alloc (Nat.le_refl _) (.cells #[.int .i64 (x.fr % 3), .int .i64 (x.to % 3), .slice Au x.d.length cu] 29)
                have hnA := hn5.below hoA
                have hGA := hG5.below hoA
                have hbA := nxt hb6 hoA
                have hat := gm_at w5 (.int .i64 (x.fr % 3)) (.int .i64 (x.to % 3)) (.slice Au x.d.length cu)
                have HCS := Lib.hid (Gcs.one (x := ⟨x.fr % 3, x.to % 3, x.d⟩) (hXu.below hoA))
                have H1 := Lib.hid (gm_ones (y0 := .int .i64 (x.fr % 3)) (y1 := .int .i64 (x.to % 3)) (y2 := .slice Au x.d.length cu) rfl rfl rfl)
                have hsz := hb6.size
                clear hown hbs hb5 hXu hn5 hG5 hn4 hG4 hX4 hq4 hb4 c0 c1 c2 c3 c4 hb6 hoA
                go_wp2_with (at_builtin
                             (refine wpList_gr rfl (.tmp 64) (.tmp 71) rfl rfl hGA rfl hat rfl HCS.out rfl H1.out (by have := hm.out; omega) (by simp; omega) ?_; intro v10 w10 hG10 hg10 hr10 hn10))
                have hn11 := hnA.rowgrown hg10 hr10
                have hb10 : Below w.heap.size w w10 := below_row hbA hg10 (by simp; omega) (fun g hg => (hr10 g hg).1)
                clear hg10 hr10 hn10 hat hnA hGA hbA
                obtain ⟨A', c', rfl, -, -⟩ := hG10.slice
                obtain ⟨n', hn'⟩ : ∃ n', Hid ((L ++ [(⟨x.fr % 3, x.to % 3, x.d⟩ : Gr)]).length = n') := ⟨_, Lib.hid rfl⟩
                have HGZ := Lib.hid hG10
                rw [show (Value.slice A' (L ++ [(⟨x.fr % 3, x.to % 3, x.d⟩ : Gr)]).length c') = .slice A' n' c' by rw [hn'.out]] at HGZ ⊢
                have HFZ := flying_any hn11
                rw [hn'.out] at HFZ
                have HNZ := Lib.hid hn11
                have hlen : (L ++ [(⟨x.fr % 3, x.to % 3, x.d⟩ : Gr)]).length ≤ j + 1 := by rw [List.length_append, hm.out]; exact Nat.add_le_add_right hLj 1
                have HLZ := Lib.hid hlen
                clear hlen hG10 hn11
                have d9 : ((n' : Int) != (n' : Int)) = false := by simp
                go_wp2_with fail
                refine HFZ.mono ?_
                rintro e wx ⟨rfl, rfl⟩
                go_wp2_with fail
                go_roundw
                case rel => exact ⟨j + 1, _, L ++ [(⟨x.fr % 3, x.to % 3, x.d⟩ : Gr)], by omega, by omega, by go_num, hb10, HNZ.out, HGZ.out, HLZ.out⟩
                case measure => simp [intOf]; omega
        · have d1 : decide ((x.d.length : Int) > 100) = true := decide_eq_true (by omega)
          have d2 : decide (100 < x.d.length) = true := decide_eq_true (by omega)
          clear c0 c1 c2 c3
          go_wp2_with fail
          go_roundw
          case rel => exact ⟨j + 1, _, L, by omega, by omega, by go_num, hbw, HN8.out, HV8.out, by rw [hm.out]; omega⟩
          case measure => simp [intOf]; omega
      | false =>
        clear HG HL hc hcm hbb
        go_wp2_with fail
        go_loopw [16] (fun i wq => ∃ j2 : Nat, j2 ≤ m ∧ i = .int .i64 (j2 : Int) ∧ Below wr.heap.size wr wq) (fun i _ => m - (intOf i).toNat)
        case atStart => exact ⟨0, by omega, rfl, Below.refl _ _⟩
        case round =>
          obtain ⟨j2, hj2, rfl, hbq⟩ := hrel
          by_cases hlt : j2 < m
          · have hjl : j2 < L.length := by have := hm.out; omega
            obtain ⟨x, hx⟩ : ∃ x, Hid (L[j2]? = some x) := ⟨L[j2], Lib.hid (List.getElem?_eq_getElem hjl)⟩
            have hL := look_any (HN.out.below hbq) (j2 : Int)
            rw [nth_one L j2 x hx.out] at hL
            clear hjl
            go_wp2_with fail
            refine hL.mono ?_
            rintro e w6 ⟨hb6, b, cc, cur, fr, rfl, hbl, hbh, hbs, hfr⟩
            clear hL hbl hbh hfr
            have hb7 := (Below.refl w6.heap.size w6).alloc (Nat.le_refl _) (.cells #[.int .i64 x.fr, .int .i64 x.to, .slice (some ⟨b, 0, none⟩) x.d.length cc] 29)
            have hq7 := heap_new w6 (.cells #[.int .i64 x.fr, .int .i64 x.to, .slice (some ⟨b, 0, none⟩) x.d.length cc] 29)
            have hbs7 := hbs.below hb7
            have hb0 := nxt (nxt hbq hb6) hb7
            obtain ⟨W7, hW7⟩ : ∃ W, W = w6.alloc (.cells #[.int .i64 x.fr, .int .i64 x.to, .slice (some ⟨b, 0, none⟩) x.d.length cc] 29) := ⟨_, rfl⟩
            obtain ⟨B7, hB7⟩ : ∃ B, B = w6.heap.size := ⟨_, rfl⟩
            go_upto_region 41 with fail
            rw [← hW7] at hq7 hbs7 hb0 ⊢
            rw [← hB7] at hq7 ⊢
            clear hW7 hB7 hb7 hb6 hbq hbs
            have hGR := HV.out.below hb0
            obtain ⟨g, u, rfl, t0, t1, t2, hbx⟩ := hGR.cell hx.out
            have hbu := hbx.bs
            obtain ⟨⟨c0, c1, c2⟩, -⟩ := box3 hq7
            have hgW : g < W7.heap.size := World.block_lt_of_cell? W7 _ t0
            clear hGR hbx
            go_region_held3 (fun w' => (w'.cell? ⟨B7, 0, none⟩ = some (.int .i64 x.fr) ∧ w'.cell? ⟨B7, 1, none⟩ = some (.int .i64 x.to) ∧ w'.cell? ⟨B7, 2, none⟩ = some (.slice (some ⟨b, 0, none⟩) x.d.length cc)) ∧
                (w'.cell? ⟨g, j2 * 3, none⟩ = some (.int .i64 x.fr) ∧ w'.cell? ⟨g, j2 * 3 + 1, none⟩ = some (.int .i64 x.to) ∧ w'.cell? ⟨g, j2 * 3 + 2, none⟩ = some u)) (go_keep)
              (first
                | (go_at_call 24
                   refine (samegr_any _ _ x ⟨_, rfl, hbs7.drew⟩ ⟨_, rfl, hbu.drew⟩).mono ?_
                   rintro e w8 ⟨rfl, hb8'⟩
                   have hb8 := of_drew6 hb8'
                   obtain ⟨⟨f0, f1, f2⟩, -⟩ := box3 (heap_below hq7 hb8)
                   have r0 := (hb8.cell (p := ⟨g, j2 * 3, none⟩) hgW).trans t0
                   have r1 := (hb8.cell (p := ⟨g, j2 * 3 + 1, none⟩) hgW).trans t1
                   have r2 := (hb8.cell (p := ⟨g, j2 * 3 + 2, none⟩) hgW).trans t2)
                | (fail))
            all_goals
              clear c0 c1 c2 t0 t1 t2 f0 f1 f2 r0 r1 r2
              go_wp2_with fail
              go_roundw
              case rel => exact ⟨j2 + 1, by omega, by go_num, nxt hb0 hb8⟩
              case measure => simp [intOf]; omega
          · obtain rfl : j2 = m := by omega
            go_wp2_with fail
            refine (awake06_any _).mono ?_
            rintro e w12 ⟨rfl, hb12⟩
            go_wp2_with fail
            go_ret
            exact ⟨rfl, nxt (nxt hbr hbq) hb12⟩

set_option maxRecDepth 100000 in
theorem lifted (os : Os) (started : os.Started) (H : Type) (enc : TypeId × Value → H) :
    ReturnsInHanded {} Try.checked os 6 .any (Rows.netTrueSpec.pre6 enc Try.prog Try.f6 Rows.netTrueRow.domain false) (Rows.netTrueSpec.post enc Try.prog Try.f6 false true false false) := by
  refine returnsInHanded_of_change (C := Try.checked) knob_own started (by kernel_rfl) Try.func6
    (ChangeSpec.witness6 (enc := enc) (C := Try.checked) false ⟨#[], #[.slice none 0 0], []⟩ 8 (by kernel_rfl) (by kernel_rfl) (by kernel_rfl) (by kernel_rfl)) ?_
  intro W base args ds gs before hval0 hW hcnd _
  have hval : ∀ (j : Nat) t v, Try.f6.params[j]? = some t → args[j]? = some v → Value.okWide Try.prog W .any base t v := hval0
  have hW' := hW
  obtain ⟨p, q, hA0, hV, rfl, hfz, hnd⟩ := hW
  have hA : DataW.TrodAll enc Try.prog W 0 (fun _ => true) true Try.f6.params.toList args.toList ds p := hA0
  rw [Try.params6] at hA hval
  obtain ⟨v0, vs0, d0, ds0, p0, q0, hargs, rfl, rfl, h0, r0⟩ := trodAll_cons hA
  obtain ⟨rfl, rfl, rfl⟩ := trodAll_nil r0
  obtain rfl : args = #[v0] := by cases args; simp_all
  obtain ⟨rfl, rfl⟩ := trodVars_none hV
  obtain ⟨a0, n0, c0, rfl⟩ := okWide_slice Try.underlying37 (hval 0 37 v0 rfl rfl)
  have k0 := h0
  have lt0 : ∀ x ∈ p0, x.block < W.heap.size := by obtain ⟨m, hm⟩ := k0; exact DataW.trod_lt m _ _ _ hm
  have w0 := ops6_open h0
  clear hA0 hval0
  refine (walk W a0 n0 c0 w0).mono fun e W' ⟨he, bel⟩ => ?_
  subst he
  exact ⟨_, rfl, _, _, _, [], _, [], hW', trodAll_mk1 (shut_bool Try.underlying4 _), (trodAll_cons_mk (Below.trod laid_out (by kernel_rfl) (of_decide_eq_true (by kernel_rfl)) k0 bel lt0) (trodAll_mk0)), rfl, bel.frame _, fun h => by cases h⟩

theorem over : Rows.netTrueRow.holds Try.pinned (OpenSpec.ofChange Rows.netTrueSpec) :=
  OpenClaim.holds_of_wide 6 Try.f6 rfl rfl rfl rfl rfl rfl rfl ⟨rfl, rfl, rfl, rfl, rfl⟩ rfl rfl rfl rfl rfl (by kernel_rfl) Try.func6 (by kernel_rfl)
    (of_decide_eq_true (by kernel_rfl)) (by unfold Func.isWrapper; first | (rw [if_pos (by decide +kernel)]; kernel_rfl) | (rw [if_neg (by decide +kernel)]; exact ⟨rfl, rfl⟩))
    (fun os started H enc _ => lifted os started H enc)

theorem proved : Rows.NetTrueSaid := over
end Go.Proofs.Ytcaddokedkndmaa.netTrue
