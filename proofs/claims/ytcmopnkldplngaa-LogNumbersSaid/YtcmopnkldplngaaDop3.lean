/- drover/disk: Append, Sync, Cut, Arm, Crash, Read, New: the walks. -/
import Derived.Test.YtcmopnkldplngaaDop2
import Derived.Deep.QuietTactic
import Derived.Lib.MinMax
import Derived.Deep.OwnRows
import Derived.StillTailTactics
namespace Go.Proofs.Ytcmopnkldplngaa
open Go.RowKit

section
variable {w : World} {base p : Nat} {r : Option Nat} {d : Pd}
theorem Dk.base_le (h : Dk w base p r d) : base ≤ w.heap.size := by
  have := h.lt
  obtain ⟨v, _, h, _⟩ := h
  omega
theorem After.of_below {w0 : World} {d' : Pd} {w' : World} (hb : Below w.heap.size w w0) (ha : After w0 base p r d' w') : After w base p r d' w' := by
  obtain ⟨r', h1, h2, h3⟩ := ha
  exact ⟨r', h1, (Kr.of_below hb).trans (.inl rfl) h2, Rw.trans hb.size (.inl rfl) h3⟩
theorem downE_true (h : d.down = true) : downE d = 15 := by unfold downE; rw [if_pos h]
theorem downE_false (h : d.down = false) : downE d = 0 := by unfold downE; rw [if_neg (by rw [h]; decide)]

set_option maxHeartbeats 400000 in
theorem append_any (vb : Value) (l : List Nat) (h : Dk w base p r d) (hv : Bs w vb l) :
    Calls Try.prog 6 #[.pointer (some ⟨p, 0, none⟩), vb] w fun e w' => e = .returned (.int .i64 ((d.app l).2 : Int)) ∧ After w base p r (d.app l).1 w' := by
  have hbw := h.base_le
  have hplt := h.lt
  obtain ⟨⟨Al, cl, rfl, hcl, hal⟩, h8⟩ := id hv
  have hW := two w (.cells #[.pointer (some ⟨p, 0, none⟩)] 24) (.cells #[.slice Al l.length cl] 22)
  have hba := heap_old (heap_new w (.cells #[.pointer (some ⟨p, 0, none⟩)] 24)) (.cells #[.slice Al l.length cl] 22)
  have hbb := heap_new' (w.alloc (.cells #[.pointer (some ⟨p, 0, none⟩)] 24)) (.cells #[.slice Al l.length cl] 22) (w.heap.size + 1) (by simp)
  have hdW := h.below hW
  have hvW := hv.below hW
  have hok := h.ok
  unfold Pd.app
  cases hd : d.down with
  | true =>
    rw [if_pos rfl]
    have HD := Lib.hid (downE_true hd)
    go_enter Try.func6, Try.ntmps6
    go_wp2_with fail
    refine (ready_any hdW).mono ?_
    rintro e w1 ⟨rfl, rfl⟩
    rw [HD.out]
    go_wp2_with fail
    go_ret
    exact ⟨rfl, .of_below hW (.refl hdW)⟩
  | false =>
    rw [if_neg (by decide)]
    have HD := Lib.hid (downE_false hd)
    obtain ⟨v, hr, hb, _, hown, hh⟩ := id hdW
    obtain ⟨A, c, rfl, hc, hcm, -⟩ := hown.form
    obtain ⟨⟨c0, c1, c2, c3, c4, c5, c6⟩, -⟩ := box7 hh
    have e0 := cell_of_one hba
    have e1 := cell_of_one hbb
    have hm := hok.most
    have hl := hok.len
    have hs : IntKind.i64.wrap ((d.most : Int) - (d.bs.length : Int)) = ((d.most - d.bs.length : Nat) : Int) := by rw [IntKind.wrap_i64]; omega
    by_cases hlt : d.most - d.bs.length < l.length
    · rw [if_pos hlt]
      have t1 : decide (((d.most - d.bs.length : Nat) : Int) < (l.length : Int)) = true := decide_eq_true (by omega)
      go_enter Try.func6, Try.ntmps6
      go_wp2_with fail
      refine (ready_any hdW).mono ?_
      rintro e w1 ⟨rfl, rfl⟩
      rw [HD.out]
      go_wp2_with fail
      go_quiet (fail)
      go_wp2_with fail
      go_ret
      exact ⟨rfl, .of_below (bel_drewN hW _) (.refl (hdW.drewN _))⟩
    · rw [if_neg hlt]
      have t1 : decide (((d.most - d.bs.length : Nat) : Int) < (l.length : Int)) = false := decide_eq_false (by omega)
      go_enter Try.func6, Try.ntmps6
      go_wp2_with fail
      refine (ready_any hdW).mono ?_
      rintro e w1 ⟨rfl, rfl⟩
      rw [HD.out]
      go_wp2_with fail
      go_quiet (fail)
      go_wp2_with fail
      have hdQ := hdW.drewN nq
      have hlR : ¬ d.less.most - d.less.bs.length < l.length := by rw [Pd.less_most, Pd.less_bs]; exact hlt
      refine (operate_any 22 _ (Pd.put l) (.inl rfl) hdQ (fun w1 hd1 hk1 => ?_)).mono ?_
      · refine appF_any _ _ (.slice Al l.length cl) l hd1 hlR hd1.base_le ?_ ?_ ?_
        · exact (hvW.drewN nq).kp hdQ hk1
        · exact hk1.heap hba (by omega)
        · exact hk1.heap hbb (by omega)
      · rintro e w2 ⟨rfl, ha⟩
        go_wp2_with fail
        go_ret
        exact ⟨rfl, .of_below (bel_drewN hW _) ha⟩

set_option maxHeartbeats 400000 in
theorem sync_any (h : Dk w base p r d) :
    Calls Try.prog 31 #[.pointer (some ⟨p, 0, none⟩)] w fun e w' => e = .returned (.int .i64 (d.sync.2 : Int)) ∧ After w base p r d.sync.1 w' := by
  have hplt := h.lt
  have hW := (Below.refl w.heap.size w).alloc (Nat.le_refl _) (.cells #[.pointer (some ⟨p, 0, none⟩)] 24)
  have hba := heap_new w (.cells #[.pointer (some ⟨p, 0, none⟩)] 24)
  have hdW := h.below hW
  have e0 := cell_of_one hba
  unfold Pd.sync
  cases hd : d.down with
  | true =>
    rw [if_pos rfl]
    have HD := Lib.hid (downE_true hd)
    go_enter Try.func31, Try.ntmps31
    go_wp2_with fail
    refine (ready_any hdW).mono ?_
    rintro e w1 ⟨rfl, rfl⟩
    rw [HD.out]
    go_wp2_with fail
    go_ret
    exact ⟨rfl, .of_below hW (.refl hdW)⟩
  | false =>
    rw [if_neg (by decide)]
    have HD := Lib.hid (downE_false hd)
    go_enter Try.func31, Try.ntmps31
    go_wp2_with fail
    refine (ready_any hdW).mono ?_
    rintro e w1 ⟨rfl, rfl⟩
    rw [HD.out]
    go_wp2_with fail
    refine (operate_any 39 _ Pd.all (.inr (.inl rfl)) hdW (fun w1 hd1 hk1 => ?_)).mono ?_
    · exact syncF_any _ hd1 (hk1.heap hba (by omega))
    · rintro e w2 ⟨rfl, ha⟩
      go_wp2_with fail
      go_ret
      exact ⟨rfl, .of_below hW ha⟩

set_option maxHeartbeats 400000 in
theorem cut_any (n : Int) (hn0 : -9223372036854775808 ≤ n) (hn1 : n ≤ 9223372036854775807) (h : Dk w base p r d) :
    Calls Try.prog 14 #[.pointer (some ⟨p, 0, none⟩), .int .i64 n] w fun e w' => e = .returned (.int .i64 ((d.cut n).2 : Int)) ∧ After w base p r (d.cut n).1 w' := by
  have hplt := h.lt
  have hW := two w (.cells #[.pointer (some ⟨p, 0, none⟩)] 24) (.cells #[.int .i64 n] 3)
  have hba := heap_old (heap_new w (.cells #[.pointer (some ⟨p, 0, none⟩)] 24)) (.cells #[.int .i64 n] 3)
  have hbn := heap_new' (w.alloc (.cells #[.pointer (some ⟨p, 0, none⟩)] 24)) (.cells #[.int .i64 n] 3) (w.heap.size + 1) (by simp)
  have hdW := h.below hW
  have e0 := cell_of_one hba
  have e1 := cell_of_one hbn
  unfold Pd.cut
  cases hd : d.down with
  | true =>
    rw [if_pos rfl]
    have HD := Lib.hid (downE_true hd)
    go_enter Try.func14, Try.ntmps14
    go_wp2_with fail
    refine (ready_any hdW).mono ?_
    rintro e w1 ⟨rfl, rfl⟩
    rw [HD.out]
    go_wp2_with fail
    go_ret
    exact ⟨rfl, .of_below hW (.refl hdW)⟩
  | false =>
    rw [if_neg (by decide)]
    have HD := Lib.hid (downE_false hd)
    obtain ⟨v, hr, hb, _, hown, hh⟩ := id hdW
    obtain ⟨A, c, rfl, hc, hcm, -⟩ := hown.form
    obtain ⟨⟨c0, c1, c2, c3, c4, c5, c6⟩, -⟩ := box7 hh
    by_cases h0 : n < 0
    · rw [if_pos (.inl h0)]
      have t0 : decide (n < 0) = true := decide_eq_true (by omega)
      go_enter Try.func14, Try.ntmps14
      go_wp2_with fail
      refine (ready_any hdW).mono ?_
      rintro e w1 ⟨rfl, rfl⟩
      rw [HD.out]
      go_wp2_with fail
      go_quiet (fail)
      go_wp2_with fail
      go_ret
      exact ⟨rfl, .of_below (bel_drewN hW _) (.refl (hdW.drewN _))⟩
    · have t0 : decide (n < 0) = false := decide_eq_false (by omega)
      by_cases h1 : (d.bs.length : Int) < n
      · rw [if_pos (.inr h1)]
        have t1 : decide ((d.bs.length : Int) < n) = true := decide_eq_true (by omega)
        go_enter Try.func14, Try.ntmps14
        go_wp2_with fail
        refine (ready_any hdW).mono ?_
        rintro e w1 ⟨rfl, rfl⟩
        rw [HD.out]
        go_wp2_with fail
        go_quiet (fail)
        go_wp2_with fail
        go_ret
        exact ⟨rfl, .of_below (bel_drewN hW _) (.refl (hdW.drewN _))⟩
      · rw [if_neg (by omega)]
        have t1 : decide ((d.bs.length : Int) < n) = false := decide_eq_false (by omega)
        obtain ⟨m, rfl⟩ : ∃ m : Nat, n = (m : Int) := ⟨n.toNat, by omega⟩
        go_enter Try.func14, Try.ntmps14
        go_wp2_with fail
        refine (ready_any hdW).mono ?_
        rintro e w1 ⟨rfl, rfl⟩
        rw [HD.out]
        go_wp2_with fail
        go_quiet (fail)
        go_wp2_with fail
        refine (operate_any 33 _ (Pd.leave m) (.inr (.inr rfl)) (hdW.drewN nq) (fun w1 hd1 hk1 => ?_)).mono ?_
        · exact cutF_any _ _ m hd1 (by rw [Pd.less_bs]; omega) (hk1.heap hba (by omega)) (hk1.heap hbn (by omega))
        · rintro e w2 ⟨rfl, ha⟩
          go_wp2_with fail
          go_ret
          exact ⟨rfl, .of_below (bel_drewN hW _) ha⟩

theorem arm_any (n : Int) (hn1 : n ≤ 9223372036854775807) (h : Dk w base p r d) :
    Calls Try.prog 15 #[.pointer (some ⟨p, 0, none⟩), .int .i64 n] w fun e w' => e = .returned (.tuple #[]) ∧ After w base p r (d.arm n) w' := by
  have hok := h.ok
  have hA := hok.arm hn1
  have hDk := h
  unfold Pd.arm at hA ⊢
  cases hd : d.down with
  | true =>
    rw [if_pos rfl]
    have HD := Lib.hid (downE_true hd)
    go_enter Try.func15, Try.ntmps15
    go_wp2_with fail
    refine (ready_any h).mono ?_
    rintro e w1 ⟨rfl, rfl⟩
    rw [HD.out]
    go_wp2_with fail
    refine bodyPost_ret (results_none rfl _ _ _) rfl ?_
    exact ⟨rfl, .refl h⟩
  | false =>
    rw [hd] at hA
    rw [if_neg (by decide)] at hA ⊢
    have HD := Lib.hid (downE_false hd)
    obtain ⟨v, hr, hb, _, hown, hh⟩ := id h
    obtain ⟨⟨c0, c1, c2, c3, c4, c5, c6⟩, ⟨f0, f1, f2, f3, f4, f5, f6⟩⟩ := box7 hh
    go_enter Try.func15, Try.ntmps15
    go_wp2_with fail
    refine (ready_any h).mono ?_
    rintro e w1 ⟨rfl, rfl⟩
    rw [HD.out]
    go_wp2_with fail
    all_goals
      go_end0
      refine ⟨rfl, r, hDk.set _ _ (((Kr.refl _ _ _).set _ _).set _ _) hA rfl ?_ (row_set hDk _ _ (row_set hDk _ _ fun _ _ => rfl)), ((Kr.refl _ _ _).set _ _).set _ _, .inl rfl⟩
      intro v hv
      rw [hd] at hv
      show _ = some (Obj.cells #[_, _, _, _, _, .int .i64 (n.toNat : Int), _] _ _)
      rw [show (n.toNat : Int) = max n 0 by omega]
      exact heap_set (heap_set hv 4 _) 5 _

theorem IntKind.wrap_small (z : Int) (h0 : -9223372036854775808 ≤ z) (h1 : z ≤ 9223372036854775807) : IntKind.i64.wrap z = z := by rw [IntKind.wrap_i64]; omega
set_option maxRecDepth 100000 in
set_option maxHeartbeats 800000 in
theorem crash_any (n : Int) (hn0 : -9223372036854775808 ≤ n) (hn1 : n ≤ 9223372036854775807) (h : Dk w base p r d) :
    Calls Try.prog 13 #[.pointer (some ⟨p, 0, none⟩), .int .i64 n] w fun e w' => e = .returned (.tuple #[]) ∧ After w base p r (d.crash n) w' := by
  have hok := h.ok
  have hA := hok.crash n
  have hm := hok.most
  have hl := hok.len
  have hsy := hok.syn
  obtain ⟨k1, k2⟩ := Pd.kept_le hok n
  obtain ⟨v, hr, hb, _, hown, hh⟩ := id h
  obtain ⟨A, c, rfl, hc, hcm, -⟩ := hown.form
  obtain ⟨⟨c0, c1, c2, c3, c4, c5, c6⟩, ⟨f0, f1, f2, f3, f4, f5, f6⟩⟩ := box7 hh
  have s1 : IntKind.i64.wrap ((d.bs.length : Int) - (d.syn : Int)) = ((d.bs.length - d.syn : Nat) : Int) := by rw [IntKind.wrap_i64]; omega
  have s2 : IntKind.i64.wrap ((d.syn : Int) + min (max n 0) ((d.bs.length - d.syn : Nat) : Int)) = (d.kept n : Int) := by unfold Pd.kept; rw [IntKind.wrap_i64]; omega
  go_enter Try.func13, Try.ntmps13
  go_wp2_with fail
  refine (made_any h).mono ?_
  rintro e w1 ⟨rfl, rfl⟩
  go_wp2_with fail
  go_still_tail 19, (by kernel_rfl)
  change wpList _ _ _ _ _ w.drew
  have hD := h.drew
  have hkd : Kr p r w w.drew := (Kr.refl _ _ _).drew
  generalize w.drew = w2 at *
  go_wp2_with fail
  refine (leave_any hD (d.kept n) k2).mono ?_
  rintro e w3 ⟨rfl, r3, hd3, hk3, hr3⟩
  obtain ⟨v3, hv3, _, _, hown3, hh3⟩ := id hd3
  obtain ⟨⟨d0, d1, d2, d3, d4, d5, d6⟩, ⟨g0, g1, g2, g3, g4, g5, g6⟩⟩ := box7 hh3
  go_wp2_with fail
  go_end0
  refine ⟨rfl, r3, hd3.set _ _ (((Kr.refl _ _ _).set _ _).set _ _) hA rfl (fun v hv => heap_set (heap_set hv 4 _) 6 _) (row_set hd3 _ _ (row_set hd3 _ _ fun _ _ => rfl)), (hkd.trans (.inl rfl) (hk3.trans hr3 (((Kr.refl _ _ _).set _ _).set _ _))), ?_⟩
  exact Rw.trans hkd.size (.inl rfl) hr3

def ReadP (d : Pd) (w : World) (e : Ending) (w' : World) : Prop := ∃ v, e = .returned (.tuple #[v, .int .i64 (d.read.2 : Int)]) ∧ Own w' w.heap.size v d.read.1 ∧ Bs w' v d.read.1 ∧ Below w.heap.size w w'
theorem u8_made : (Try.prog.info? 5).map (·.size) = some 1 := by kernel_rfl
theorem splice_all {Z cs : List Value} (h : Z.length = cs.length) : splice Z 0 cs = cs := by
  unfold splice
  rw [List.drop_eq_nil_of_le (by omega)]
  simp
set_option maxHeartbeats 400000 in
theorem read_any (h : Dk w base p r d) : Calls Try.prog 23 #[.pointer (some ⟨p, 0, none⟩)] w (ReadP d w) := by
  have hok := h.ok
  unfold ReadP Pd.read
  cases hd : d.down with
  | true =>
    rw [if_pos rfl]
    have HD := Lib.hid (downE_true hd)
    go_enter Try.func23, Try.ntmps23
    go_wp2_with fail
    refine (ready_any h).mono ?_
    rintro e w1 ⟨rfl, rfl⟩
    rw [HD.out]
    go_wp2_with fail
    go_ret2
    exact ⟨_, rfl, Own.nil _ _, Bs.nil _, Below.refl _ _⟩
  | false =>
    rw [if_neg (by decide)]
    have HD := Lib.hid (downE_false hd)
    obtain ⟨v, hr, hb, _, hown, hh⟩ := id h
    obtain ⟨A, c, rfl, hc, hcm, hat, -⟩ := hown.form
    obtain ⟨⟨c0, c1, c2, c3, c4, c5, c6⟩, -⟩ := box7 hh
    have hm := hok.most
    have hl := hok.len
    have h8 := Lib.hid hok.byte
    have hplt := h.lt
    obtain ⟨i0, hi0, hz0, hz1, hz2⟩ := info_parts u8_info
    have hZ : (madeCells #[Value.int .u8 0] d.bs.length).toList.length = (bv d.bs).length := by
      rw [Array.length_toList, size_madeCells, bv_length]
    go_enter Try.func23, Try.ntmps23
    go_wp2_with fail
    refine (ready_any h).mono ?_
    rintro e w1 ⟨rfl, rfl⟩
    rw [HD.out]
    go_wp2_with (first
      | (at_make
         (refine wpList_make_row _ rfl _ _ 22 rfl 5 i0 _ Try.underlying22 hi0 hz0 hz1 rfl .i64 .i64 d.bs.length rfl rfl (by rw [hz2]; omega) (by omega) ?_)
         have hbel : Below w.heap.size w (w.alloc (.cells (madeCells #[Value.int .u8 0] d.bs.length) 5)) := (Below.refl _ _).alloc (Nat.le_refl _) _
         have hcl : (w.alloc (.cells (madeCells #[Value.int .u8 0] d.bs.length) 5)).cell? ⟨p, 2, none⟩ = _ := (hbel.cell hplt).trans c2)
      | ((with_reducible show wpList _ _ _ (⟨_, Op.call ⟨Callee.builtin Builtin.copy, _, _⟩, _, _, _, _⟩ :: _) _ _)
         (refine wpList_copy_splice rfl (.tmp 17) (.tmp 21) 22 22 rfl 5 Try.underlying22 u8_made _ _ _ _ _ _ rfl rfl w.heap.size 0 (madeCells #[Value.int .u8 0] d.bs.length).toList 5 ?h1 (bv d.bs) ?h2 ?h3 ?h4 (bv_one _) w.heap.size w hbel (Nat.le_refl _) ?h5)
         case h1 => simpa using heap_new _ _
         case h2 => simp [bv_length]
         case h3 =>
           intro hpos
           obtain ⟨b, o, rfl, hbl, hcell⟩ := hat (by intro e; rw [e] at hpos; simp at hpos)
           refine ⟨rfl, _, rfl, fun j v hv => ?_⟩
           rw [Addr.add_lit]
           exact (hbel.cell hbl).trans (hcell j v hv)
         case h4 => omega
         intro w4 hg4 hb4))
    go_ret2
    rw [splice_all hZ] at hg4
    have hown4 : Own w4 w.heap.size (.slice (some ⟨w.heap.size, 0, none⟩) d.bs.length d.bs.length) d.bs := by
      refine ⟨by simp [bv], .inr ⟨w.heap.size, d.bs.length, _, rfl, Nat.le_refl _, hg4.out, Nat.le_refl _, by unfold maxLen; omega, by simp [bv], by rw [Nat.mul_one]; exact List.take_of_length_le (by simp [bv])⟩⟩
    exact ⟨_, rfl, hown4, Bs.of_own hown4 h8.out, hb4⟩
end
/-- What New answers. -/
theorem new_any (m : Nat) (hm : m ≤ 67108864) (w : World) : Calls Try.prog 5 #[.int .i64 (m : Int)] w fun e w' =>
    e = .returned (.tuple #[.pointer (some ⟨w.heap.size, 0, none⟩), .int .i64 0]) ∧ Dk w' w.heap.size w.heap.size none (.new m) ∧ Below w.heap.size w w' := by
  have t0 : decide ((m : Int) < 0) = false := decide_eq_false (by omega)
  have t1 : decide ((67108864 : Int) < (m : Int)) = false := decide_eq_false (by omega)
  go_enter Try.func5, Try.ntmps5
  go_wp2_with fail
  go_ret2
  refine ⟨rfl, ⟨.slice none 0 0, rfl, Nat.le_refl _, .new hm, Own.nil _ _, ?_⟩, ?_⟩
  · first | exact heap_set (heap_new w _) 0 _ | exact heap_new w _
  · first | exact ((Below.refl _ _).alloc (Nat.le_refl _) _).setCell (Nat.le_refl _) _ | exact (Below.refl _ _).alloc (Nat.le_refl _) _
theorem new_not (z : Int) (h : z < 0 ∨ 67108864 < z) (w : World) : Calls Try.prog 5 #[.int .i64 z] w fun e w' =>
    e = .returned (.tuple #[.pointer none, .int .i64 2]) ∧ w = w' := by
  by_cases h0 : z < 0
  · have t0 : decide (z < 0) = true := decide_eq_true (by omega)
    go_enter Try.func5, Try.ntmps5
    go_wp2_with fail
    go_ret2
    exact ⟨rfl, rfl⟩
  · have t0 : decide (z < 0) = false := decide_eq_false (by omega)
    have t1 : decide ((67108864 : Int) < z) = true := decide_eq_true (by omega)
    go_enter Try.func5, Try.ntmps5
    go_wp2_with fail
    go_ret2
    exact ⟨rfl, rfl⟩
end Go.Proofs.Ytcmopnkldplngaa
