/- droverlaw06.NetSpares returns true whatever its argument: what is handed in, and what is told, shares no memory with what is on its way. For every input, without conditions. -/
import Derived.Test.YtcaddokedkndmaaRow
import Derived.Test.YtcaddokedkndmaaNf
import Derived.Test.YtcaddokedkndmaaOwn2
namespace Go.Proofs.Ytcaddokedkndmaa.netSpares
open Go.ChangeShapes Go.WideShapes Go.ChangeAt Go.RowKit
set_option linter.unusedVariables false



set_option maxRecDepth 100000 in
set_option maxHeartbeats 4000000 in
theorem walk (w : World) (a0 : Option Addr) (n0 c0 : Nat) (w0 : ∃ l : List Nat, l.length = n0 ∧ n0 ≤ c0 ∧ At w w.heap.size a0 (bv l) ∧ (∀ x ∈ l, x < 256)) :
    Calls Try.prog 9 #[.slice a0 n0 c0] w fun e w' => e = .returned (.bool true) ∧ Below w.heap.size w w' := by
  obtain ⟨l, hl, hc, hat, h8⟩ := w0
  subst hl
  have hV : Bs w (.slice a0 l.length c0) l := Bs.of_at hat rfl hc h8
  have HV : ∀ w' : World, Below w.heap.size w w' → Bs w' (.slice a0 l.length c0) l := fun w' hb => hV.below hb
  have HVS := Lib.hid HV
  clear HV hV hat hc
  go_enter Try.func9, Try.ntmps9
  go_wp2_with fail
  refine (new_any 2 w).mono ?_
  rintro e w1 (⟨h, -, -⟩ | ⟨N, hN, -, -, rfl, hn1, hb1⟩)
  · omega
  obtain rfl : N = 2 := by omega
  clear hN
  by_cases hs : l.length = 0 ∨ 100 < l.length
  · obtain ⟨b0, hd0⟩ : ∃ b, decide (l.length = 0) = b := ⟨_, rfl⟩
    obtain ⟨b1, hd1⟩ : ∃ b, decide ((100 : Int) < (l.length : Int)) = b := ⟨_, rfl⟩
    have hd2 : ((l.length : Int) == 0) = b0 := by rw [← hd0]; by_cases h : l.length = 0 <;> simp [h]
    have hd3 : decide ((l.length : Int) > 100) = b1 := hd1
    have hd4 : decide (100 < l.length) = b1 := by rw [← hd1]; exact decide_eq_decide.2 (by omega)
    have hbb : (b0 || b1) = true := by
      rw [← hd0, ← hd4]
      rcases hs with h | h <;> simp [h]
    clear hs
    cases b0 with
    | true =>
      go_wp2_with fail
      refine (awake06_any _).mono ?_
      rintro e w5 ⟨rfl, hb5⟩
      go_wp2_with fail
      go_ret
      exact ⟨rfl, nxt hb1 hb5⟩
    | false =>
      simp at hbb
      subst hbb
      go_wp2_with fail
      refine (awake06_any _).mono ?_
      rintro e w5 ⟨rfl, hb5⟩
      go_wp2_with fail
      go_ret
      exact ⟨rfl, nxt hb1 hb5⟩
  have hn0 : 0 < l.length := by omega
  have hn100 : l.length ≤ 100 := by omega
  have d1 : ((l.length : Int) == 0) = false := beq_eq_false_iff_ne.2 (by omega)
  have d2 : decide (l.length = 0) = false := decide_eq_false (by omega)
  have d3 : decide ((l.length : Int) > 100) = false := decide_eq_false (by omega)
  have d4 : decide (100 < l.length) = false := decide_eq_false (by omega)
  clear hs
  go_wp2_with fail
  refine (copy_bs _ l w1 (HVS.out w1 hb1) (by omega)).mono ?_
  rintro e w2 ⟨u, rfl, hown, hbs, hb2⟩
  obtain ⟨g, cu, rfl, hg, hcu⟩ := hown.head (by intro e; rw [e] at hn0; simp at hn0)
  have hg2 : ∃ cur, w2.heap[g]? = some (.cells cur 5 (0, 0)) := by
    rcases hown.2 with ⟨h0, _⟩ | ⟨k, cap, cur, he, _, h2, _⟩
    · cases h0
    · injection he with he _ _
      injection he with he
      injection he with he _
      subst he
      exact ⟨cur, h2⟩
  obtain ⟨cur, hg2⟩ := hg2
  have hbw2 := nxt hb1 hb2
  have hn2 := hn1.below hb2
  obtain ⟨x0, hx0⟩ : ∃ x, Hid (l.getD 0 0 = x) := ⟨_, Lib.hid rfl⟩
  have hc2 := hown.cellAt 0 hn0
  rw [hx0.out] at hc2
  have hc2' : cur[0]? = some (.int .u8 (x0 : Int)) := by rw [← hc2, cell_block hg2 0]
  have HC2 := Lib.hid hc2'
  have hgw : w.heap.size ≤ g := by have := hb1.size; omega
  clear hown hc2 hc2' hn1 hb1 hb2
  go_wp2_with fail
  refine (send_any hn2 0 1 _ l hbs).mono ?_
  rintro e w3 ⟨rfl, ha3⟩
  have hE : sendE 2 [] 0 1 l = 0 := by
    unfold sendE
    rw [if_neg (by decide), if_neg (by decide), if_neg (by omega), if_neg (by simp)]
  have hL : sendL 2 [] 0 1 l = [⟨0, 1, l⟩] := by
    unfold sendL
    rw [if_pos hE]
    rfl
  rw [hE]
  rw [hL] at ha3
  have hg3 := ha3.keep hn2 hg2 (by decide) (by decide)
  have hb3 := hbw2.trans (ha3.low hn2)
  obtain ⟨r3, hn3, -, -⟩ := ha3
  clear hE hL hbs hn2 hg2 hbw2
  have e0 := cell_block hg3 0
  rw [HC2.out] at e0
  have f0 := free_block hg3 0
  have hqg : w.heap.size ≠ g := (hn3.q_ne hg3 (by decide)).symm
  have hn4 : ∀ v, NtAt (w3.setCell ⟨g, 0, none⟩ v) w.heap.size w.heap.size r3 2 [⟨0, 1, l⟩] := fun v => hn3.other (Below.heap_setCell _ _ _ _ hqg) (fun k hk => Below.heap_setCell _ _ _ _ (fun e => hn3.row_ne hg3 (by decide) (by rw [hk]; exact congrArg some e)))
  have hb4 : ∀ v, Below w.heap.size w (w3.setCell ⟨g, 0, none⟩ v) := fun v => hb3.setCell hgw v
  clear hn3 hb3 hg3
  go_wp2_with fail
  refine (copy_any6 (hn4 _) 0).mono ?_
  rintro e w5 ⟨rfl, ha5⟩
  rw [show copyE [⟨0, 1, l⟩] 0 = 0 from rfl]
  have hb5 := (hb4 _).trans (ha5.low (hn4 _))
  obtain ⟨r5, hn5, -, -⟩ := ha5
  replace hn5 : NtAt w5 w.heap.size w.heap.size r5 2 [⟨0, 1, l⟩, ⟨0, 1, l⟩] := hn5
  clear hn4 hb4 e0 f0
  go_wp2_with fail
  have HN0 := Lib.hid hn0
  have HX : Hid (∀ (wr : World) (b c : Nat) (cur : Array Value) (fr : Nat × Nat), wr.heap[b]? = some (.cells cur 5 fr) → Bs wr (.slice (some ⟨b, 0, none⟩) l.length c) l → wr.cell? ⟨b, 0, none⟩ = some (.int .u8 (x0 : Int))) := Lib.hid (by
    intro wr b c cur fr hh hB
    obtain ⟨-, -, hA, -⟩ := hB.parts
    obtain ⟨b', o, e, -, hcl⟩ := hA (bv_ne (by intro e; have := HN0.out; rw [e] at this; simp at this))
    injection e with e
    injection e with e1 e2
    subst e1 e2
    have := hcl 0 (.int .u8 (x0 : Int)) (by
      rw [← hx0.out]
      have h := HN0.out
      simp [bv, List.getD, h])
    simpa using this)
  clear hn0
  go_loopw [6] (fun i wr => ∃ j : Nat, j ≤ 2 ∧ i = .int .i64 (j : Int) ∧ Below w.heap.size w wr ∧ ∃ r, NtAt wr w.heap.size w.heap.size r 2 [⟨0, 1, l⟩, ⟨0, 1, l⟩]) (fun i _ => 2 - (intOf i).toNat)
  case atStart => exact ⟨0, by omega, rfl, hb5, r5, hn5⟩
  case round =>
    obtain ⟨j, hj, rfl, hbr, r, hnr⟩ := hrel
    by_cases hlt : j < 2
    · go_wp2_with fail
      refine (look_any hnr _).mono ?_
      have e1 : nthG [⟨0, 1, l⟩, ⟨0, 1, l⟩] (j : Int) = some ⟨0, 1, l⟩ := by
        rcases (show j = 0 ∨ j = 1 by omega) with rfl | rfl <;> rfl
      rw [e1]
      rintro e w6 ⟨hb6, b, c, cur, fr, rfl, hbl, hbh, hbs, hfr⟩
      have hb7 := (Below.refl w6.heap.size w6).alloc (Nat.le_refl _) (.cells #[.int .i64 0, .int .i64 1, .slice (some ⟨b, 0, none⟩) l.length c] 29)
      have hq7 := heap_new w6 (.cells #[.int .i64 0, .int .i64 1, .slice (some ⟨b, 0, none⟩) l.length c] 29)
      have hh7 := heap_old hbh (.cells #[.int .i64 0, .int .i64 1, .slice (some ⟨b, 0, none⟩) l.length c] 29)
      have hbs7 := hbs.below hb7
      have hn7 := (hnr.below hb6).below hb7
      have hbw7 := hbr.trans ((nxt hb6 hb7).mono hbr.size)
      have hf7 : (w6.alloc (.cells #[.int .i64 0, .int .i64 1, .slice (some ⟨b, 0, none⟩) l.length c] 29)).frozen? ⟨b, 0, none⟩ = false := by
        have := hfr 0 HN0.out
        unfold World.frozen? at this ⊢
        dsimp only at this ⊢
        rw [heap_old hbh]
        rw [hbh] at this
        exact this
      have hgw2 : w.heap.size ≤ b := by have := hbr.size; omega
      have e0 := HX.out _ b c cur fr hh7 hbs7
      have HV7 := HVS.out _ hbw7
      have hqb : w.heap.size ≠ b := (hn7.q_ne hh7 (by decide)).symm
      have hn8 : ∀ v, NtAt ((w6.alloc (.cells #[.int .i64 0, .int .i64 1, .slice (some ⟨b, 0, none⟩) l.length c] 29)).setCell ⟨b, 0, none⟩ v) w.heap.size w.heap.size r 2 [⟨0, 1, l⟩, ⟨0, 1, l⟩] := fun v => hn7.other (Below.heap_setCell _ _ _ _ hqb) (fun k hk => Below.heap_setCell _ _ _ _ (fun e => hn7.row_ne hh7 (by decide) (by rw [hk]; exact congrArg some e)))
      have hb8 : ∀ v, Below w.heap.size w ((w6.alloc (.cells #[.int .i64 0, .int .i64 1, .slice (some ⟨b, 0, none⟩) l.length c] 29)).setCell ⟨b, 0, none⟩ v) := fun v => hbw7.setCell hgw2 v
      obtain ⟨W7, hW7⟩ : ∃ W, W = w6.alloc (.cells #[.int .i64 0, .int .i64 1, .slice (some ⟨b, 0, none⟩) l.length c] 29) := ⟨_, rfl⟩
      obtain ⟨B7, hB7⟩ : ∃ B, B = w6.heap.size := ⟨_, rfl⟩
      clear hn7 hbw7 hh7 hfr hbl hbh hbs hnr hbr hb6
      go_wp2_with fail
      rw [← hW7] at hq7 hbs7 hf7 e0 HV7 hn8 hb8 ⊢
      rw [← hB7] at hq7 ⊢
      clear hW7 hB7 hb7
      obtain ⟨⟨y0, y1, y2⟩, -⟩ := box3 hq7
      refine (same_bs _ _ l l true _ hbs7 HV7 (by simp)).mono ?_
      rintro e wx ⟨rfl, rfl⟩
      go_wp2_with fail
      go_roundw
      case rel => exact ⟨j + 1, by omega, by go_num, hb8 _, r, hn8 _⟩
      case measure => simp [intOf]; omega
    · obtain rfl : j = 2 := by omega
      go_wp2_with fail
      refine (look_any hnr 0).mono ?_
      rintro e w6 ⟨hb6, b, c, cur, fr, rfl, -, hbh, hbs, -⟩
      have hx6 := Bx.of_blk (base := w.heap.size) hbs hbh
      have hb7 := (Below.refl w6.heap.size w6).alloc (Nat.le_refl _) (.cells #[.int .i64 0, .int .i64 1, .slice (some ⟨b, 0, none⟩) l.length c] 29)
      have hq7 := heap_new w6 (.cells #[.int .i64 0, .int .i64 1, .slice (some ⟨b, 0, none⟩) l.length c] 29)
      have hx7 := hx6.below hb7
      have hn7 := (hnr.below hb6).below hb7
      have hbw7 := hbr.trans ((nxt hb6 hb7).mono hbr.size)
      obtain ⟨W7, hW7⟩ : ∃ W, W = w6.alloc (.cells #[.int .i64 0, .int .i64 1, .slice (some ⟨b, 0, none⟩) l.length c] 29) := ⟨_, rfl⟩
      obtain ⟨B7, hB7⟩ : ∃ B, B = w6.heap.size := ⟨_, rfl⟩
      go_wp2_with fail
      rw [← hW7] at hq7 hx7 hn7 hbw7 ⊢
      rw [← hB7] at hq7 ⊢
      clear hW7 hB7 hb7 hx6 hnr hbr hb6 hbs hbh
      refine (take_any hn7 1).mono ?_
      rintro e w8 ⟨ha8, b', c', cur', fr', rfl, -, hbh, hbs, -⟩
      have hq8 := ha8.keep hn7 hq7 (by decide) (by decide)
      have hx8 := ha8.bx hn7 hx7
      have hb8 := hbw7.trans (ha8.low hn7)
      have hy8 := Bx.of_blk (base := w.heap.size) hbs hbh
      clear ha8 hn7 hq7 hx7 hbw7 hbs hbh
      have hb9 := (Below.refl w8.heap.size w8).alloc (Nat.le_refl _) (.cells #[.int .i64 0, .int .i64 1, .slice (some ⟨b', 0, none⟩) l.length c'] 29)
      have hp9 := heap_new w8 (.cells #[.int .i64 0, .int .i64 1, .slice (some ⟨b', 0, none⟩) l.length c'] 29)
      have hq9 := heap_below hq8 hb9
      have hx9 := (hx8.below hb9).bs
      have hy9 := (hy8.below hb9).bs
      have hbw9 := hb8.trans (hb9.mono hb8.size)
      have HV9 := HVS.out _ hbw9
      clear hq8 hx8 hb8 hy8 hb9
      obtain ⟨⟨y0, y1, y2⟩, -⟩ := box3 hq9
      obtain ⟨⟨z0, z1, z2⟩, -⟩ := box3 hp9
      go_wp2_with fail
      refine (same_bs _ _ l l true _ hx9 HV9 (by simp)).mono ?_
      rintro e wx ⟨rfl, rfl⟩
      go_wp2_with fail
      refine (same_bs _ _ l l true _ hy9 HV9 (by simp)).mono ?_
      rintro e wx ⟨rfl, rfl⟩
      go_wp2_with fail
      refine (awake06_any _).mono ?_
      rintro e w10 ⟨rfl, hb10⟩
      go_wp2_with fail
      go_ret
      exact ⟨rfl, nxt hbw9 hb10⟩

set_option maxRecDepth 100000 in
theorem lifted (os : Os) (started : os.Started) (H : Type) (enc : TypeId × Value → H) :
    ReturnsInHanded {} Try.checked os 9 .any (Rows.netSparesSpec.pre6 enc Try.prog Try.f9 Rows.netSparesRow.domain false) (Rows.netSparesSpec.post enc Try.prog Try.f9 false true false false) := by
  refine returnsInHanded_of_change (C := Try.checked) knob_own started (by kernel_rfl) Try.func9
    (ChangeSpec.witness6 (enc := enc) (C := Try.checked) false ⟨#[], #[.slice none 0 0], []⟩ 8 (by kernel_rfl) (by kernel_rfl) (by kernel_rfl) (by kernel_rfl)) ?_
  intro W base args ds gs before hval0 hW hcnd _
  have hval : ∀ (j : Nat) t v, Try.f9.params[j]? = some t → args[j]? = some v → Value.okWide Try.prog W .any base t v := hval0
  have hW' := hW
  obtain ⟨p, q, hA0, hV, rfl, hfz, hnd⟩ := hW
  have hA : DataW.TrodAll enc Try.prog W 0 (fun _ => true) true Try.f9.params.toList args.toList ds p := hA0
  rw [Try.params9] at hA hval
  obtain ⟨v0, vs0, d0, ds0, p0, q0, hargs, rfl, rfl, h0, r0⟩ := trodAll_cons hA
  obtain ⟨rfl, rfl, rfl⟩ := trodAll_nil r0
  obtain rfl : args = #[v0] := by cases args; simp_all
  obtain ⟨rfl, rfl⟩ := trodVars_none hV
  obtain ⟨a0, n0, c0, rfl⟩ := okWide_slice Try.underlying26 (hval 0 26 v0 rfl rfl)
  have k0 := h0
  have lt0 : ∀ x ∈ p0, x.block < W.heap.size := by obtain ⟨m, hm⟩ := k0; exact DataW.trod_lt m _ _ _ hm
  have z0 : ∃ zs, Ints .u8 W a0 n0 c0 zs := by
    obtain ⟨fuel, hf⟩ := h0
    rcases open_ints Try.underlying26 Try.underlying5 (by kernel_rfl) hf with ⟨hcs, _⟩ | ⟨x, l, c, zs, hcs, _, hl, hm, hz, _, hcell, hwz⟩
    · simp [Value.cells] at hcs
      obtain ⟨rfl, rfl, rfl⟩ := hcs
      exact ⟨[], ints_nil _ _⟩
    · simp [Value.cells] at hcs
      obtain ⟨rfl, rfl, rfl⟩ := hcs
      exact ⟨_, ints_some .u8 W x _ _ zs hl hm (by simpa using hz) hcell hwz⟩
  have w0 := z0.elim fun _ h => h.bytes
  clear hA0 hval0
  refine (walk W a0 n0 c0 w0).mono fun e W' ⟨he, bel⟩ => ?_
  subst he
  exact ⟨_, rfl, _, _, _, [], _, [], hW', trodAll_mk1 (shut_bool Try.underlying4 _), (trodAll_cons_mk (Below.trod laid_out (by kernel_rfl) (of_decide_eq_true (by kernel_rfl)) k0 bel lt0) (trodAll_mk0)), rfl, bel.frame _, fun h => by cases h⟩

theorem over : Rows.netSparesRow.holds Try.pinned (OpenSpec.ofChange Rows.netSparesSpec) :=
  OpenClaim.holds_of_wide 9 Try.f9 rfl rfl rfl rfl rfl rfl rfl ⟨rfl, rfl, rfl, rfl, rfl⟩ rfl rfl rfl rfl rfl (by kernel_rfl) Try.func9 (by kernel_rfl)
    (of_decide_eq_true (by kernel_rfl)) (by unfold Func.isWrapper; first | (rw [if_pos (by decide +kernel)]; kernel_rfl) | (rw [if_neg (by decide +kernel)]; exact ⟨rfl, rfl⟩))
    (fun os started H enc _ => lifted os started H enc)

theorem proved : Rows.NetSparesSaid := over
end Go.Proofs.Ytcaddokedkndmaa.netSpares
