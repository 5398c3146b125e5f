/- droverlaw01.BytesSums returns true whatever its arguments: three lists held against each other bit by bit have their sums held so. For every input, without conditions. -/
import Derived.Test.YtafjkbmkoghmkaaRow
import Derived.Test.YtafjkbmkoghmkaaAwake
import Derived.Test.YtafjkbmkoghmkaaOwn2
import Derived.Deep.RegionHeld3
import Derived.Deep.DeepCutAuto
import Derived.StillTailTactics
namespace Go.Proofs.Ytafjkbmkoghmkaa.bytesSums
open Go.ChangeShapes Go.WideShapes Go.ChangeAt Go.RowKit
set_option linter.unusedVariables false

theorem run_min4 {P : Program} (w : World) (ts : Array TypeId) (t : TypeId) (x y z : Nat) :
    (Builtin.min_ ts t #[.int .i64 (x : Int), .int .i64 (y : Int), .int .i64 (z : Int), .int .i64 500]).run P w = .ok (.int .i64 ((min (min (min x y) z) 500 : Nat) : Int)) w := by
  simp [Builtin.min_, Builtin.min2]
  repeat' split
  all_goals omega
/-- What the list x holds behind j rounds. -/
def upTo (X : List Nat) (k j : Nat) : List Nat := X.take j ++ List.replicate (k - j) 0
theorem upTo_len (X : List Nat) (k j : Nat) (hX : X.length = k) (hj : j ≤ k) : (upTo X k j).length = k := by simp [upTo]; omega
theorem upTo_set (X : List Nat) (k j : Nat) (hX : X.length = k) (hj : j < k) : (upTo X k j).set j (X.getD j 0) = upTo X k (j + 1) := by
  unfold upTo
  have hl : (X.take j).length = j := by simp; omega
  rw [List.set_append_right _ _ (by omega), hl, Nat.sub_self, show k - j = (k - (j + 1)) + 1 by omega, List.replicate_succ, List.set_cons_zero, List.take_succ_eq_append_getElem (l := X) (i := j) (by omega), List.append_assoc]
  have e : X.getD j 0 = X[j] := by simp [show j < X.length by omega]
  rw [e]
  rfl
theorem lxor_get : ∀ (a b : List Nat) (j : Nat), j < a.length → j < b.length → (lxor a b).getD j 0 = a.getD j 0 ^^^ b.getD j 0
  | [], _, j, h, _ => by simp at h
  | _ :: _, [], j, _, h => by simp at h
  | x :: a, y :: b, 0, _, _ => rfl
  | x :: a, y :: b, j + 1, h, h' => by
    have := lxor_get a b j (by simpa using h) (by simpa using h')
    simpa [lxor] using this

set_option maxRecDepth 100000 in
set_option maxHeartbeats 1000000 in
theorem walk (w : World) (a0 : Option Addr) (n0 c0 : Nat) (a1 : Option Addr) (n1 c1 : Nat) (a2 : Option Addr) (n2 c2 : Nat) (w0 : ∃ l : List Nat, l.length = n0 ∧ n0 ≤ c0 ∧ At w w.heap.size a0 (bv l) ∧ (∀ x ∈ l, x < 256)) (w1 : ∃ l : List Nat, l.length = n1 ∧ n1 ≤ c1 ∧ At w w.heap.size a1 (bv l) ∧ (∀ x ∈ l, x < 256)) (w2 : ∃ l : List Nat, l.length = n2 ∧ n2 ≤ c2 ∧ At w w.heap.size a2 (bv l) ∧ (∀ x ∈ l, x < 256)) :
    Calls Try.prog 7 #[.slice a0 n0 c0, .slice a1 n1 c1, .slice a2 n2 c2] w fun e w' => e = .returned (.bool true) ∧ Below w.heap.size w w' := by
  obtain ⟨l0, hl0, hc0, hat0, h80⟩ := w0
  obtain ⟨l1, hl1, hc1, hat1, h81⟩ := w1
  obtain ⟨l2, hl2, hc2, hat2, h82⟩ := w2
  have hb0 := Bs.of_at hat0 hl0 hc0 h80
  have hb1 := Bs.of_at hat1 hl1 hc1 h81
  have hb2 := Bs.of_at hat2 hl2 hc2 h82
  clear hat0 hat1 hat2
  obtain ⟨i0, hi0, hz0, hz1, hz2⟩ := info_parts u8_info
  have hmin := fun (ts : Array TypeId) (t : TypeId) => run_min4 (P := Try.prog) w ts t n0 n1 n2
  obtain ⟨k, hk⟩ : ∃ k, k = min (min (min n0 n1) n2) 500 := ⟨_, rfl⟩
  have hk0 : k ≤ n0 := by omega
  have hk1 : k ≤ n1 := by omega
  have hk2 : k ≤ n2 := by omega
  have hk5 : k ≤ 500 := by omega
  rw [← hk] at hmin
  clear hk
  obtain ⟨X, hX⟩ : ∃ X, X = lxor (lxor (l0.take k) (l1.take k)) (l2.take k) := ⟨_, rfl⟩
  have t80 : ∀ x ∈ l0.take k, x < 256 := fun x hx => h80 x (List.mem_of_mem_take hx)
  have t81 : ∀ x ∈ l1.take k, x < 256 := fun x hx => h81 x (List.mem_of_mem_take hx)
  have t82 : ∀ x ∈ l2.take k, x < 256 := fun x hx => h82 x (List.mem_of_mem_take hx)
  have hXl : X.length = k := by rw [hX, lxor_length _ _ (by rw [lxor_length _ _ (by simp; omega)]; simp; omega), lxor_length _ _ (by simp; omega)]; simp; omega
  have hXg : ∀ j, j < k → X.getD j 0 = l0.getD j 0 ^^^ l1.getD j 0 ^^^ l2.getD j 0 := by
    intro j hj
    rw [hX, lxor_get _ _ j (by rw [lxor_length _ _ (by simp; omega)]; simp; omega) (by simp; omega), lxor_get _ _ j (by simp; omega) (by simp; omega)]
    simp [List.getD, List.getElem?_take_of_lt hj]
  have hX8 : ∀ x ∈ X, x < 256 := by rw [hX]; exact lxor_bytes _ _ (lxor_bytes _ _ t80 t81) t82
  have HX : Hid (crcN X = crcN (l0.take k) ^^^ crcN (l1.take k) ^^^ crcN (l2.take k)) := by
    show _ = _
    rw [hX]
    exact crcN_three _ _ _ t80 t81 t82 (by simp; omega) (by simp; omega)
  have HXl := Lib.hid hXl
  have HXg := Lib.hid hXg
  clear hX hXl hXg
  go_enter Try.func7, Try.ntmps7
  go_wp2_with (at_make
               refine wpList_make_full _ rfl _ _ 23 rfl w.heap.size 5 i0 _ 1 Try.underlying23 hi0 hz0 hz1 .i64 .i64 _ _ k rfl rfl rfl rfl (by rw [hz2]; omega) (by unfold maxLen; omega) (Nat.le_refl _) ?_
               intro w1 hown1 hg1)
  have hbw1 : Below w.heap.size w w1 := (Below.refl _ _).grown hg1 (Nat.le_refl _) (by simp)
  have ho1 : Own w1 w.heap.size (.slice (some ⟨w.heap.size, 0, none⟩) k k) (upTo X k 0) := by
    unfold Own
    rw [upTo_len X k 0 HXl.out (Nat.zero_le _)]
    have e : bv (upTo X k 0) = (madeCells (Value.int .u8 0).cells (k * 1)).toList := by
      have hc : (Value.int IntKind.u8 0).cells = #[Value.int IntKind.u8 0] := rfl
      rw [hc]
      simp [upTo, bv, madeCells, Nat.mod_one]
      rw [List.map_const', List.length_range]
    rw [e]
    exact hown1
  clear hown1 hg1 hmin
  go_loopw [9] (fun i wr => ∃ j : Nat, j ≤ k ∧ i = .int .i64 (j : Int) ∧ Own wr w.heap.size (.slice (some ⟨w.heap.size, 0, none⟩) k k) (upTo X k j) ∧ Below w.heap.size w wr) (fun i _ => k - (intOf i).toNat)
  case atStart => exact ⟨0, Nat.zero_le _, rfl, ho1, hbw1⟩
  case round =>
    obtain ⟨j, hj, rfl, ho, hbw⟩ := hrel
    by_cases hlt : j < k
    · obtain ⟨hl0', hc0', hat0', _⟩ := (hb0.below hbw).parts
      obtain ⟨hl1', hc1', hat1', _⟩ := (hb1.below hbw).parts
      obtain ⟨hl2', hc2', hat2', _⟩ := (hb2.below hbw).parts
      obtain ⟨b0, o0, rfl, hbb0, hcell0⟩ := hat0'.byte (by intro h0; rw [h0] at hl0'; simp at hl0'; omega)
      obtain ⟨b1, o1, rfl, hbb1, hcell1⟩ := hat1'.byte (by intro h0; rw [h0] at hl1'; simp at hl1'; omega)
      obtain ⟨b2, o2, rfl, hbb2, hcell2⟩ := hat2'.byte (by intro h0; rw [h0] at hl2'; simp at hl2'; omega)
      have g0 := hcell0 j (by omega)
      have g1 := hcell1 j (by omega)
      have g2 := hcell2 j (by omega)
      have hul : (upTo X k j).length = k := upTo_len X k j HXl.out hj
      have ho' : Own wr w.heap.size (.slice (some ⟨w.heap.size, 0, none⟩) (upTo X k j).length k) (upTo X k j) := by rw [hul]; exact ho
      have hfro := Own.frozenAt ho' j rfl
      have hcx := Own.cellAt ho' j (by omega)
      have hst := Own.stored ho' j (X.getD j 0)
      rw [upTo_set X k j HXl.out hlt, hul] at hst
      have hx0 : l0.getD j 0 < 256 := by
        have := h80 (l0[j]'(by omega)) (List.getElem_mem _)
        simpa [show j < l0.length by omega] using this
      have hx1 : l1.getD j 0 < 256 := by
        have := h81 (l1[j]'(by omega)) (List.getElem_mem _)
        simpa [show j < l1.length by omega] using this
      have hx2 : l2.getD j 0 < 256 := by
        have := h82 (l2[j]'(by omega)) (List.getElem_mem _)
        simpa [show j < l2.length by omega] using this
      have hv := HXg.out j hlt
      rw [hv] at hst
      clear hcell0 hcell1 hcell2 hv ho ho' hul hl0' hl1' hl2' hat0' hat1' hat2'
      generalize l0.getD j 0 = x0 at *
      generalize l1.getD j 0 = x1 at *
      generalize l2.getD j 0 = x2 at *
      generalize (upTo X k j).getD j 0 = xx at *
      have hj0 : (0 : Int) ≤ j := by omega
      have hj1 : (j : Int) < k := by omega
      have hj2 : (j : Int) < n0 := by omega
      have hj3 : (j : Int) < n1 := by omega
      have hj4 : (j : Int) < n2 := by omega
      go_wp2_with fail
      go_still_tail 17, (by kernel_rfl)
      go_wp2
      rw [show bits BinOp.xor IntKind.u8 (bits BinOp.xor IntKind.u8 (x0 : Int) (x1 : Int)) (x2 : Int) = ((x0 ^^^ x1 ^^^ x2 : Nat) : Int) by
        rw [u8_xor_nat x0 x1 hx0 hx1, u8_xor_nat _ _ (Nat.xor_lt_two_pow (n := 8) hx0 hx1) hx2]]
      go_roundw
      case rel => exact ⟨j + 1, by omega, by go_num, hst.1.drew, (hbw.setCell (Nat.le_refl _) _).drew⟩
      case measure => simp [intOf]; omega
    · obtain rfl : j = k := by omega
      have hu : upTo X j j = X := by
        unfold upTo
        rw [Nat.sub_self, List.take_of_length_le (by rw [HXl.out]; omega)]
        simp
      rw [hu] at ho
      have hXl := HXl.out
      have hvx : Bs wr (.slice (some ⟨w.heap.size, 0, none⟩) j j) X := Bs.of_own ho hX8
      have hv0 := (hb0.below hbw).pre j hk0
      have hv1 := (hb1.below hbw).pre j hk1
      have hv2 := (hb2.below hbw).pre j hk2
      have HXl' := Lib.hid hXl
      clear hXl hu ho h80 h81 h82 hX8 t80 t81 t82 hb0 hb1 hb2
      have q0 : (0 : Int) ≤ j := by omega
      have q1 : (j : Int) ≤ c0 := by omega
      have q2 : (j : Int) ≤ c1 := by omega
      have q3 : (j : Int) ≤ c2 := by omega
      have hEq : (((crcN X : Nat) : Int) == bits BinOp.xor IntKind.u32 (bits BinOp.xor IntKind.u32 ((crcN (l0.take j) : Nat) : Int) ((crcN (l1.take j) : Nat) : Int)) ((crcN (l2.take j) : Nat) : Int)) = true := by
        rw [u32_xor_nat _ _ (crcN_lt _) (crcN_lt _), u32_xor_nat _ _ (Nat.xor_lt_two_pow (n := 32) (crcN_lt _) (crcN_lt _)) (crcN_lt _), HX.out]
        simp
      go_wp2_with fail
      go_region_held3 (fun _ => True) (trivial)
          (first
            | (go_at_call 20
               refine (awake_any _).mono ?_
               rintro e w5 ⟨rfl, hb5⟩)
            | (go_at_call 25
               (with_reducible refine (crc_bs (.slice (some ⟨w.heap.size, 0, none⟩) j j) X _ hvx.drew (by rw [HXl'.out]; omega)).mono ?_)
               rintro e w5 ⟨rfl, rfl⟩)
            | (go_at_call 25
               (with_reducible refine (crc_bs (.slice a0 j c0) (l0.take j) _ hv0.drew (by simp; omega)).mono ?_)
               rintro e w5 ⟨rfl, rfl⟩)
            | (go_at_call 25
               (with_reducible refine (crc_bs (.slice a1 j c1) (l1.take j) _ hv1.drew (by simp; omega)).mono ?_)
               rintro e w5 ⟨rfl, rfl⟩)
            | (go_at_call 25
               (with_reducible refine (crc_bs (.slice a2 j c2) (l2.take j) _ hv2.drew (by simp; omega)).mono ?_)
               rintro e w5 ⟨rfl, rfl⟩))
      all_goals
        go_wp2
        go_ret
        exact ⟨rfl, nxt hbw (of_drew hb5)⟩

set_option maxRecDepth 100000 in
theorem lifted (os : Os) (started : os.Started) (H : Type) (enc : TypeId × Value → H) :
    ReturnsInHanded {} Try.checked os 7 .any (Rows.bytesSumsSpec.pre6 enc Try.prog Try.f7 Rows.bytesSumsRow.domain false) (Rows.bytesSumsSpec.post enc Try.prog Try.f7 false true false false) := by
  refine returnsInHanded_of_change (C := Try.checked) knob_own started (by kernel_rfl) Try.func7
    (ChangeSpec.witness6 (enc := enc) (C := Try.checked) false ⟨#[], #[.slice none 0 0, .slice none 0 0, .slice none 0 0], []⟩ 8 (by kernel_rfl) (by kernel_rfl) (by kernel_rfl) (by kernel_rfl)) ?_
  intro W base args ds gs before hval0 hW hcnd _
  have hval : ∀ (j : Nat) t v, Try.f7.params[j]? = some t → args[j]? = some v → Value.okWide Try.prog W .any base t v := hval0
  have hW' := hW
  obtain ⟨p, q, hA0, hV, rfl, hfz, hnd⟩ := hW
  have hA : DataW.TrodAll enc Try.prog W 0 (fun _ => true) true Try.f7.params.toList args.toList ds p := hA0
  rw [Try.params7] at hA hval
  obtain ⟨v0, vs0, d0, ds0, p0, q0, hargs, rfl, rfl, h0, r0⟩ := trodAll_cons hA
  obtain ⟨v1, vs1, d1, ds1, p1, q1, rfl, rfl, rfl, h1, r1⟩ := trodAll_cons r0
  obtain ⟨v2, vs2, d2, ds2, p2, q2, rfl, rfl, rfl, h2, r2⟩ := trodAll_cons r1
  obtain ⟨rfl, rfl, rfl⟩ := trodAll_nil r2
  obtain rfl : args = #[v0, v1, v2] := by cases args; simp_all
  obtain ⟨rfl, rfl⟩ := trodVars_none hV
  obtain ⟨a0, n0, c0, rfl⟩ := okWide_slice Try.underlying23 (hval 0 23 v0 rfl rfl)
  have k0 := h0
  have lt0 : ∀ x ∈ p0, x.block < W.heap.size := by obtain ⟨m, hm⟩ := k0; exact DataW.trod_lt m _ _ _ hm
  have z0 : ∃ zs, Ints .u8 W a0 n0 c0 zs := by
    obtain ⟨fuel, hf⟩ := h0
    rcases open_ints Try.underlying23 Try.underlying5 (by kernel_rfl) hf with ⟨hcs, _⟩ | ⟨x, l, c, zs, hcs, _, hl, hm, hz, _, hcell, hwz⟩
    · simp [Value.cells] at hcs
      obtain ⟨rfl, rfl, rfl⟩ := hcs
      exact ⟨[], ints_nil _ _⟩
    · simp [Value.cells] at hcs
      obtain ⟨rfl, rfl, rfl⟩ := hcs
      exact ⟨_, ints_some .u8 W x _ _ zs hl hm (by simpa using hz) hcell hwz⟩
  have w0 := z0.elim fun _ h => h.bytes
  obtain ⟨a1, n1, c1, rfl⟩ := okWide_slice Try.underlying23 (hval 1 23 v1 rfl rfl)
  have k1 := h1
  have lt1 : ∀ x ∈ p1, x.block < W.heap.size := by obtain ⟨m, hm⟩ := k1; exact DataW.trod_lt m _ _ _ hm
  have z1 : ∃ zs, Ints .u8 W a1 n1 c1 zs := by
    obtain ⟨fuel, hf⟩ := h1
    rcases open_ints Try.underlying23 Try.underlying5 (by kernel_rfl) hf with ⟨hcs, _⟩ | ⟨x, l, c, zs, hcs, _, hl, hm, hz, _, hcell, hwz⟩
    · simp [Value.cells] at hcs
      obtain ⟨rfl, rfl, rfl⟩ := hcs
      exact ⟨[], ints_nil _ _⟩
    · simp [Value.cells] at hcs
      obtain ⟨rfl, rfl, rfl⟩ := hcs
      exact ⟨_, ints_some .u8 W x _ _ zs hl hm (by simpa using hz) hcell hwz⟩
  have w1 := z1.elim fun _ h => h.bytes
  obtain ⟨a2, n2, c2, rfl⟩ := okWide_slice Try.underlying23 (hval 2 23 v2 rfl rfl)
  have k2 := h2
  have lt2 : ∀ x ∈ p2, x.block < W.heap.size := by obtain ⟨m, hm⟩ := k2; exact DataW.trod_lt m _ _ _ hm
  have z2 : ∃ zs, Ints .u8 W a2 n2 c2 zs := by
    obtain ⟨fuel, hf⟩ := h2
    rcases open_ints Try.underlying23 Try.underlying5 (by kernel_rfl) hf with ⟨hcs, _⟩ | ⟨x, l, c, zs, hcs, _, hl, hm, hz, _, hcell, hwz⟩
    · simp [Value.cells] at hcs
      obtain ⟨rfl, rfl, rfl⟩ := hcs
      exact ⟨[], ints_nil _ _⟩
    · simp [Value.cells] at hcs
      obtain ⟨rfl, rfl, rfl⟩ := hcs
      exact ⟨_, ints_some .u8 W x _ _ zs hl hm (by simpa using hz) hcell hwz⟩
  have w2 := z2.elim fun _ h => h.bytes
  clear hA0 hval0
  refine (walk W a0 n0 c0 a1 n1 c1 a2 n2 c2 w0 w1 w2).mono fun e W' ⟨he, bel⟩ => ?_
  subst he
  exact ⟨_, rfl, _, _, _, [], _, [], hW', trodAll_mk1 (shut_bool Try.underlying4 _), (trodAll_cons_mk (Below.trod laid_out (by kernel_rfl) (of_decide_eq_true (by kernel_rfl)) k0 bel lt0) (trodAll_cons_mk (Below.trod laid_out (by kernel_rfl) (of_decide_eq_true (by kernel_rfl)) k1 bel lt1) (trodAll_cons_mk (Below.trod laid_out (by kernel_rfl) (of_decide_eq_true (by kernel_rfl)) k2 bel lt2) (trodAll_mk0)))), rfl, bel.frame _, fun h => by cases h⟩

theorem over : Rows.bytesSumsRow.holds Try.pinned (OpenSpec.ofChange Rows.bytesSumsSpec) :=
  OpenClaim.holds_of_wide 7 Try.f7 rfl rfl rfl rfl rfl rfl rfl ⟨rfl, rfl, rfl, rfl, rfl⟩ rfl rfl rfl rfl rfl (by kernel_rfl) Try.func7 (by kernel_rfl)
    (of_decide_eq_true (by kernel_rfl)) (by unfold Func.isWrapper; first | (rw [if_pos (by decide +kernel)]; kernel_rfl) | (rw [if_neg (by decide +kernel)]; exact ⟨rfl, rfl⟩))
    (fun os started H enc _ => lifted os started H enc)

theorem proved : Rows.BytesSumsSaid := over
end Go.Proofs.Ytafjkbmkoghmkaa.bytesSums
