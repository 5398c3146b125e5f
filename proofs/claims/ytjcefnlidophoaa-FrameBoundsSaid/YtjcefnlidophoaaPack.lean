/- drover/frame.Pack, unseal, getNumber: the walks. -/
import Derived.Test.YtjcefnlidophoaaFb
import Derived.Test.YtjcefnlidophoaaGe
import Derived.Test.YtjcefnlidophoaaCells
import Derived.KernelRfl
namespace Go.Proofs.Ytjcefnlidophoaa
open Go.RowKit

/-- A packet in memory. -/
structure PRep (w : World) (v : Value) (p : Pk) (A : Option Addr) (c : Nat) : Prop where
  eq : v = .agg #[.int .i64 (p.f : Int), .int .i64 (p.l : Int), .int .i64 (p.s : Int), .int .i64 (p.a : Int), .slice A p.d.length c]
  bs : Bs w (.slice A p.d.length c) p.d
/-- Numbers as there are among a packet's: any int. -/
def pint (f l s a : Int) (d : List Nat) : Bool := decide (0 ≤ f ∧ f ≤ big) && decide (0 ≤ l ∧ l ≤ big) && decide (0 ≤ s ∧ s ≤ big) && decide (0 ≤ a ∧ a ≤ big) && decide (d.length ≤ 1048576) && (decide (s ≠ 0) || d.isEmpty)
def OutPack (ok : Bool) (l : List Nat) (w : World) (e : Ending) (w' : World) : Prop := Below w.heap.size w w' ∧
  (ok = false → e = .returned (.tuple #[.slice none 0 0, .int .i64 14])) ∧
  (ok = true → ∃ u, e = .returned (.tuple #[u, .int .i64 0]) ∧ Own w' w.heap.size u (l ++ be4 (crcN l)) ∧ Bs w' u (l ++ be4 (crcN l)))
theorem pidx0 (f l s a : Int) (w : World) : (Instr.index 118 (.agg #[.int .i64 f, .int .i64 l, .int .i64 s, .int .i64 a]) (.int .i64 0)).run Try.prog w = .ok (.int .i64 f) w := by kernel_rfl
theorem pidx1 (f l s a : Int) (w : World) : (Instr.index 118 (.agg #[.int .i64 f, .int .i64 l, .int .i64 s, .int .i64 a]) (.int .i64 1)).run Try.prog w = .ok (.int .i64 l) w := by kernel_rfl
theorem pidx2 (f l s a : Int) (w : World) : (Instr.index 118 (.agg #[.int .i64 f, .int .i64 l, .int .i64 s, .int .i64 a]) (.int .i64 2)).run Try.prog w = .ok (.int .i64 s) w := by kernel_rfl
theorem pidx3 (f l s a : Int) (w : World) : (Instr.index 118 (.agg #[.int .i64 f, .int .i64 l, .int .i64 s, .int .i64 a]) (.int .i64 3)).run Try.prog w = .ok (.int .i64 a) w := by kernel_rfl
theorem u64_of (n : Int) (h0 : -9223372036854775808 ≤ n) (h1 : n ≤ 9223372036854775807) : decide ((4611686018427387904 : Int) < IntKind.u64.wrap n) = !decide (0 ≤ n ∧ n ≤ 4611686018427387904) := by
  rw [show IntKind.u64.wrap n = n % 18446744073709551616 from rfl]
  by_cases h : 0 ≤ n ∧ n ≤ 4611686018427387904
  · rw [decide_eq_true h, decide_eq_false]
    · rfl
    · omega
  · rw [decide_eq_false h, decide_eq_true]
    · rfl
    · omega
set_option maxRecDepth 100000 in
set_option maxHeartbeats 800000 in
theorem unseal_f (v : Value) (l : List Nat) (most : Nat) (w : World) (h : Bs w v l) (hn : l.length ≤ 1099511627776) :
    Calls Try.prog 80 #[v, .int .i64 (most : Int)] w fun e w' => ∃ v', e = .returned (.tuple #[v', .int .i64 (((if most < l.length then ([], 3) else us l).2 : Nat) : Int)]) ∧ Own w' w.heap.size v' (if most < l.length then ([], 3) else us l).1 ∧ Bs w' v' (if most < l.length then ([], 3) else us l).1 ∧ Below w.heap.size w w' := by
  obtain ⟨⟨A, c, rfl, hc, _⟩, _⟩ := id h
  by_cases hbig : most < l.length
  · have g1 : decide ((most : Int) < (l.length : Int)) = true := by simp; omega
    have g1' : decide (most < l.length) = true := by simp; omega
    rw [if_pos hbig]
    go_enter Try.func80, Try.ntmps80
    go_wp2_with fail
    go_ret2
    exact ⟨_, rfl, Own.nil _ _, Bs.nil _, Below.refl _ _⟩
  · have g1 : decide ((most : Int) < (l.length : Int)) = false := by simp; omega
    have g1' : decide (most < l.length) = false := by simp; omega
    rw [if_neg hbig]
    clear hbig
    have HU : Hid (us l = us l) := Lib.hid rfl
    go_enter Try.func80, Try.ntmps80
    go_wp2_with fail
    refine (unseal_bs _ l _ h hn).mono ?_
    rintro e w1 ⟨v1, rfl, ho1, hv1, hb1⟩
    go_wp2_with fail
    go_ret2
    exact ⟨_, rfl, ho1, hv1, hb1⟩
def FpPost (r : Except Nat (Nat × Nat)) (w : World) (e : Ending) (w' : World) : Prop := w = w' ∧ match r with
  | .error er => e = .returned (.tuple #[.int .i64 0, .int .i64 0, .int .i64 ((er : Nat) : Int)])
  | .ok (n, nx) => e = .returned (.tuple #[.int .i64 ((n : Nat) : Int), .int .i64 ((nx : Nat) : Int), .int .i64 0])
set_option maxRecDepth 100000 in
set_option maxHeartbeats 800000 in
theorem number_any (v : Value) (l : List Nat) (at_ : Nat) (w : World) (h : Bs w v l) (hn : l.length ≤ 1099511627776) (hat : at_ ≤ l.length) :
    Calls Try.prog 92 #[v, .int .i64 (at_ : Int)] w (FpPost (fP l at_) w) := by
  obtain ⟨hx, he0, hk⟩ := gu_bounds l at_ hat
  have hF : fP l at_ = if (gu l at_).2.2 ≠ 0 then .error (gu l at_).2.2 else if big < (gu l at_).1 then .error 14 else .ok ((gu l at_).1, (gu l at_).2.1) := rfl
  generalize hr : gu l at_ = r at *
  obtain ⟨x, k, er⟩ := r
  dsimp only at *
  have HR := Lib.hid hr
  have HF := Lib.hid hF
  clear hr hF
  by_cases he : er = 0
  · subst he
    obtain ⟨k1, k2⟩ := hk rfl
    clear hk he0
    by_cases hb : big < x
    · have g1 : decide ((4611686018427387904 : Int) < (x : Int)) = true := by unfold big at hb; simp; omega
      go_enter Try.func92, Try.ntmps92
      go_wp2_with fail
      refine (getuint_bs _ l at_ _ h hn hat).mono ?_
      rw [HR.out]
      rintro e w1 ⟨rfl, rfl⟩
      go_wp2_with fail
      refine bodyPost_ret (v := .tuple #[.int .i64 0, .int .i64 0, .int .i64 14]) (by simp [results, Try.results92, go_sem]) rfl ?_
      refine ⟨rfl, ?_⟩
      rw [HF.out, if_neg (by simp), if_pos hb]
      rfl
    · have g1 : decide ((4611686018427387904 : Int) < (x : Int)) = false := by unfold big at hb; simp; omega
      have g2 : x ≤ 4611686018427387904 := by unfold big at hb; omega
      go_enter Try.func92, Try.ntmps92
      go_wp2_with fail
      refine (getuint_bs _ l at_ _ h hn hat).mono ?_
      rw [HR.out]
      rintro e w1 ⟨rfl, rfl⟩
      go_wp2_with fail
      refine bodyPost_ret (v := .tuple #[.int .i64 (x : Int), .int .i64 (k : Int), .int .i64 0]) (by simp [results, Try.results92, go_sem]) rfl ?_
      refine ⟨rfl, ?_⟩
      rw [HF.out, if_neg (by simp), if_neg hb]
  · have g1 : ((er : Int) != 0) = true := bne_iff_ne.2 (by omega)
    go_enter Try.func92, Try.ntmps92
    go_wp2_with fail
    refine (getuint_bs _ l at_ _ h hn hat).mono ?_
    rw [HR.out]
    rintro e w1 ⟨rfl, rfl⟩
    go_wp2_with fail
    refine bodyPost_ret (v := .tuple #[.int .i64 0, .int .i64 0, .int .i64 (er : Int)]) (by simp [results, Try.results92, go_sem]) rfl ?_
    refine ⟨rfl, ?_⟩
    rw [HF.out, if_pos he]
set_option maxRecDepth 100000 in
set_option maxHeartbeats 1600000 in
theorem pack_any (f l s a : Int) (d : List Nat) (A : Option Addr) (c : Nat) (w : World) (hd : Bs w (.slice A d.length c) d)
    (hf : -9223372036854775808 ≤ f ∧ f ≤ 9223372036854775807) (hl : -9223372036854775808 ≤ l ∧ l ≤ 9223372036854775807) (hs : -9223372036854775808 ≤ s ∧ s ≤ 9223372036854775807) (ha : -9223372036854775808 ≤ a ∧ a ≤ 9223372036854775807) :
    Calls Try.prog 16 #[.agg #[.int .i64 f, .int .i64 l, .int .i64 s, .int .i64 a, .slice A d.length c]] w (OutPack (pint f l s a d) (penc ⟨f.toNat, l.toNat, s.toNat, a.toNat, d⟩) w) := by
  have hb0 := (Below.refl w.heap.size w).alloc (Nat.le_refl _) (.cells #[.int .i64 f, .int .i64 l, .int .i64 s, .int .i64 a, .slice A d.length c] 29)
  have q0 := heap_new w (.cells #[.int .i64 f, .int .i64 l, .int .i64 s, .int .i64 a, .slice A d.length c] 29)
  by_cases hbig : 1048576 < d.length
  · have g1 : decide ((1048576 : Int) < (d.length : Int)) = true := by simp; omega
    have g1' : decide (1048576 < d.length) = true := by simp; omega
    have hp : pint f l s a d = false := by unfold pint; rw [decide_eq_false (show ¬ d.length ≤ 1048576 by omega)]; simp
    rw [hp]
    clear hp
    go_enter Try.func16, Try.ntmps16
    go_wp2_with fail
    go_ret2
    exact ⟨hb0, fun _ => rfl, fun h => by cases h⟩
  have hbig' : d.length ≤ 1048576 := by omega
  have g1 : decide ((1048576 : Int) < (d.length : Int)) = false := by simp; omega
  have g1' : decide (1048576 < d.length) = false := by simp; omega
  clear hbig
  by_cases hsd : s = 0 ∧ d ≠ []
  · obtain ⟨rfl, hne⟩ := hsd
    have hlen : 0 < d.length := List.length_pos_iff.2 hne
    have g2 : decide ((0 : Int) < (d.length : Int)) = true := by simp; omega
    have g2' : decide (0 < d.length) = true := by simp; omega
    have hp : pint f l 0 a d = false := by
      unfold pint
      have : d.isEmpty = false := by cases d with
        | nil => exact absurd rfl hne
        | cons x r => rfl
      rw [this]
      simp
    rw [hp]
    clear hp hne
    go_enter Try.func16, Try.ntmps16
    go_wp2_with fail
    go_ret2
    exact ⟨hb0, fun _ => rfl, fun h => by cases h⟩
  have hsd' : (decide (s ≠ 0) || d.isEmpty) = true := by
    by_cases h : s = 0
    · have : d = [] := by
        by_cases hd : d = []
        · exact hd
        · exact absurd ⟨h, hd⟩ hsd
      rw [this]
      simp
    · simp [h]
  have htest : Hid (s = 0 → d.length = 0) := fun h => by
    by_cases hd : d = []
    · rw [hd]; rfl
    · exact absurd ⟨h, hd⟩ hsd
  have HSD := Lib.hid hsd'
  clear hsd hsd'
  obtain ⟨W, hW⟩ : ∃ W : World, W = w.alloc (.cells #[.int .i64 f, .int .i64 l, .int .i64 s, .int .i64 a, .slice A d.length c] 29) := ⟨_, rfl⟩
  rw [← hW] at hb0 q0
  obtain ⟨zs0, hzs⟩ : ∃ z, z = (s == 0) := ⟨_, rfl⟩
  have hs0 : (s == 0) = zs0 := hzs.symm
  have hcut : zs0 = true → decide ((0 : Int) < (d.length : Int)) = false ∧ decide (0 < d.length) = false := by
    intro h
    have : s = 0 := by rw [hzs] at h; simpa using h
    have := htest.out this
    exact ⟨by rw [decide_eq_false_iff_not]; omega, by rw [decide_eq_false_iff_not]; omega⟩
  have HCUT := Lib.hid hcut
  clear hcut hzs
  have hbd : ∀ z ∈ [f, l, s, a], -9223372036854775808 ≤ z ∧ z ≤ 9223372036854775807 := by
    intro z hz
    simp only [List.mem_cons, List.not_mem_nil, or_false] at hz
    rcases hz with rfl | rfl | rfl | rfl <;> assumption
  have HBD := Lib.hid hbd
  have hpf : ∀ z ∈ [f, l, s, a], ¬ (0 ≤ z ∧ z ≤ 4611686018427387904) → pint f l s a d = false := by
    intro z hz hn
    have hb' : (big : Int) = 4611686018427387904 := rfl
    unfold pint
    rw [hb']
    simp only [List.mem_cons, List.not_mem_nil, or_false] at hz
    rcases hz with rfl | rfl | rfl | rfl <;> simp [hn]
  have HPF := Lib.hid hpf
  clear hbd hpf
  cases zs0 with
  | true =>
    obtain ⟨g2, g2'⟩ := HCUT.out rfl
    clear HCUT
    go_enter Try.func16, Try.ntmps16
    go_wp2_with fail
    rw [← hW]
    go_loopw [4, 31] (fun b i wr => ∃ j : Nat, j ≤ 4 ∧ i = .int .i64 (j : Int) ∧ Own wr W.heap.size b (([f, l, s, a].take j).flatMap fun z => varint z.toNat) ∧ (∀ z ∈ [f, l, s, a].take j, 0 ≤ z ∧ z ≤ 4611686018427387904) ∧ Below W.heap.size W wr) (fun _ i _ => 4 - (intOf i).toNat)
    case atStart => exact ⟨0, by omega, rfl, Own.nil _ _, by simp, Below.refl _ _⟩
    case round =>
      obtain ⟨j, hj, rfl, hown, hall, hbr⟩ := hrel
      by_cases hlt : j < 4
      · have hj4 : j = 0 ∨ j = 1 ∨ j = 2 ∨ j = 3 := by omega
        clear hj hlt
        rcases hj4 with rfl | rfl | rfl | rfl
        · rw [show ((0 : Nat) : Int) = 0 from rfl]
          have hi := fun w => pidx0 f l s a w
          by_cases hr : 0 ≤ f ∧ f ≤ 4611686018427387904
          · obtain ⟨n, hn⟩ := Int.eq_ofNat_of_zero_le hr.1
            have g6 : IntKind.u64.wrap f = (n : Int) := by rw [show IntKind.u64.wrap f = f % 18446744073709551616 from rfl]; omega
            have g7 : decide ((4611686018427387904 : Int) < (n : Int)) = false := by rw [decide_eq_false_iff_not]; omega
            have hbs : Bs wr u4 (([f, l, s, a].take 0).flatMap fun z => varint z.toNat) := Bs.of_own hown (by
              intro x hx
              obtain ⟨z, hz, hx⟩ := List.mem_flatMap.1 hx
              have := hall z hz
              exact varint_bytes z.toNat (by omega) x hx)
            have hln : (([f, l, s, a].take 0).flatMap fun z => varint z.toNat).length ≤ 40 := by
              have n1 := (varint_length f.toNat).2
              have n2 := (varint_length l.toNat).2
              have n3 := (varint_length s.toNat).2
              simp
              try omega
            have hnew : (([f, l, s, a].take 1).flatMap fun z => varint z.toNat) = (([f, l, s, a].take 0).flatMap fun z => varint z.toNat) ++ varint n := by
              have : n = f.toNat := by omega
              rw [this]
              simp
            have hall2 : ∀ z ∈ [f, l, s, a].take 1, 0 ≤ z ∧ z ≤ 4611686018427387904 := by
              intro z hz
              have : z ∈ [f, l, s, a].take 0 ∨ z = f := by simp at hz ⊢; omega
              rcases this with h | h
              · exact hall z h
              · rw [h]; exact hr
            have HN := Lib.hid hnew
            have HA := Lib.hid hall2
            have hn64 : n < 18446744073709551616 := by omega
            clear hnew hall2 hall hr hn
            go_wp2_with fail
            refine (uint_bs _ _ n _ hbs (by omega) hn64).mono ?_
            rintro e w1 ⟨v1, rfl, ho1, _, hb1⟩
            rw [← HN.out] at ho1
            have ho2 := ho1.mono hbr.size
            have hb2 := nxt hbr hb1
            clear ho1 hb1 hbs
            go_wp2_with fail
            go_roundw
            case rel => exact ⟨1, by omega, by go_num, ho2, HA.out, hb2⟩
            case measure => simp [intOf]
          · have g5 : decide ((4611686018427387904 : Int) < IntKind.u64.wrap f) = true := by rw [u64_of f (HBD.out f (by simp)).1 (HBD.out f (by simp)).2, decide_eq_false hr]; rfl
            have hp := HPF.out f (by simp) hr
            rw [hp]
            clear hp hr
            go_wp2_with fail
            go_ret2
            exact ⟨hb0.trans (hbr.mono hb0.size), fun _ => rfl, fun h => by cases h⟩
        · rw [show ((1 : Nat) : Int) = 1 from rfl]
          have hi := fun w => pidx1 f l s a w
          by_cases hr : 0 ≤ l ∧ l ≤ 4611686018427387904
          · obtain ⟨n, hn⟩ := Int.eq_ofNat_of_zero_le hr.1
            have g6 : IntKind.u64.wrap l = (n : Int) := by rw [show IntKind.u64.wrap l = l % 18446744073709551616 from rfl]; omega
            have g7 : decide ((4611686018427387904 : Int) < (n : Int)) = false := by rw [decide_eq_false_iff_not]; omega
            have hbs : Bs wr u4 (([f, l, s, a].take 1).flatMap fun z => varint z.toNat) := Bs.of_own hown (by
              intro x hx
              obtain ⟨z, hz, hx⟩ := List.mem_flatMap.1 hx
              have := hall z hz
              exact varint_bytes z.toNat (by omega) x hx)
            have hln : (([f, l, s, a].take 1).flatMap fun z => varint z.toNat).length ≤ 40 := by
              have n1 := (varint_length f.toNat).2
              have n2 := (varint_length l.toNat).2
              have n3 := (varint_length s.toNat).2
              simp
              try omega
            have hnew : (([f, l, s, a].take 2).flatMap fun z => varint z.toNat) = (([f, l, s, a].take 1).flatMap fun z => varint z.toNat) ++ varint n := by
              have : n = l.toNat := by omega
              rw [this]
              simp
            have hall2 : ∀ z ∈ [f, l, s, a].take 2, 0 ≤ z ∧ z ≤ 4611686018427387904 := by
              intro z hz
              have : z ∈ [f, l, s, a].take 1 ∨ z = l := by simp at hz ⊢; omega
              rcases this with h | h
              · exact hall z h
              · rw [h]; exact hr
            have HN := Lib.hid hnew
            have HA := Lib.hid hall2
            have hn64 : n < 18446744073709551616 := by omega
            clear hnew hall2 hall hr hn
            go_wp2_with fail
            refine (uint_bs _ _ n _ hbs (by omega) hn64).mono ?_
            rintro e w1 ⟨v1, rfl, ho1, _, hb1⟩
            rw [← HN.out] at ho1
            have ho2 := ho1.mono hbr.size
            have hb2 := nxt hbr hb1
            clear ho1 hb1 hbs
            go_wp2_with fail
            go_roundw
            case rel => exact ⟨2, by omega, by go_num, ho2, HA.out, hb2⟩
            case measure => simp [intOf]
          · have g5 : decide ((4611686018427387904 : Int) < IntKind.u64.wrap l) = true := by rw [u64_of l (HBD.out l (by simp)).1 (HBD.out l (by simp)).2, decide_eq_false hr]; rfl
            have hp := HPF.out l (by simp) hr
            rw [hp]
            clear hp hr
            go_wp2_with fail
            go_ret2
            exact ⟨hb0.trans (hbr.mono hb0.size), fun _ => rfl, fun h => by cases h⟩
        · rw [show ((2 : Nat) : Int) = 2 from rfl]
          have hi := fun w => pidx2 f l s a w
          by_cases hr : 0 ≤ s ∧ s ≤ 4611686018427387904
          · obtain ⟨n, hn⟩ := Int.eq_ofNat_of_zero_le hr.1
            have g6 : IntKind.u64.wrap s = (n : Int) := by rw [show IntKind.u64.wrap s = s % 18446744073709551616 from rfl]; omega
            have g7 : decide ((4611686018427387904 : Int) < (n : Int)) = false := by rw [decide_eq_false_iff_not]; omega
            have hbs : Bs wr u4 (([f, l, s, a].take 2).flatMap fun z => varint z.toNat) := Bs.of_own hown (by
              intro x hx
              obtain ⟨z, hz, hx⟩ := List.mem_flatMap.1 hx
              have := hall z hz
              exact varint_bytes z.toNat (by omega) x hx)
            have hln : (([f, l, s, a].take 2).flatMap fun z => varint z.toNat).length ≤ 40 := by
              have n1 := (varint_length f.toNat).2
              have n2 := (varint_length l.toNat).2
              have n3 := (varint_length s.toNat).2
              simp
              try omega
            have hnew : (([f, l, s, a].take 3).flatMap fun z => varint z.toNat) = (([f, l, s, a].take 2).flatMap fun z => varint z.toNat) ++ varint n := by
              have : n = s.toNat := by omega
              rw [this]
              simp
            have hall2 : ∀ z ∈ [f, l, s, a].take 3, 0 ≤ z ∧ z ≤ 4611686018427387904 := by
              intro z hz
              have : z ∈ [f, l, s, a].take 2 ∨ z = s := by simp at hz ⊢; omega
              rcases this with h | h
              · exact hall z h
              · rw [h]; exact hr
            have HN := Lib.hid hnew
            have HA := Lib.hid hall2
            have hn64 : n < 18446744073709551616 := by omega
            clear hnew hall2 hall hr hn
            go_wp2_with fail
            refine (uint_bs _ _ n _ hbs (by omega) hn64).mono ?_
            rintro e w1 ⟨v1, rfl, ho1, _, hb1⟩
            rw [← HN.out] at ho1
            have ho2 := ho1.mono hbr.size
            have hb2 := nxt hbr hb1
            clear ho1 hb1 hbs
            go_wp2_with fail
            go_roundw
            case rel => exact ⟨3, by omega, by go_num, ho2, HA.out, hb2⟩
            case measure => simp [intOf]
          · have g5 : decide ((4611686018427387904 : Int) < IntKind.u64.wrap s) = true := by rw [u64_of s (HBD.out s (by simp)).1 (HBD.out s (by simp)).2, decide_eq_false hr]; rfl
            have hp := HPF.out s (by simp) hr
            rw [hp]
            clear hp hr
            go_wp2_with fail
            go_ret2
            exact ⟨hb0.trans (hbr.mono hb0.size), fun _ => rfl, fun h => by cases h⟩
        · rw [show ((3 : Nat) : Int) = 3 from rfl]
          have hi := fun w => pidx3 f l s a w
          by_cases hr : 0 ≤ a ∧ a ≤ 4611686018427387904
          · obtain ⟨n, hn⟩ := Int.eq_ofNat_of_zero_le hr.1
            have g6 : IntKind.u64.wrap a = (n : Int) := by rw [show IntKind.u64.wrap a = a % 18446744073709551616 from rfl]; omega
            have g7 : decide ((4611686018427387904 : Int) < (n : Int)) = false := by rw [decide_eq_false_iff_not]; omega
            have hbs : Bs wr u4 (([f, l, s, a].take 3).flatMap fun z => varint z.toNat) := Bs.of_own hown (by
              intro x hx
              obtain ⟨z, hz, hx⟩ := List.mem_flatMap.1 hx
              have := hall z hz
              exact varint_bytes z.toNat (by omega) x hx)
            have hln : (([f, l, s, a].take 3).flatMap fun z => varint z.toNat).length ≤ 40 := by
              have n1 := (varint_length f.toNat).2
              have n2 := (varint_length l.toNat).2
              have n3 := (varint_length s.toNat).2
              simp
              try omega
            have hnew : (([f, l, s, a].take 4).flatMap fun z => varint z.toNat) = (([f, l, s, a].take 3).flatMap fun z => varint z.toNat) ++ varint n := by
              have : n = a.toNat := by omega
              rw [this]
              simp
            have hall2 : ∀ z ∈ [f, l, s, a].take 4, 0 ≤ z ∧ z ≤ 4611686018427387904 := by
              intro z hz
              have : z ∈ [f, l, s, a].take 3 ∨ z = a := by simp at hz ⊢; omega
              rcases this with h | h
              · exact hall z h
              · rw [h]; exact hr
            have HN := Lib.hid hnew
            have HA := Lib.hid hall2
            have hn64 : n < 18446744073709551616 := by omega
            clear hnew hall2 hall hr hn
            go_wp2_with fail
            refine (uint_bs _ _ n _ hbs (by omega) hn64).mono ?_
            rintro e w1 ⟨v1, rfl, ho1, _, hb1⟩
            rw [← HN.out] at ho1
            have ho2 := ho1.mono hbr.size
            have hb2 := nxt hbr hb1
            clear ho1 hb1 hbs
            go_wp2_with fail
            go_roundw
            case rel => exact ⟨4, by omega, by go_num, ho2, HA.out, hb2⟩
            case measure => simp [intOf]
          · have g5 : decide ((4611686018427387904 : Int) < IntKind.u64.wrap a) = true := by rw [u64_of a (HBD.out a (by simp)).1 (HBD.out a (by simp)).2, decide_eq_false hr]; rfl
            have hp := HPF.out a (by simp) hr
            rw [hp]
            clear hp hr
            go_wp2_with fail
            go_ret2
            exact ⟨hb0.trans (hbr.mono hb0.size), fun _ => rfl, fun h => by cases h⟩
      · obtain rfl : j = 4 := by omega
        have q1 := heap_below q0 hbr
        have c4 := cell_block q1 4
        have hdr := hd.below (hb0.trans (hbr.mono hb0.size))
        have s1 := lt_heap q1
        have hbw : Below w.heap.size w wr := hb0.trans (hbr.mono hb0.size)
        have hl4 : (([f, l, s, a].take 4).flatMap fun z => varint z.toNat) = [f.toNat, l.toNat, s.toNat, a.toNat].flatMap varint := rfl
        rw [hl4] at hown
        have n1 := (varint_length f.toNat).2
        have n2 := (varint_length l.toNat).2
        have n3 := (varint_length s.toNat).2
        have n4 := (varint_length a.toNat).2
        have hb4 : Bs wr u4 ([f.toNat, l.toNat, s.toNat, a.toNat].flatMap varint) := Bs.of_own hown (by
          intro x hx
          simp only [List.mem_flatMap, List.mem_cons, List.not_mem_nil, or_false] at hx
          obtain ⟨n, hn, hx⟩ := hx
          have hz := fun z (h : z ∈ [f, l, s, a]) => hall z (by simpa using h)
          refine varint_bytes n ?_ x hx
          rcases hn with rfl | rfl | rfl | rfl
          · have := hz f (by simp); omega
          · have := hz l (by simp); omega
          · have := hz s (by simp); omega
          · have := hz a (by simp); omega)
        have hln : ([f.toNat, l.toNat, s.toNat, a.toNat].flatMap varint).length ≤ 40 := by simp; omega
        have hp : pint f l s a d = true := by
          have hz := fun z (h : z ∈ [f, l, s, a]) => hall z (by simpa using h)
          have hbg : (big : Int) = 4611686018427387904 := rfl
          unfold pint
          rw [hbg, HSD.out]
          simp [hz f (by simp), hz l (by simp), hz s (by simp), hz a (by simp), hbig']
        have HP := Lib.hid hp
        generalize hL : [f.toNat, l.toNat, s.toNat, a.toNat].flatMap varint = L at *
        have HL := Lib.hid hL
        clear hL hp hall hl4 n1 n2 n3 n4
        go_wp2_with fail
        refine (blob_bs _ _ _ _ _ hb4 hdr (by omega) (by omega)).mono ?_
        rintro e w2 ⟨v2, rfl, _, hv2, hb2⟩
        have hvl := (varint_length d.length).2
        go_wp2_with fail
        refine (seal_bs _ _ _ hv2 (by simp; omega)).mono ?_
        rintro e w3 ⟨v3, rfl, ho3, hv3, hb3⟩
        have hbw3 := nxt (nxt hbw hb2) hb3
        go_wp2_with fail
        go_ret2
        rw [HP.out]
        refine ⟨hbw3, fun h => by (cases h), fun _ => ⟨v3, rfl, ?_, ?_⟩⟩
        · rw [show penc ⟨f.toNat, l.toNat, s.toNat, a.toNat, d⟩ = L ++ varint d.length ++ d by unfold penc gB; rw [HL.out]; simp]
          exact ho3.mono (nxt hbw hb2).size
        · rw [show penc ⟨f.toNat, l.toNat, s.toNat, a.toNat, d⟩ = L ++ varint d.length ++ d by unfold penc gB; rw [HL.out]; simp]
          exact hv3
  | false =>
    clear HCUT
    go_enter Try.func16, Try.ntmps16
    go_wp2_with fail
    rw [← hW]
    go_loopw [4, 31] (fun b i wr => ∃ j : Nat, j ≤ 4 ∧ i = .int .i64 (j : Int) ∧ Own wr W.heap.size b (([f, l, s, a].take j).flatMap fun z => varint z.toNat) ∧ (∀ z ∈ [f, l, s, a].take j, 0 ≤ z ∧ z ≤ 4611686018427387904) ∧ Below W.heap.size W wr) (fun _ i _ => 4 - (intOf i).toNat)
    case atStart => exact ⟨0, by omega, rfl, Own.nil _ _, by simp, Below.refl _ _⟩
    case round =>
      obtain ⟨j, hj, rfl, hown, hall, hbr⟩ := hrel
      by_cases hlt : j < 4
      · have hj4 : j = 0 ∨ j = 1 ∨ j = 2 ∨ j = 3 := by omega
        clear hj hlt
        rcases hj4 with rfl | rfl | rfl | rfl
        · rw [show ((0 : Nat) : Int) = 0 from rfl]
          have hi := fun w => pidx0 f l s a w
          by_cases hr : 0 ≤ f ∧ f ≤ 4611686018427387904
          · obtain ⟨n, hn⟩ := Int.eq_ofNat_of_zero_le hr.1
            have g6 : IntKind.u64.wrap f = (n : Int) := by rw [show IntKind.u64.wrap f = f % 18446744073709551616 from rfl]; omega
            have g7 : decide ((4611686018427387904 : Int) < (n : Int)) = false := by rw [decide_eq_false_iff_not]; omega
            have hbs : Bs wr u4 (([f, l, s, a].take 0).flatMap fun z => varint z.toNat) := Bs.of_own hown (by
              intro x hx
              obtain ⟨z, hz, hx⟩ := List.mem_flatMap.1 hx
              have := hall z hz
              exact varint_bytes z.toNat (by omega) x hx)
            have hln : (([f, l, s, a].take 0).flatMap fun z => varint z.toNat).length ≤ 40 := by
              have n1 := (varint_length f.toNat).2
              have n2 := (varint_length l.toNat).2
              have n3 := (varint_length s.toNat).2
              simp
              try omega
            have hnew : (([f, l, s, a].take 1).flatMap fun z => varint z.toNat) = (([f, l, s, a].take 0).flatMap fun z => varint z.toNat) ++ varint n := by
              have : n = f.toNat := by omega
              rw [this]
              simp
            have hall2 : ∀ z ∈ [f, l, s, a].take 1, 0 ≤ z ∧ z ≤ 4611686018427387904 := by
              intro z hz
              have : z ∈ [f, l, s, a].take 0 ∨ z = f := by simp at hz ⊢; omega
              rcases this with h | h
              · exact hall z h
              · rw [h]; exact hr
            have HN := Lib.hid hnew
            have HA := Lib.hid hall2
            have hn64 : n < 18446744073709551616 := by omega
            clear hnew hall2 hall hr hn
            go_wp2_with fail
            refine (uint_bs _ _ n _ hbs (by omega) hn64).mono ?_
            rintro e w1 ⟨v1, rfl, ho1, _, hb1⟩
            rw [← HN.out] at ho1
            have ho2 := ho1.mono hbr.size
            have hb2 := nxt hbr hb1
            clear ho1 hb1 hbs
            go_wp2_with fail
            go_roundw
            case rel => exact ⟨1, by omega, by go_num, ho2, HA.out, hb2⟩
            case measure => simp [intOf]
          · have g5 : decide ((4611686018427387904 : Int) < IntKind.u64.wrap f) = true := by rw [u64_of f (HBD.out f (by simp)).1 (HBD.out f (by simp)).2, decide_eq_false hr]; rfl
            have hp := HPF.out f (by simp) hr
            rw [hp]
            clear hp hr
            go_wp2_with fail
            go_ret2
            exact ⟨hb0.trans (hbr.mono hb0.size), fun _ => rfl, fun h => by cases h⟩
        · rw [show ((1 : Nat) : Int) = 1 from rfl]
          have hi := fun w => pidx1 f l s a w
          by_cases hr : 0 ≤ l ∧ l ≤ 4611686018427387904
          · obtain ⟨n, hn⟩ := Int.eq_ofNat_of_zero_le hr.1
            have g6 : IntKind.u64.wrap l = (n : Int) := by rw [show IntKind.u64.wrap l = l % 18446744073709551616 from rfl]; omega
            have g7 : decide ((4611686018427387904 : Int) < (n : Int)) = false := by rw [decide_eq_false_iff_not]; omega
            have hbs : Bs wr u4 (([f, l, s, a].take 1).flatMap fun z => varint z.toNat) := Bs.of_own hown (by
              intro x hx
              obtain ⟨z, hz, hx⟩ := List.mem_flatMap.1 hx
              have := hall z hz
              exact varint_bytes z.toNat (by omega) x hx)
            have hln : (([f, l, s, a].take 1).flatMap fun z => varint z.toNat).length ≤ 40 := by
              have n1 := (varint_length f.toNat).2
              have n2 := (varint_length l.toNat).2
              have n3 := (varint_length s.toNat).2
              simp
              try omega
            have hnew : (([f, l, s, a].take 2).flatMap fun z => varint z.toNat) = (([f, l, s, a].take 1).flatMap fun z => varint z.toNat) ++ varint n := by
              have : n = l.toNat := by omega
              rw [this]
              simp
            have hall2 : ∀ z ∈ [f, l, s, a].take 2, 0 ≤ z ∧ z ≤ 4611686018427387904 := by
              intro z hz
              have : z ∈ [f, l, s, a].take 1 ∨ z = l := by simp at hz ⊢; omega
              rcases this with h | h
              · exact hall z h
              · rw [h]; exact hr
            have HN := Lib.hid hnew
            have HA := Lib.hid hall2
            have hn64 : n < 18446744073709551616 := by omega
            clear hnew hall2 hall hr hn
            go_wp2_with fail
            refine (uint_bs _ _ n _ hbs (by omega) hn64).mono ?_
            rintro e w1 ⟨v1, rfl, ho1, _, hb1⟩
            rw [← HN.out] at ho1
            have ho2 := ho1.mono hbr.size
            have hb2 := nxt hbr hb1
            clear ho1 hb1 hbs
            go_wp2_with fail
            go_roundw
            case rel => exact ⟨2, by omega, by go_num, ho2, HA.out, hb2⟩
            case measure => simp [intOf]
          · have g5 : decide ((4611686018427387904 : Int) < IntKind.u64.wrap l) = true := by rw [u64_of l (HBD.out l (by simp)).1 (HBD.out l (by simp)).2, decide_eq_false hr]; rfl
            have hp := HPF.out l (by simp) hr
            rw [hp]
            clear hp hr
            go_wp2_with fail
            go_ret2
            exact ⟨hb0.trans (hbr.mono hb0.size), fun _ => rfl, fun h => by cases h⟩
        · rw [show ((2 : Nat) : Int) = 2 from rfl]
          have hi := fun w => pidx2 f l s a w
          by_cases hr : 0 ≤ s ∧ s ≤ 4611686018427387904
          · obtain ⟨n, hn⟩ := Int.eq_ofNat_of_zero_le hr.1
            have g6 : IntKind.u64.wrap s = (n : Int) := by rw [show IntKind.u64.wrap s = s % 18446744073709551616 from rfl]; omega
            have g7 : decide ((4611686018427387904 : Int) < (n : Int)) = false := by rw [decide_eq_false_iff_not]; omega
            have hbs : Bs wr u4 (([f, l, s, a].take 2).flatMap fun z => varint z.toNat) := Bs.of_own hown (by
              intro x hx
              obtain ⟨z, hz, hx⟩ := List.mem_flatMap.1 hx
              have := hall z hz
              exact varint_bytes z.toNat (by omega) x hx)
            have hln : (([f, l, s, a].take 2).flatMap fun z => varint z.toNat).length ≤ 40 := by
              have n1 := (varint_length f.toNat).2
              have n2 := (varint_length l.toNat).2
              have n3 := (varint_length s.toNat).2
              simp
              try omega
            have hnew : (([f, l, s, a].take 3).flatMap fun z => varint z.toNat) = (([f, l, s, a].take 2).flatMap fun z => varint z.toNat) ++ varint n := by
              have : n = s.toNat := by omega
              rw [this]
              simp
            have hall2 : ∀ z ∈ [f, l, s, a].take 3, 0 ≤ z ∧ z ≤ 4611686018427387904 := by
              intro z hz
              have : z ∈ [f, l, s, a].take 2 ∨ z = s := by simp at hz ⊢; omega
              rcases this with h | h
              · exact hall z h
              · rw [h]; exact hr
            have HN := Lib.hid hnew
            have HA := Lib.hid hall2
            have hn64 : n < 18446744073709551616 := by omega
            clear hnew hall2 hall hr hn
            go_wp2_with fail
            refine (uint_bs _ _ n _ hbs (by omega) hn64).mono ?_
            rintro e w1 ⟨v1, rfl, ho1, _, hb1⟩
            rw [← HN.out] at ho1
            have ho2 := ho1.mono hbr.size
            have hb2 := nxt hbr hb1
            clear ho1 hb1 hbs
            go_wp2_with fail
            go_roundw
            case rel => exact ⟨3, by omega, by go_num, ho2, HA.out, hb2⟩
            case measure => simp [intOf]
          · have g5 : decide ((4611686018427387904 : Int) < IntKind.u64.wrap s) = true := by rw [u64_of s (HBD.out s (by simp)).1 (HBD.out s (by simp)).2, decide_eq_false hr]; rfl
            have hp := HPF.out s (by simp) hr
            rw [hp]
            clear hp hr
            go_wp2_with fail
            go_ret2
            exact ⟨hb0.trans (hbr.mono hb0.size), fun _ => rfl, fun h => by cases h⟩
        · rw [show ((3 : Nat) : Int) = 3 from rfl]
          have hi := fun w => pidx3 f l s a w
          by_cases hr : 0 ≤ a ∧ a ≤ 4611686018427387904
          · obtain ⟨n, hn⟩ := Int.eq_ofNat_of_zero_le hr.1
            have g6 : IntKind.u64.wrap a = (n : Int) := by rw [show IntKind.u64.wrap a = a % 18446744073709551616 from rfl]; omega
            have g7 : decide ((4611686018427387904 : Int) < (n : Int)) = false := by rw [decide_eq_false_iff_not]; omega
            have hbs : Bs wr u4 (([f, l, s, a].take 3).flatMap fun z => varint z.toNat) := Bs.of_own hown (by
              intro x hx
              obtain ⟨z, hz, hx⟩ := List.mem_flatMap.1 hx
              have := hall z hz
              exact varint_bytes z.toNat (by omega) x hx)
            have hln : (([f, l, s, a].take 3).flatMap fun z => varint z.toNat).length ≤ 40 := by
              have n1 := (varint_length f.toNat).2
              have n2 := (varint_length l.toNat).2
              have n3 := (varint_length s.toNat).2
              simp
              try omega
            have hnew : (([f, l, s, a].take 4).flatMap fun z => varint z.toNat) = (([f, l, s, a].take 3).flatMap fun z => varint z.toNat) ++ varint n := by
              have : n = a.toNat := by omega
              rw [this]
              simp
            have hall2 : ∀ z ∈ [f, l, s, a].take 4, 0 ≤ z ∧ z ≤ 4611686018427387904 := by
              intro z hz
              have : z ∈ [f, l, s, a].take 3 ∨ z = a := by simp at hz ⊢; omega
              rcases this with h | h
              · exact hall z h
              · rw [h]; exact hr
            have HN := Lib.hid hnew
            have HA := Lib.hid hall2
            have hn64 : n < 18446744073709551616 := by omega
            clear hnew hall2 hall hr hn
            go_wp2_with fail
            refine (uint_bs _ _ n _ hbs (by omega) hn64).mono ?_
            rintro e w1 ⟨v1, rfl, ho1, _, hb1⟩
            rw [← HN.out] at ho1
            have ho2 := ho1.mono hbr.size
            have hb2 := nxt hbr hb1
            clear ho1 hb1 hbs
            go_wp2_with fail
            go_roundw
            case rel => exact ⟨4, by omega, by go_num, ho2, HA.out, hb2⟩
            case measure => simp [intOf]
          · have g5 : decide ((4611686018427387904 : Int) < IntKind.u64.wrap a) = true := by rw [u64_of a (HBD.out a (by simp)).1 (HBD.out a (by simp)).2, decide_eq_false hr]; rfl
            have hp := HPF.out a (by simp) hr
            rw [hp]
            clear hp hr
            go_wp2_with fail
            go_ret2
            exact ⟨hb0.trans (hbr.mono hb0.size), fun _ => rfl, fun h => by cases h⟩
      · obtain rfl : j = 4 := by omega
        have q1 := heap_below q0 hbr
        have c4 := cell_block q1 4
        have hdr := hd.below (hb0.trans (hbr.mono hb0.size))
        have s1 := lt_heap q1
        have hbw : Below w.heap.size w wr := hb0.trans (hbr.mono hb0.size)
        have hl4 : (([f, l, s, a].take 4).flatMap fun z => varint z.toNat) = [f.toNat, l.toNat, s.toNat, a.toNat].flatMap varint := rfl
        rw [hl4] at hown
        have n1 := (varint_length f.toNat).2
        have n2 := (varint_length l.toNat).2
        have n3 := (varint_length s.toNat).2
        have n4 := (varint_length a.toNat).2
        have hb4 : Bs wr u4 ([f.toNat, l.toNat, s.toNat, a.toNat].flatMap varint) := Bs.of_own hown (by
          intro x hx
          simp only [List.mem_flatMap, List.mem_cons, List.not_mem_nil, or_false] at hx
          obtain ⟨n, hn, hx⟩ := hx
          have hz := fun z (h : z ∈ [f, l, s, a]) => hall z (by simpa using h)
          refine varint_bytes n ?_ x hx
          rcases hn with rfl | rfl | rfl | rfl
          · have := hz f (by simp); omega
          · have := hz l (by simp); omega
          · have := hz s (by simp); omega
          · have := hz a (by simp); omega)
        have hln : ([f.toNat, l.toNat, s.toNat, a.toNat].flatMap varint).length ≤ 40 := by simp; omega
        have hp : pint f l s a d = true := by
          have hz := fun z (h : z ∈ [f, l, s, a]) => hall z (by simpa using h)
          have hbg : (big : Int) = 4611686018427387904 := rfl
          unfold pint
          rw [hbg, HSD.out]
          simp [hz f (by simp), hz l (by simp), hz s (by simp), hz a (by simp), hbig']
        have HP := Lib.hid hp
        generalize hL : [f.toNat, l.toNat, s.toNat, a.toNat].flatMap varint = L at *
        have HL := Lib.hid hL
        clear hL hp hall hl4 n1 n2 n3 n4
        go_wp2_with fail
        refine (blob_bs _ _ _ _ _ hb4 hdr (by omega) (by omega)).mono ?_
        rintro e w2 ⟨v2, rfl, _, hv2, hb2⟩
        have hvl := (varint_length d.length).2
        go_wp2_with fail
        refine (seal_bs _ _ _ hv2 (by simp; omega)).mono ?_
        rintro e w3 ⟨v3, rfl, ho3, hv3, hb3⟩
        have hbw3 := nxt (nxt hbw hb2) hb3
        go_wp2_with fail
        go_ret2
        rw [HP.out]
        refine ⟨hbw3, fun h => by (cases h), fun _ => ⟨v3, rfl, ?_, ?_⟩⟩
        · rw [show penc ⟨f.toNat, l.toNat, s.toNat, a.toNat, d⟩ = L ++ varint d.length ++ d by unfold penc gB; rw [HL.out]; simp]
          exact ho3.mono (nxt hbw hb2).size
        · rw [show penc ⟨f.toNat, l.toNat, s.toNat, a.toNat, d⟩ = L ++ varint d.length ++ d by unfold penc gB; rw [HL.out]; simp]
          exact hv3
end Go.Proofs.Ytjcefnlidophoaa
