/- droverlaw05.LogBack returns true whatever its arguments: what was added is told by Open, record by record; it goes on behind them. For every input, without conditions. -/
import Derived.Test.YtfcokndpkkhnjaaRow
import Derived.Test.YtfcokndpkkhnjaaBrw
import Derived.Test.YtfcokndpkkhnjaaAwake05
import Derived.Test.YtfcokndpkkhnjaaLm
namespace Go.Proofs.Ytfcokndpkkhnjaa.logBack
open Go.ChangeShapes Go.WideShapes Go.ChangeAt Go.RowKit
set_option linter.unusedVariables false



set_option maxRecDepth 100000 in
set_option maxHeartbeats 4000000 in
theorem walk (w : World) (a0 : Option Addr) (n0 c0 : Nat) (a1 : Option Addr) (n1 c1 : Nat) (w0 : ∃ ll : List (List Nat), BRows w a0 n0 c0 ll) (w1 : ∃ l : List Nat, l.length = n1 ∧ n1 ≤ c1 ∧ At w w.heap.size a1 (bv l) ∧ (∀ x ∈ l, x < 256)) :
    Calls Try.prog 7 #[.slice a0 n0 c0, .slice a1 n1 c1] w fun e w' => e = .returned (.bool true) ∧ Below w.heap.size w w' := by
  obtain ⟨ll, hr⟩ := w0
  obtain ⟨l, hl, hlc, hat, hl8⟩ := w1
  have hgood := ltake_good ll hr.byte
  have HB := Lib.hid (built_any a0 n0 c0 ll w w hr (Below.refl _ _))
  generalize ltake ll = all at *
  obtain ⟨hgood, hal⟩ := hgood
  have hsm := lrecs_small all (fun x hx => (hgood x hx).2)
  have HOP := Lib.hid (open_dOf all (fun x hx => (hgood x hx).1))
  have HMB : Hid (∀ w' : World, Below w.heap.size w w' → Bs w' (.slice a1 n1 c1) l ∧ ∀ r, AtS w' (Sx w' w.heap.size r) a1 (bv l)) := fun w' hb => by
    refine ⟨⟨⟨a1, c1, by rw [hl], by omega, (hat.below hb).more hb.size⟩, hl8⟩, fun r hn => ?_⟩
    obtain ⟨b', o', e', hlt', hcell⟩ := (hat.below hb) hn
    exact ⟨b', o', e', .inl ⟨hlt', by have := hb.size; omega⟩, hcell⟩
  have HGD := Lib.hid hgood
  have HL8 := Lib.hid hl8
  clear hr hat hl8 hgood
  go_enter Try.func7, Try.ntmps7
  go_wp2_with fail
  refine HB.out.mono ?_
  rintro e w1 ⟨p, q, r, A, c, vs, rfl, -, -, -, ⟨hg1, hrow1⟩, hb1⟩
  have HE := Lib.hid hrow1.blks
  clear HB
  go_wp2_with fail
  go_loop [9, 10] (fun n i => ∃ j : Nat, j ≤ all.length ∧ i = .int .i64 (j : Int) ∧ n = .int .i64 ((lrecs (all.take j)).length : Int)) (fun _ i => all.length - (intOf i).toNat)
  case atStart => exact ⟨0, Nat.zero_le _, rfl, by simp [lrecs]⟩
  case round =>
    obtain ⟨j, hj, rfl, rfl⟩ := hrel
    by_cases hlt : j < all.length
    · obtain ⟨b, o, A', c', rfl, cc0, hb0⟩ := HE.out.elem (fun _ h => h) j hlt
      have hst : (lrecs (all.take (j + 1))).length = (lrecs (all.take j)).length + (8 + (all.getD j []).length) := by
        rw [List.take_succ_eq_append_getElem hlt, lrecs_snoc, List.length_append, lrec_length]
        simp [hlt]
      have hle : (lrecs (all.take (j + 1))).length ≤ (lrecs all).length := by
        conv => rhs; rw [← List.take_append_drop (j + 1) all, lrecs_append, List.length_append]
        omega
      have t1 : decide ((j : Int) < (all.length : Int)) = true := decide_eq_true (by omega)
      have t1' : decide (j < all.length) = true := decide_eq_true hlt
      have x1 : (j : Int) < (all.length : Int) := by omega
      have HST := Lib.hid hst
      have hst2 : (lrecs (all.take j)).length + (8 + (all.getD j []).length) ≤ 100000 := by omega
      clear hst hle
      generalize (lrecs (all.take j)).length = N1 at *
      generalize all.getD j [] = x at *
      clear hg1 hrow1 hb0
      go_wp2_with fail
      go_round
      case rel => exact ⟨j + 1, by omega, by go_num, by rw [HST.out]; go_num⟩
      case measure => simp [intOf]; omega
    · obtain rfl : j = all.length := by omega
      have e9 : all.take all.length = all := List.take_of_length_le (Nat.le_refl _)
      rw [e9]
      have t1 : decide ((all.length : Int) < (all.length : Int)) = false := decide_eq_false (by omega)
      clear e9 hlt hj
      go_wp2_with fail
      refine (open_any hg1.dk).mono ?_
      rintro e w2 ⟨r2, hd2, hk2, hr2, hop⟩
      rw [HOP.out] at hd2 hop
      obtain ⟨A2, c2, q2, m2, rfl, hc2, hm2, hmq2, -, hq2, -, vs2, hrow2⟩ := hop
      have hrow21 := hrow1.kr hg1.dk hk2 hr2
      have hq12 := hg1.at_.kr hg1.dk hk2
      have hb2 := hb1.trans (hg1.dk.low hk2)
      have hl1 := hg1.low
      have hl2 : w.heap.size ≤ q2 := by have := hb1.size; omega
      clear hg1 hrow1 hk2 hr2 hb1 hm2 hmq2 HE
      go_wp2_with fail
      refine (open_any hd2).mono ?_
      rintro e w3 ⟨r3, hd3, hk3, hr3, hop⟩
      rw [HOP.out] at hd3 hop
      obtain ⟨A3, c3, q3, m3, rfl, hc3, hm3, hmq3, -, hq3, -, vs3, hrow3⟩ := hop
      have hrow31 := hrow21.kr hd2 hk3 hr3
      have hrow32 := hrow2.kr hd2 hk3 hr3
      have hq13 := hq12.kr hd2 hk3
      have hq23 := hq2.kr hd2 hk3
      have hb3 := hb2.trans (hd2.low hk3)
      have hl3 : w.heap.size ≤ q3 := by have := hb2.size; omega
      have HS1 := Lib.hid (samel_any A2 A c2 c all all w3 _ _ true hrow32.blks hrow31.blks (fun _ h => h) (fun _ h => h) (by omega) (decide_eq_true rfl))
      clear hd2 hrow2 hrow21 hk3 hr3 hb2 hm3 hmq3 hq12 hq2
      go_wp2_with fail
      refine HS1.out.mono ?_
      rintro e w4 ⟨rfl, hb4'⟩
      have HS2 := Lib.hid (samel_any A3 A c3 c all all w4 _ _ true (hrow3.below hb4').blks (hrow31.below hb4').blks (fun _ h => h) (fun _ h => h) (by omega) (decide_eq_true rfl))
      go_wp2_with fail
      refine HS2.out.mono ?_
      rintro e w5 ⟨rfl, hb5'⟩
      have hb35 := nxt hb4' hb5'
      have hq15 : LgAt w5 q p (plOf all) := heap_below hq13 hb35
      have hq25 : LgAt w5 q2 p (plOf all) := heap_below hq23 hb35
      have hq35 : LgAt w5 q3 p (plOf all) := heap_below hq3 hb35
      have hd5 := hd3.below hb35
      have hrow5 := hrow31.below hb35
      have hb5 := nxt hb3 hb35
      clear HS1 HS2 hb4' hb5' hb35 hq13 hq23 hq3 hd3 hrow31 hrow32 hrow3 hb3
      go_wp2_with fail
      refine (lg_len hq15).mono ?_
      rintro e wx ⟨rfl, rfl⟩
      rw [show (plOf all).n = all.length from rfl]
      go_wp2_with fail
      refine (lg_len hq25).mono ?_
      rintro e wx ⟨rfl, rfl⟩
      rw [show (plOf all).n = all.length from rfl]
      go_wp2_with fail
      refine (lg_bytes hq15).mono ?_
      rintro e wx ⟨rfl, rfl⟩
      rw [show (plOf all).size = (lrecs all).length from rfl]
      go_wp2_with fail
      refine (lg_bytes hq35).mono ?_
      rintro e wx ⟨rfl, rfl⟩
      rw [show (plOf all).size = (lrecs all).length from rfl]
      go_wp2_with fail
      refine (size_any hd5).mono ?_
      rintro e wx ⟨rfl, rfl⟩
      rw [show (dOf all).bs.length = (lrecs all).length from rfl]
      go_wp2_with fail
      refine (synced_any hd5).mono ?_
      rintro e wx ⟨rfl, rfl⟩
      rw [show (dOf all).syn = (lrecs all).length from rfl]
      by_cases hm : 1 ≤ n1 ∧ n1 ≤ 100
      · obtain ⟨hm1, hm2⟩ := hm
        have t3 : ((n1 : Int) == 0) = false := beq_eq_false_iff_ne.2 (by omega)
        have t4 : decide ((100 : Int) < (n1 : Int)) = false := decide_eq_false (by omega)
        have t4' : decide (100 < n1) = false := decide_eq_false (by omega)
        have hyl := lrec_length l
        have hgl : lgood l := ⟨by omega, by omega, HL8.out⟩
        obtain ⟨hmb, hma⟩ := HMB.out w5 hb5
        have hg5 : Lg w5 w.heap.size p q3 r3 (dOf all) (plOf all) := ⟨hd5, hq35, hl3⟩
        have HAdd := Lib.hid (add_any _ l hg5 hmb (by show all.length ≤ _; omega) (by show (lrecs all).length ≤ _; omega))
        rw [addL_dOf all l ⟨hgl.1, by omega⟩ (by omega)] at HAdd
        have HO2 := Lib.hid (open_dOf (all ++ [l]) (fun x hx => by
          rcases List.mem_append.1 hx with h | h
          · exact (HGD.out x h).1
          · rw [List.mem_singleton] at h
            rw [h]
            exact hgl))
        have hal2 : (all ++ [l]).length = all.length + 1 := by rw [List.length_append, List.length_singleton]
        clear hq15 hq25 hq35 hmb hma hyl hgl
        go_wp2_with fail
        refine HAdd.out.mono ?_
        rintro e w6 ⟨rfl, r6, hg6, hk6, hr6⟩
        have hrow6 := hrow5.kl hg5 hk6 hr6
        have hb6 := hb5.trans (hg5.low_of hk6)
        clear HAdd hg5 hk6 hr6 hrow5 hb5 hd5
        dsimp only at hg6 ⊢
        go_wp2_with fail
        refine (open_any hg6.dk).mono ?_
        rintro e w7 ⟨r7, hd7, hk7, hr7, hop⟩
        rw [HO2.out] at hd7 hop
        obtain ⟨A7, c7, q7, m7, rfl, hc7, hm7, hmq7, -, hq7, hbS7, -⟩ := hop
        have hmw7 : m7 ≤ w7.heap.size := by have := lt_heap hq7; omega
        have hrl6 : ∀ g, (Value.slice A all.length c).ownBlock = some g → g < w6.heap.size := fun g e => (World.ownsRow.lt hrow6.own g e).2
        have hrow7a := hrow6.kr hg6.dk hk7 hr7
        have hq37 := hg6.at_.kr hg6.dk hk7
        have hb7 := hb6.trans (hg6.dk.low hk7)
        have hlo7 := hd7.base_le
        obtain ⟨hmb, hma⟩ := HMB.out w7 hb7
        have hma7 := (hma r7).sxb ((Below.refl w7.heap.size w7).alloc (Nat.le_refl _) (.cells #[.slice a1 n1 c1] 22))
        subst hl
        have hal8 := (Below.refl w7.heap.size w7).alloc (Nat.le_refl _) (.cells #[.slice a1 l.length c1] 22)
        have hat8 : At (w7.alloc (.cells #[.slice a1 l.length c1] 22)) (w7.heap.size + 1) (some ⟨w7.heap.size, 0, none⟩) [.slice a1 l.length c1] := At.made w7 #[.slice a1 l.length c1] 22
        have hrow8 := hrow7a.below hal8
        have hbS8 := hbS7.low hal8 hmw7
        have hb8 := nxt hb7 hal8
        have hq38 : LgAt (w7.alloc (.cells #[.slice a1 l.length c1] 22)) q3 p (plOf (all ++ [l])) := heap_below hq37 hal8
        have hd8 := hd7.below hal8
        have hck : l.length ≤ c1 := hlc
        clear hg6 hk7 hr7 hrow6 hrow7a hq37 hd7 hmb hma hm7 hmq7 hq7 hbS7
        go_wp2_with (first
          | (at_builtin
             refine wpList_rowapp (by kernel_rfl) (.tmp 138) (.tmp 140) rfl rfl hrow8.own rfl hat8 rfl (by omega) (by simp; omega) ?_
             intro v9 w9 hown9 hg9
             have hrow9 := hrow8.snoc hown9 hg9 hma7 hck HL8.out
             obtain ⟨A9, c9, rfl, hc9⟩ := hrow9.form)
          | (fail))
        have hbS9 : BlkS w9 (fun b => w6.heap.size ≤ b ∧ b < m7) A7 (all ++ [l]) := hbS8.keep (fun z hz => cell_same (hg9.block _ (by have := hz.2; simp; omega) (fun e => by have := hrl6 _ e.symm; have := hz.1; omega))) (fun _ h => h)
        have hq39 : LgAt w9 q3 p (plOf (all ++ [l])) := by
          refine (hg9.block q3 (lt_heap hq38) (fun e => ?_)).trans hq38
          obtain ⟨_, cur, k⟩ := row_block hrow8.own e.symm
          unfold LgAt at hq38
          rw [hq38] at k
          have := Option.some.inj k
          simp at this
        have hb9 : Below w.heap.size w w9 := hb8.trans ((Below.refl _ _).grown hg9 (by simp; omega) (fun g hg => (row_block hrow8.own hg).1))
        have hs9 : m7 ≤ w9.heap.size := by have := hg9.size; simp at this; omega
        have hl9 : (all ++ [l]).length = all.length + 1 := hal2
        have HS := Lib.hid (samel_any A7 A9 c7 c9 (all ++ [l]) (all ++ [l]) w9 _ _ true hbS9 hrow9.blks (fun b hb => by have := hb.2; omega) (fun _ h => h) (by omega) (decide_eq_true rfl))
        rw [hal2] at HS
        clear hbS8 hbS9 hrow8 hrow9 hown9 hg9 hq38 hd8 hb8 hmw7 hat8 hma7 hal8
        refine HS.out.mono ?_
        rintro e w10 ⟨rfl, hb10'⟩
        have hq310 : LgAt w10 q3 p (plOf (all ++ [l])) := heap_below hq39 hb10'
        have hb10 := nxt hb9 hb10'
        have HN : Hid (((plOf (all ++ [l])).n : Int) = (all.length : Int) + 1) := by
          show (((all ++ [l]).length : Nat) : Int) = _
          rw [hal2]
          omega
        have s9 : IntKind.i64.wrap ((all.length : Int) + 1) = (all.length : Int) + 1 := by rw [IntKind.wrap_i64]; omega
        clear HS hq39 hb9 hb10'
        go_wp2_with fail
        refine (lg_len hq310).mono ?_
        rintro e wx ⟨rfl, rfl⟩
        rw [HN.out]
        go_wp2_with fail
        refine (awake05_any _).mono ?_
        rintro e w11 ⟨rfl, hb11⟩
        go_wp2_with fail
        go_ret
        exact ⟨rfl, nxt hb10 hb11⟩
      · have hor : n1 = 0 ∨ 100 < n1 := by omega
        clear hm
        rcases hor with h0 | h1
        · have t3 : ((n1 : Int) == 0) = true := by rw [h0]; rfl
          clear h0
          go_wp2_with fail
          refine (awake05_any _).mono ?_
          rintro e w9 ⟨rfl, hb9⟩
          go_wp2_with fail
          go_ret
          exact ⟨rfl, nxt hb5 hb9⟩
        · have t3 : ((n1 : Int) == 0) = false := beq_eq_false_iff_ne.2 (by omega)
          have t4 : decide ((100 : Int) < (n1 : Int)) = true := decide_eq_true (by omega)
          have t4' : decide (100 < n1) = true := decide_eq_true (by omega)
          go_wp2_with fail
          refine (awake05_any _).mono ?_
          rintro e w9 ⟨rfl, hb9⟩
          go_wp2_with fail
          go_ret
          exact ⟨rfl, nxt hb5 hb9⟩

set_option maxRecDepth 100000 in
theorem lifted (os : Os) (started : os.Started) (H : Type) (enc : TypeId × Value → H) :
    ReturnsInHanded {} Try.checked os 7 .any (Rows.logBackSpec.pre6 enc Try.prog Try.f7 Rows.logBackRow.domain false) (Rows.logBackSpec.post enc Try.prog Try.f7 false true false false) := by
  refine returnsInHanded_of_change (C := Try.checked) knob_own started (by kernel_rfl) Try.func7
    (ChangeSpec.witness6 (enc := enc) (C := Try.checked) false ⟨#[], #[.slice none 0 0, .slice none 0 0], []⟩ 8 (by kernel_rfl) (by kernel_rfl) (by kernel_rfl) (by kernel_rfl)) ?_
  intro W base args ds gs before hval0 hW hcnd _
  have hval : ∀ (j : Nat) t v, Try.f7.params[j]? = some t → args[j]? = some v → Value.okWide Try.prog W .any base t v := hval0
  have hW' := hW
  obtain ⟨p, q, hA0, hV, rfl, hfz, hnd⟩ := hW
  have hA : DataW.TrodAll enc Try.prog W 0 (fun _ => true) true Try.f7.params.toList args.toList ds p := hA0
  rw [Try.params7] at hA hval
  obtain ⟨v0, vs0, d0, ds0, p0, q0, hargs, rfl, rfl, h0, r0⟩ := trodAll_cons hA
  obtain ⟨v1, vs1, d1, ds1, p1, q1, rfl, rfl, rfl, h1, r1⟩ := trodAll_cons r0
  obtain ⟨rfl, rfl, rfl⟩ := trodAll_nil r1
  obtain rfl : args = #[v0, v1] := by cases args; simp_all
  obtain ⟨rfl, rfl⟩ := trodVars_none hV
  obtain ⟨a0, n0, c0, rfl⟩ := okWide_slice Try.underlying30 (hval 0 30 v0 rfl rfl)
  have k0 := h0
  have lt0 : ∀ x ∈ p0, x.block < W.heap.size := by obtain ⟨m, hm⟩ := k0; exact DataW.trod_lt m _ _ _ hm
  have w0 := brows_open h0
  obtain ⟨a1, n1, c1, rfl⟩ := okWide_slice Try.underlying22 (hval 1 22 v1 rfl rfl)
  have k1 := h1
  have lt1 : ∀ x ∈ p1, x.block < W.heap.size := by obtain ⟨m, hm⟩ := k1; exact DataW.trod_lt m _ _ _ hm
  have z1 : ∃ zs, Ints .u8 W a1 n1 c1 zs := by
    obtain ⟨fuel, hf⟩ := h1
    rcases open_ints Try.underlying22 Try.underlying5 (by kernel_rfl) hf with ⟨hcs, _⟩ | ⟨x, l, c, zs, hcs, _, hl, hm, hz, _, hcell, hwz⟩
    · simp [Value.cells] at hcs
      obtain ⟨rfl, rfl, rfl⟩ := hcs
      exact ⟨[], ints_nil _ _⟩
    · simp [Value.cells] at hcs
      obtain ⟨rfl, rfl, rfl⟩ := hcs
      exact ⟨_, ints_some .u8 W x _ _ zs hl hm (by simpa using hz) hcell hwz⟩
  have w1 := z1.elim fun _ h => h.bytes
  clear hA0 hval0
  refine (walk W a0 n0 c0 a1 n1 c1 w0 w1).mono fun e W' ⟨he, bel⟩ => ?_
  subst he
  exact ⟨_, rfl, _, _, _, [], _, [], hW', trodAll_mk1 (shut_bool Try.underlying4 _), (trodAll_cons_mk (Below.trod laid_out (by kernel_rfl) (of_decide_eq_true (by kernel_rfl)) k0 bel lt0) (trodAll_cons_mk (Below.trod laid_out (by kernel_rfl) (of_decide_eq_true (by kernel_rfl)) k1 bel lt1) (trodAll_mk0))), rfl, bel.frame _, fun h => by cases h⟩

theorem over : Rows.logBackRow.holds Try.pinned (OpenSpec.ofChange Rows.logBackSpec) :=
  OpenClaim.holds_of_wide 7 Try.f7 rfl rfl rfl rfl rfl rfl rfl ⟨rfl, rfl, rfl, rfl, rfl⟩ rfl rfl rfl rfl rfl (by kernel_rfl) Try.func7 (by kernel_rfl)
    (of_decide_eq_true (by kernel_rfl)) (by unfold Func.isWrapper; first | (rw [if_pos (by decide +kernel)]; kernel_rfl) | (rw [if_neg (by decide +kernel)]; exact ⟨rfl, rfl⟩))
    (fun os started H enc _ => lifted os started H enc)

theorem proved : Rows.LogBackSaid := over
end Go.Proofs.Ytfcokndpkkhnjaa.logBack
