/- droverlaw02.ValueBack returns true whatever its arguments: what is put is got; what is got of any bytes is right, and put again is the same bytes. For every input, without conditions. -/
import Derived.Test.YtfobmlicmbelnaaDoorRow
import Derived.Test.YtfobmlicmbelnaaDoorAwake02
import Derived.Test.YtfobmlicmbelnaaDoorOpen
import Derived.Test.YtfobmlicmbelnaaDoorDoor
import Derived.Test.YtfobmlicmbelnaaDoorSmall
import Derived.Test.YtfobmlicmbelnaaDoorLaw02
import Derived.Test.YtfobmlicmbelnaaDoorCards
import Derived.SevenTiedAt
import Derived.Deep.RegionHeld3
import Derived.Deep.DeepCutAuto
import Derived.BigQuiet
namespace Go.Proofs.YtfobmlicmbelnaaDoor.valueBack
open Go.ChangeShapes Go.WideShapes Go.ChangeAt Go.RowKit
set_option linter.unusedVariables false



set_option maxRecDepth 100000 in
set_option maxHeartbeats 1600000 in
theorem walk (w : World) (htab : Tab w w.heap.size) (v0 : Value) (a1 : Option Addr) (n1 c1 : Nat) (a2 : Option Addr) (n2 c2 : Nat) (w0 : ∃ t, Rep w w.heap.size v0 t) (w1 : ∃ l : List Nat, l.length = n1 ∧ n1 ≤ c1 ∧ At w w.heap.size a1 (bv l) ∧ (∀ x ∈ l, x < 256)) (w2 : ∃ l : List Nat, l.length = n2 ∧ n2 ≤ c2 ∧ At w w.heap.size a2 (bv l) ∧ (∀ x ∈ l, x < 256)) :
    Calls Tryd.prog 4 #[v0, .slice a1 n1 c1, .slice a2 n2 c2] w fun e w' => e = .returned (.bool true) ∧ Below w.heap.size w w' := by
  obtain ⟨t, ht⟩ := w0
  obtain ⟨l1, hl1, hc1, hat1, h81⟩ := w1
  obtain ⟨l2, hl2, hc2, hat2, h82⟩ := w2
  have hv1 := Bs.of_at hat1 hl1 hc1 h81
  have hv2 := Bs.of_at hat2 hl2 hc2 h82
  subst hl1 hl2
  have tabs : ∀ w', Below w.heap.size w w' → Tab w' w'.heap.size := fun w' h => fun w2 h2 => htab.below h w2 (h2.mono h.size)
  obtain ⟨y0, y1, y2, y3, rfl⟩ := ht.form
  have hbox0 := heap_new w (.cells #[y0, y1, y2, y3] 25)
  have hb0 := (Below.refl w.heap.size w).alloc (Nat.le_refl _) (.cells #[y0, y1, y2, y3] 25)
  have H81 := Lib.hid h81
  have H82 := Lib.hid h82
  clear h81 h82 hat1 hat2
  go_enter Tryd.func4, Tryd.ntmps4
  go_wp2_with fail
  refine (small_any 60 (by omega) 20 t _ _ w.heap.size (by omega) (ht.under hb0) hb0.size).mono ?_
  rintro e w3 ⟨rfl, hb3'⟩
  have hb3 := nxt hb0 hb3'
  have hbox3 := heap_below hbox0 hb3'
  clear hb3' hb0 hbox0
  cases hs : smallV 60 20 t with
  | false =>
    clear hs
    go_wp2_with fail
    refine (awake_any _ (tabs _ hb3)).mono ?_
    rintro e w5 ⟨rfl, hb5⟩
    go_wp2
    go_ret
    exact ⟨rfl, nxt hb3 hb5⟩
  | true =>
  clear hs
  by_cases hbig : 1000 < l1.length
  · have g1 : decide ((1000 : Int) < (l1.length : Int)) = true := by simp; omega
    have g1' : decide (1000 < l1.length) = true := by simp; omega
    go_wp2_with fail
    refine (awake_any _ (tabs _ hb3)).mono ?_
    rintro e w5 ⟨rfl, hb5⟩
    go_wp2
    go_ret
    exact ⟨rfl, nxt hb3 hb5⟩
  have hbig' : l1.length ≤ 1000 := by omega
  have g1 : decide ((1000 : Int) < (l1.length : Int)) = false := by simp; omega
  have g1' : decide (1000 < l1.length) = false := by simp; omega
  clear hbig
  by_cases hbig2 : 100 < l2.length
  · have g2 : decide ((100 : Int) < (l2.length : Int)) = true := by simp; omega
    have g2' : decide (100 < l2.length) = true := by simp; omega
    go_wp2_with fail
    refine (awake_any _ (tabs _ hb3)).mono ?_
    rintro e w5 ⟨rfl, hb5⟩
    go_wp2
    go_ret
    exact ⟨rfl, nxt hb3 hb5⟩
  have hbig2' : l2.length ≤ 100 := by omega
  have g2 : decide ((100 : Int) < (l2.length : Int)) = false := by simp; omega
  have g2' : decide (100 < l2.length) = false := by simp; omega
  clear hbig2
  go_wp2_with fail
  refine (get_all _ l1 0 _ (hv1.below hb3) (by omega)).mono ?_
  rintro e w4 ⟨zk, zn, zs, zA, zl, zc, nx, er, rfl, hb4', hP⟩
  have hb4 := nxt hb3 hb4'
  have hbox4 := heap_below hbox3 hb4'
  clear hb3 hb4' hbox3 g1 g1' g2 g2'
  go_upto_if 39 with (fail)
  go_cut [] (fun wx => Below w.heap.size w wx ∧ wx.heap[w.heap.size]? = some (.cells #[y0, y1, y2, y3] 25 (0, 0)))
  case first =>
    rcases hP with ⟨he, -, -, -⟩ | ⟨rfl, t', m, hr, hx⟩
    · have hz : ((er : Int) == 0) = false := by simp; omega
      go_wp2_with fail
      go_meet
      exact ⟨hb4.alloc hb4.size _, heap_old hbox4 _⟩
    · obtain ⟨hrt, hok, hn1, hn2, htk⟩ := getR_back H81.out hr
      have hx0 : Rep w4 w4.heap.size _ t' := hx.wider fun b h => h.2
      have hE8 : ∀ x ∈ enc 16 t', x < 256 := fun x hx => H81.out x (List.mem_of_mem_take (htk ▸ hx))
      have HE8 := Lib.hid hE8
      have HRT := Lib.hid hrt
      have HTK := Lib.hid htk
      clear hr hrt hok htk hE8 hx
      go_wp2_with fail
      refine (put_any t' _ _ [] _ w4.heap.size (hx0.under ((Below.refl _ _).alloc (Nat.le_refl _) _)) (by simp) (Bs.nil _) (by simp)).mono ?_
      rintro e w5 ⟨hb5', _, hput⟩
      obtain ⟨u, rfl, hown⟩ := hput HRT.out
      rw [List.nil_append] at hown
      have hbu := Bs.of_own hown HE8.out
      have hb5 := nxt (hb4.alloc hb4.size _) hb5'
      have hbox5 := heap_below (heap_old hbox4 _) hb5'
      have hbx5 := heap_below (heap_new _ _) hb5'
      have hx5 := hx0.under (((Below.refl _ _).alloc (Nat.le_refl _) _).trans (hb5'.mono (by simp)))
      have hsz5 := Nat.lt_of_lt_of_le (lt_heap (heap_new w4 (.cells #[.int .u8 zk, .int .i64 zn, .string zs, .slice zA zl zc] 25))) hb5'.size
      obtain ⟨d0, d1, d2, d3⟩ := box4 hbx5
      obtain ⟨Au, cu, rfl, _, _, _, _, _⟩ := hown.form
      clear hput hb5' hown hx0 hbox4 hbx5
      go_wp2_with fail
      refine (right_any t' _ _ w4.heap.size hx5 (by omega)).mono ?_
      rintro e w6 ⟨rfl, hb6'⟩
      rw [HRT.out]
      have hb6 := nxt hb5 hb6'
      have hbox6 := heap_below hbox5 hb6'
      have hbu6 := hbu.below hb6'
      have hv6 := hv1.below hb6
      clear hb6' hbu hbox5 hx5
      have g1 : decide ((nx : Int) < 1) = false := by simp; omega
      have g2 : decide ((l1.length : Int) < (nx : Int)) = false := by simp; omega
      have g2' : decide (l1.length < nx) = false := by simp; omega
      have g3 : (0 : Int) ≤ nx := by omega
      have g4 : (nx : Int) ≤ c1 := by omega
      generalize (enc 16 t').length = le at *
      go_wp2_with fail
      refine (same_bs _ _ (enc 16 t') (l1.take nx) true _ hbu6 (hv6.pre nx hn2) (decide_eq_true HTK.out.symm)).mono ?_
      rintro e w7 ⟨rfl, rfl⟩
      go_wp2_with fail
      go_meet
      exact ⟨hb6, hbox6⟩
  case rest =>
    obtain ⟨hb5, hbox5⟩ := hcut
    obtain ⟨d0, d1, d2, d3⟩ := box4 hbox5
    have hsz5 := lt_heap hbox5
    clear hbox4 hb4 hP
    cases hr : right t with
    | false =>
      have HR := Lib.hid hr
      clear hr
      go_wp2_with fail
      go_region_held3 (fun w' => w'.cell? ⟨w.heap.size, 0, none⟩ = some y0 ∧ w'.cell? ⟨w.heap.size, 1, none⟩ = some y1 ∧ w'.cell? ⟨w.heap.size, 2, none⟩ = some y2 ∧ w'.cell? ⟨w.heap.size, 3, none⟩ = some y3) (go_keep)
        (first
          | (go_at_call 28
             refine (copy_bs _ l1 _ (hv1.below (by first | exact hb5 | exact hb5.drew | exact below_drewN hb5 _)) (by omega)).mono ?_
             rintro e w6 ⟨u, rfl, ho6, hu6, hb6'⟩
             have hb6 := nxt hb5 (of_drew hb6')
             have hbox6 := heap_below hbox5 (of_drew hb6')
             obtain ⟨e0, e1, e2, e3⟩ := box4 hbox6)
          | (go_at_call 17
             refine (put_any t _ _ l1 _ w.heap.size (ht.under hb6) hb6.size hu6 (by omega)).mono ?_
             rintro e w7 ⟨hb7', hput, _⟩
             obtain rfl := hput HR.out
             have hb7 := nxt hb6 hb7'
             have hbox7 := heap_below hbox6 hb7'
             obtain ⟨f0, f1, f2, f3⟩ := box4 hbox7))
      all_goals
        go_wp2_with fail
        refine (right_any t _ _ w.heap.size (ht.under hb7) hb7.size).mono ?_
        rintro e w8 ⟨rfl, hb8'⟩
        rw [HR.out]
        have hb8 := nxt hb7 hb8'
        clear hb8'
        go_wp2_with fail
        refine (awake_any _ (tabs _ hb8)).mono ?_
        rintro e w9 ⟨rfl, hb9⟩
        go_wp2
        go_ret
        exact ⟨rfl, nxt hb8 hb9⟩
    | true =>
      have HR := Lib.hid hr
      obtain ⟨m, hgm⟩ := getR_put l1 l2 hr (ht.ok 16)
      obtain ⟨mm, hmm⟩ := right_rgt hr
      have hrt16 := (rgt_rt 16 _ 256 mm hmm).1
      have hE8 : ∀ x ∈ enc 16 t, x < 256 := enc_bytes hr (ht.ok 16)
      have hEs := enc_short hr
      have HG := Lib.hid hgm
      have H8 : Hid (∀ x ∈ l1 ++ enc 16 t, x < 256) := Lib.hid fun x hx => (List.mem_append.1 hx).elim (H81.out x) (hE8 x)
      have hl3 : (l1 ++ enc 16 t).length = l1.length + (enc 16 t).length := List.length_append
      clear hr hgm hmm
      have HE8 := Lib.hid hE8
      clear hE8
      go_wp2_with fail
      go_region_held3 (fun w' => w'.cell? ⟨w.heap.size, 0, none⟩ = some y0 ∧ w'.cell? ⟨w.heap.size, 1, none⟩ = some y1 ∧ w'.cell? ⟨w.heap.size, 2, none⟩ = some y2 ∧ w'.cell? ⟨w.heap.size, 3, none⟩ = some y3) (go_keep)
        (first
          | (go_at_call 28
             refine (copy_bs _ l1 _ (hv1.below (by first | exact hb5 | exact hb5.drew | exact below_drewN hb5 _)) (by omega)).mono ?_
             rintro e w6 ⟨u, rfl, ho6, hu6, hb6'⟩
             have hb6 := nxt hb5 (of_drew hb6')
             have hbox6 := heap_below hbox5 (of_drew hb6')
             obtain ⟨e0, e1, e2, e3⟩ := box4 hbox6)
          | (go_at_call 17
             refine (put_any t _ _ l1 _ w.heap.size (ht.under hb6) hb6.size hu6 (by omega)).mono ?_
             rintro e w7 ⟨hb7', _, hput⟩
             obtain ⟨u7, rfl, ho7⟩ := hput HR.out
             have hb7 := nxt hb6 hb7'
             have hbox7 := heap_below hbox6 hb7'
             obtain ⟨f0, f1, f2, f3⟩ := box4 hbox7))
      all_goals
        have hu7 := Bs.of_own ho7 H8.out
        obtain ⟨Au, cu, rfl, hcu, _, _, _, _⟩ := ho7.form
        clear hput hb6' hb7' ho7 ho6 hu6
        go_wp2_with fail
        refine (right_any t _ _ w.heap.size (ht.under hb7) hb7.size).mono ?_
        rintro e w8 ⟨rfl, hb8'⟩
        rw [HR.out]
        have hb8 := nxt hb7 hb8'
        have hu8 := hu7.below hb8'
        have hbox8 := heap_below hbox7 hb8'
        clear hb8' hu7 hbox7 f0 f1 f2 f3 e0 e1 e2 e3 d0 d1 d2 d3
        rw [hl3] at hu8 hcu
        have hl3' := Lib.hid hl3
        clear hl3
        go_wp2_with fail
        refine (copy_bs _ (l1 ++ enc 16 t) _ hu8 (by simp; omega)).mono ?_
        rintro e w9 ⟨u9, rfl, ho9, _, hb9'⟩
        obtain ⟨A9, c9, rfl, hc9, _, _, _, _⟩ := ho9.form
        rw [hl3'.out] at ho9 ⊢
        have hb9 := nxt hb8 hb9'
        have hat9 := (hv2.below hb9).parts.2.2.1
        have hsz9 := hb9'.size
        clear hc9
        go_wp2_with (at_builtin
                     refine wpList_app rfl (.tmp 98) (.tmp 99) rfl rfl ho9 rfl hat9 rfl (by simp; omega) hsz9 ?_
                     intro v10 w10 ho10 hb10'' _ _)
        have hb10' : Below w8.heap.size w8 w10 := hb9'.trans hb10''
        have hb10 := nxt hb8 hb10'
        have hu10 := hu8.below hb10'
        have hbox10 := heap_below hbox8 hb10'
        have hu10' : Bs w10 v10 (l1 ++ enc 16 t ++ l2) := Bs.of_own ho10 (fun x hx => (List.mem_append.1 hx).elim (H8.out x) (H82.out x))
        refine (get_all v10 (l1 ++ enc 16 t ++ l2) (l1.length : Int) _ hu10' (by simp; omega)).mono ?_
        rintro e w11 ⟨yk, yn, ys, yA, yl, yc, ny, er2, rfl, hb11', hP⟩
        rcases hP with ⟨_, h, _⟩ | ⟨rfl, t2, m2, h, hx⟩
        · rw [HG.out] at h
          cases h
        rw [HG.out] at h
        injection h with h
        injection h with h1 h
        injection h with h2 h3
        subst h1 h2
        have hx0 : Rep w11 w11.heap.size _ t := hx.wider fun b h => h.2
        have hb11 := nxt hb10 hb11'
        have hu11 := hu10.below hb11'
        have hv11 := hv1.below hb11
        obtain ⟨d0, d1, d2, d3⟩ := box4 (heap_below hbox10 hb11')
        have hsz11 := lt_heap (heap_below hbox10 hb11')
        clear hb10'' hb10' hb11' hu10 hu10' hbox10 hbox8 hx ho9 ho10 hat9 h3 hb9'
        go_wp2_with fail
        refine (alike_any 16 _ _ _ _ w11.heap.size hrt16 (hx0.under ((Below.refl _ _).alloc (Nat.le_refl _) _)) (((ht.under hb11).wider fun b h => Nat.lt_of_lt_of_le h hb11.size).under ((Below.refl _ _).alloc (Nat.le_refl _) _)) (by simp)).mono ?_
        rintro e w12 ⟨rfl, hb12'⟩
        have hb12 : Below w11.heap.size w11 w12 := nxt ((Below.refl _ _).alloc (Nat.le_refl _) _) hb12'
        have hb13 := nxt hb11 hb12
        have hu12 := hu11.below hb12
        have hv12 := hv11.below hb12
        have g3 : (0 : Int) ≤ l1.length := by omega
        have g4 : (l1.length : Int) ≤ cu := by omega
        have hpre := hu12.pre l1.length (by omega)
        rw [show (l1 ++ enc 16 t).take l1.length = l1 by simp] at hpre
        clear hb12' hb12 hu11 hu12 hx0 d0 d1 d2 d3
        go_wp2_with fail
        refine (same_bs _ _ l1 l1 true _ hpre hv12 (by simp)).mono ?_
        rintro e w14 ⟨rfl, rfl⟩
        go_wp2_with fail
        refine (awake_any _ (tabs _ hb13)).mono ?_
        rintro e w15 ⟨rfl, hb15⟩
        go_wp2
        go_ret
        exact ⟨rfl, nxt hb13 hb15⟩

set_option maxRecDepth 100000 in
theorem lifted (os : Os) (started : os.Started) (H : Type) (enc : TypeId × Value → H) :
    ReturnsInHanded {} Tryd.checked os 4 .any (fun w args => (Rows.valueBackSpec.pre enc Tryd.prog Tryd.f4 [] false w args ∧ laidMetH Tryd.prog laid3 w) ∧ sizedMet enc Tryd.prog Tryd.f4 (OpenSpec.ofChange Rows.valueBackSpec) false w args) (Rows.valueBackSpec.post enc Tryd.prog Tryd.f4 false true false false) := by
  refine returnsInHanded_of_change_and (C := Tryd.checked) (X := fun w _ => laidMetH Tryd.prog laid3 w) (fun _ _ _ hh h => h.of_heap hh) knob_own started (by kernel_rfl) Tryd.func4
    (ChangeSpec.witness_shaped (enc := enc) (C := Tryd.checked) (os := os) (X := fun w _ => laidMetH Tryd.prog laid3 w) false (World.doorLaid Tryd.prog 400 os) #[.agg #[.int .u8 0, .int .i64 0, .string ⟨#[]⟩, .slice none 0 0], .slice none 0 0, .slice none 0 0] 8 rfl (World.shaped_of_RefB (by kernel_rfl) (by kernel_rfl)) (by kernel_rfl) (by kernel_rfl) (by kernel_rfl) (door_met os _)) ?_
  intro W base args ds gs before hval0 hW _ _ hL _
  have hval : ∀ (j : Nat) t v, Tryd.f4.params[j]? = some t → args[j]? = some v → Value.okWide Tryd.prog W .any base t v := hval0
  have hW' := hW
  obtain ⟨p, q, hA0, hV, rfl, hfz, hnd⟩ := hW
  have hA : DataW.TrodAll enc Tryd.prog W 0 (fun _ => true) true Tryd.f4.params.toList args.toList ds p := hA0
  rw [Tryd.params4] at hA hval
  obtain ⟨v0, vs0, d0, ds0, p0, q0, hargs, rfl, rfl, h0, r0⟩ := trodAll_cons hA
  obtain ⟨v1, vs1, d1, ds1, p1, q1, rfl, rfl, rfl, h1, r1⟩ := trodAll_cons r0
  obtain ⟨v2, vs2, d2, ds2, p2, q2, rfl, rfl, rfl, h2, r2⟩ := trodAll_cons r1
  obtain ⟨rfl, rfl, rfl⟩ := trodAll_nil r2
  obtain rfl : args = #[v0, v1, v2] := by cases args; simp_all
  obtain ⟨rfl, rfl⟩ := trodVars_none hV
  have k0 := h0
  have lt0 : ∀ x ∈ p0, x.block < W.heap.size := by obtain ⟨m, hm⟩ := k0; exact DataW.trod_lt m _ _ _ hm
  have w0 := val_open (hval 0 25 v0 rfl rfl) h0
  obtain ⟨a1, n1, c1, rfl⟩ := okWide_slice Tryd.underlying32 (hval 1 32 v1 rfl rfl)
  have k1 := h1
  have lt1 : ∀ x ∈ p1, x.block < W.heap.size := by obtain ⟨m, hm⟩ := k1; exact DataW.trod_lt m _ _ _ hm
  have z1 : ∃ zs, Ints .u8 W a1 n1 c1 zs := by
    obtain ⟨fuel, hf⟩ := h1
    rcases open_ints Tryd.underlying32 Tryd.underlying5 (by kernel_rfl) hf with ⟨hcs, _⟩ | ⟨x, l, c, zs, hcs, _, hl, hm, hz, _, hcell, hwz⟩
    · simp [Value.cells] at hcs
      obtain ⟨rfl, rfl, rfl⟩ := hcs
      exact ⟨[], ints_nil _ _⟩
    · simp [Value.cells] at hcs
      obtain ⟨rfl, rfl, rfl⟩ := hcs
      exact ⟨_, ints_some .u8 W x _ _ zs hl hm (by simpa using hz) hcell hwz⟩
  have w1 := z1.elim fun _ h => h.bytes
  obtain ⟨a2, n2, c2, rfl⟩ := okWide_slice Tryd.underlying32 (hval 2 32 v2 rfl rfl)
  have k2 := h2
  have lt2 : ∀ x ∈ p2, x.block < W.heap.size := by obtain ⟨m, hm⟩ := k2; exact DataW.trod_lt m _ _ _ hm
  have z2 : ∃ zs, Ints .u8 W a2 n2 c2 zs := by
    obtain ⟨fuel, hf⟩ := h2
    rcases open_ints Tryd.underlying32 Tryd.underlying5 (by kernel_rfl) hf with ⟨hcs, _⟩ | ⟨x, l, c, zs, hcs, _, hl, hm, hz, _, hcell, hwz⟩
    · simp [Value.cells] at hcs
      obtain ⟨rfl, rfl, rfl⟩ := hcs
      exact ⟨[], ints_nil _ _⟩
    · simp [Value.cells] at hcs
      obtain ⟨rfl, rfl, rfl⟩ := hcs
      exact ⟨_, ints_some .u8 W x _ _ zs hl hm (by simpa using hz) hcell hwz⟩
  have w2 := z2.elim fun _ h => h.bytes
  clear hA0 hval0
  refine (walk W (tab_laid hL) v0 a1 n1 c1 a2 n2 c2 w0 w1 w2).mono fun e W' ⟨he, bel⟩ => ?_
  subst he
  exact ⟨_, rfl, _, _, _, [], _, [], hW', trodAll_mk1 (shut_bool Tryd.underlying4 _), (trodAll_cons_mk (Below.trod laid_out (by kernel_rfl) (of_decide_eq_true (by kernel_rfl)) k0 bel lt0) (trodAll_cons_mk (Below.trod laid_out (by kernel_rfl) (of_decide_eq_true (by kernel_rfl)) k1 bel lt1) (trodAll_cons_mk (Below.trod laid_out (by kernel_rfl) (of_decide_eq_true (by kernel_rfl)) k2 bel lt2) (trodAll_mk0)))), rfl, bel.frame _, fun h => by cases h⟩

theorem over : Rows.valueBackRow.holds Tryd.pinned (OpenSpec.ofChange Rows.valueBackSpec) :=
  OpenClaim.holds_of_wide 4 Tryd.f4 rfl rfl rfl rfl rfl rfl rfl ⟨rfl, rfl, rfl, rfl, rfl⟩ rfl rfl rfl rfl rfl (by kernel_rfl) Tryd.func4 (by kernel_rfl)
    (of_decide_eq_true (by kernel_rfl)) (by unfold Func.isWrapper; first | (rw [if_pos (by decide +kernel)]; kernel_rfl) | (rw [if_neg (by decide +kernel)]; exact ⟨rfl, rfl⟩))
    (fun os started H enc _ => lifted os started H enc)

theorem proved : Rows.ValueBackCardSaid :=
  Claim7.holds_tied_plain_at .later [] [.data, .data, .data] true Rows.valueBackCard.stood.harness false
    over (fun _ h => by cases h) (by kernel_rfl) (fun _ h => by cases h) valueBack_row_tie rfl ⟨rfl, rfl⟩ (by kernel_rfl) rfl
    (fun f fn hf hfn => by
      obtain rfl : f = 4 := Option.some.inj ((show Tryd.prog.funcNamed "drover/droverlaw02.ValueBack" = some 4 by kernel_rfl).symm.trans hf) |>.symm
      obtain rfl : fn = Tryd.f4 := (Option.some.inj (Tryd.func4.symm.trans hfn)).symm
      exact ⟨by kernel_rfl, fun j t ht => by
        have hall : (Tryd.f4.params.toList.all fun u => !Tryd.prog.wantsStandIn u) = true := by kernel_rfl
        have hm : t ∈ Tryd.f4.params.toList := Array.mem_toList_iff.2 (Array.mem_of_getElem? ht)
        exact (show Tryd.prog.wantsStandIn t = false by simpa using List.all_eq_true.1 hall t hm)⟩)
    (by kernel_rfl)
end Go.Proofs.YtfobmlicmbelnaaDoor.valueBack
