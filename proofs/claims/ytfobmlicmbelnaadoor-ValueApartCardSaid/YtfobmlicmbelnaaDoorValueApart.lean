/- droverlaw02.ValueApart returns true whatever its arguments: no value is the begin of another one; cut, it is none. For every input, without conditions. -/
import Derived.Test.YtfobmlicmbelnaaDoorRow
import Derived.Test.YtfobmlicmbelnaaDoorAwake02
import Derived.Test.YtfobmlicmbelnaaDoorOpen
import Derived.Test.YtfobmlicmbelnaaDoorDoor
import Derived.Test.YtfobmlicmbelnaaDoorSmall
import Derived.Test.YtfobmlicmbelnaaDoorLaw02
import Derived.Test.YtfobmlicmbelnaaDoorRight02
import Derived.Test.YtfobmlicmbelnaaDoorCards
import Derived.SevenTiedAt
import Derived.Deep.RegionHeld3
import Derived.Deep.DeepCutAuto
import Derived.BigQuiet
namespace Go.Proofs.YtfobmlicmbelnaaDoor.valueApart
open Go.ChangeShapes Go.WideShapes Go.ChangeAt Go.RowKit
set_option linter.unusedVariables false

theorem wf_u16 {a : Int} (h : (Lit.int .u16 a).wf = true) : ∃ n : Nat, a = n ∧ n < 65536 := by
  have h1 : IntKind.u16.min = 0 := rfl
  have h2 : IntKind.u16.max = 65535 := rfl
  simp only [Lit.wf, Bool.and_eq_true, decide_eq_true_eq] at h
  exact ⟨a.toNat, by omega, by omega⟩

set_option maxRecDepth 100000 in
set_option maxHeartbeats 1600000 in
theorem walk (w : World) (htab : Tab w w.heap.size) (v0 : Value) (v1 : Value) (a2 : Option Addr) (n2 c2 : Nat) (a3 : Int) (w0 : ∃ t, Rep w w.heap.size v0 t) (w1 : ∃ t, Rep w w.heap.size v1 t) (w2 : ∃ l : List Nat, l.length = n2 ∧ n2 ≤ c2 ∧ At w w.heap.size a2 (bv l) ∧ (∀ x ∈ l, x < 256)) (w3 : (Lit.int .u16 a3).wf = true) :
    Calls Tryd.prog 6 #[v0, v1, .slice a2 n2 c2, .int .u16 a3] w fun e w' => e = .returned (.bool true) ∧ Below w.heap.size w w' := by
  obtain ⟨t, ht⟩ := w0
  obtain ⟨t', ht'⟩ := w1
  obtain ⟨l2, hl2, hc2, hat2, h82⟩ := w2
  obtain ⟨cut, rfl, hcut⟩ := wf_u16 w3
  clear w3
  have hv2 := Bs.of_at hat2 hl2 hc2 h82
  subst hl2
  have tabs : ∀ w', Below w.heap.size w w' → Tab w' w'.heap.size := fun w' h => fun w2 h2 => htab.below h w2 (h2.mono h.size)
  obtain ⟨y0, y1, y2, y3, rfl⟩ := ht.form
  obtain ⟨z0, z1, z2, z3, rfl⟩ := ht'.form
  have H82 := Lib.hid h82
  clear h82 hat2
  obtain ⟨W, hW⟩ : ∃ W : World, W = (w.alloc (.cells #[y0, y1, y2, y3] 25)).alloc (.cells #[z0, z1, z2, z3] 25) := ⟨_, rfl⟩
  have q1 : W.heap[w.heap.size]? = some (.cells #[y0, y1, y2, y3] 25 (0, 0)) := by rw [hW]; exact heap_old (heap_new _ _) _
  have q2 : W.heap[w.heap.size + 1]? = some (.cells #[z0, z1, z2, z3] 25 (0, 0)) := by rw [hW]; exact heap_new' _ _ _ (by simp)
  have hb0 : Below w.heap.size w W := by rw [hW]; exact two _ _ _
  obtain ⟨d0, d1, d2, d3⟩ := box4 q1
  obtain ⟨e0, e1, e2, e3⟩ := box4 q2
  have s1 := lt_heap q1
  have s2 := lt_heap q2
  go_enter Tryd.func6, Tryd.ntmps6
  go_wp2_with fail
  rw [← hW]
  clear hW
  refine (right02_any t _ _ w.heap.size (ht.under hb0) hb0.size).mono ?_
  rintro e w3 ⟨rfl, hb3'⟩
  have hb3 := nxt hb0 hb3'
  have p1 := heap_below q1 hb3'
  have p2 := heap_below q2 hb3'
  clear hb3' hb0 q1 q2 d0 d1 d2 d3 e0 e1 e2 e3 s1 s2
  obtain ⟨d0, d1, d2, d3⟩ := box4 p1
  obtain ⟨e0, e1, e2, e3⟩ := box4 p2
  have s1 := lt_heap p1
  have s2 := lt_heap p2
  cases hs : (smallV 60 20 t && right t) with
  | false =>
    clear hs
    go_wp2_with fail
    refine (awake_any _ (tabs _ hb3)).mono ?_
    rintro e w5 ⟨rfl, hb5⟩
    go_wp2
    go_ret
    exact ⟨rfl, nxt hb3 hb5⟩
  | true =>
  obtain ⟨-, hr⟩ := Bool.and_eq_true_iff.1 hs
  clear hs
  go_wp2_with fail
  refine (right02_any t' _ _ w.heap.size (ht'.under hb3) hb3.size).mono ?_
  rintro e w4 ⟨rfl, hb4'⟩
  have hb4 := nxt hb3 hb4'
  have q1 := heap_below p1 hb4'
  have q2 := heap_below p2 hb4'
  clear hb4' hb3 p1 p2 d0 d1 d2 d3 e0 e1 e2 e3 s1 s2
  obtain ⟨d0, d1, d2, d3⟩ := box4 q1
  obtain ⟨e0, e1, e2, e3⟩ := box4 q2
  have s1 := lt_heap q1
  have s2 := lt_heap q2
  cases hs : (smallV 60 20 t' && right t') with
  | false =>
    clear hs
    go_wp2_with fail
    refine (awake_any _ (tabs _ hb4)).mono ?_
    rintro e w5 ⟨rfl, hb5⟩
    go_wp2
    go_ret
    exact ⟨rfl, nxt hb4 hb5⟩
  | true =>
  obtain ⟨-, hr'⟩ := Bool.and_eq_true_iff.1 hs
  clear hs
  by_cases hbig : 100 < l2.length
  · have g1 : decide ((100 : Int) < (l2.length : Int)) = true := by simp; omega
    have g1' : decide (100 < l2.length) = true := by simp; omega
    go_wp2_with fail
    refine (awake_any _ (tabs _ hb4)).mono ?_
    rintro e w5 ⟨rfl, hb5⟩
    go_wp2
    go_ret
    exact ⟨rfl, nxt hb4 hb5⟩
  have hbig' : l2.length ≤ 100 := by omega
  have g1 : decide ((100 : Int) < (l2.length : Int)) = false := by simp; omega
  have g1' : decide (100 < l2.length) = false := by simp; omega
  clear hbig
  have HR := Lib.hid hr
  have HR' := Lib.hid hr'
  have ok := ht.ok 16
  have ok' := ht'.ok 16
  have HE8 := Lib.hid (enc_bytes hr ok)
  have HE8' := Lib.hid (enc_bytes hr' ok')
  have hEs := enc_short hr
  have hEs' := enc_short hr'
  have hEp : 0 < (enc 16 t).length := List.length_pos_iff.2 (enc_pos 15 t)
  have hEp' : 0 < (enc 16 t').length := List.length_pos_iff.2 (enc_pos 15 t')
  have HA := Lib.hid (fun n hn => apart hr hr' ok ok' n hn)
  have HC := Lib.hid (fun j hj => getR_cut hr ok j hj)
  have HP := Lib.hid (getR_put [] l2 hr ok)
  have HT : Rt 16 t := by
    obtain ⟨m, hm⟩ := right_rgt hr
    exact (rgt_rt 16 _ 256 m hm).1
  clear hr hr' ok ok'
  go_wp2_with fail
  refine (put_any t _ _ [] _ w.heap.size (ht.under hb4) hb4.size (Bs.nil _) (by simp)).mono ?_
  rintro e w5 ⟨hb5', _, hput⟩
  obtain ⟨u5, rfl, ho5⟩ := hput HR.out
  rw [List.nil_append] at ho5
  have hu5 := Bs.of_own ho5 HE8.out
  obtain ⟨A5, c5, rfl, hc5, _, _, _, _⟩ := ho5.form
  have hb5 := nxt hb4 hb5'
  have p1 := heap_below q1 hb5'
  have p2 := heap_below q2 hb5'
  clear hb5' hb4 q1 q2 d0 d1 d2 d3 e0 e1 e2 e3 s1 s2 hput ho5 g1 g1'
  obtain ⟨d0, d1, d2, d3⟩ := box4 p1
  obtain ⟨e0, e1, e2, e3⟩ := box4 p2
  have s1 := lt_heap p1
  have s2 := lt_heap p2
  go_wp2_with fail
  refine (put_any t' _ _ [] _ w.heap.size (ht'.under hb5) hb5.size (Bs.nil _) (by simp)).mono ?_
  rintro e w6 ⟨hb6', _, hput⟩
  obtain ⟨u6, rfl, ho6⟩ := hput HR'.out
  rw [List.nil_append] at ho6
  have hu6 := Bs.of_own ho6 HE8'.out
  obtain ⟨A6, c6, rfl, hc6, _, _, _, _⟩ := ho6.form
  have hb6 := nxt hb5 hb6'
  have hu5b := hu5.below hb6'
  have q1 := heap_below p1 hb6'
  have q2 := heap_below p2 hb6'
  clear hb6' hb5 p1 p2 d0 d1 d2 d3 e0 e1 e2 e3 s1 s2 hput ho6 hu5
  obtain ⟨d0, d1, d2, d3⟩ := box4 q1
  obtain ⟨e0, e1, e2, e3⟩ := box4 q2
  have s1 := lt_heap q1
  have s2 := lt_heap q2
  have g3 : (((enc 16 t).length : Int) == 0) = false := beq_eq_false_iff_ne.2 (by omega)
  have g4 : (((enc 16 t').length : Int) == 0) = false := beq_eq_false_iff_ne.2 (by omega)
  obtain ⟨n, hn, hn5, hn6⟩ : ∃ n : Nat, min ((enc 16 t).length : Int) ((enc 16 t').length : Int) = (n : Int) ∧ n ≤ (enc 16 t).length ∧ n ≤ (enc 16 t').length := by
    refine ⟨min (enc 16 t).length (enc 16 t').length, by omega, by omega, by omega⟩
  have HAn := Lib.hid (HA.out n (by omega))
  obtain ⟨bb, hbb⟩ : ∃ bb, bb = decide (cmV t t' = 0) := ⟨_, rfl⟩
  rw [← hbb] at HAn
  have HBB := Lib.hid hbb
  clear hbb HA
  have g5 : (0 : Int) ≤ n := by omega
  have g6 : (n : Int) ≤ c5 := by omega
  have g7 : (n : Int) ≤ c6 := by omega
  have hp5 := hu5b.pre n hn5
  have hp6 := hu6.pre n hn6
  go_wp2_with fail
  go_region_held3 (fun w' => (w'.cell? ⟨w.heap.size, 0, none⟩ = some y0 ∧ w'.cell? ⟨w.heap.size, 1, none⟩ = some y1 ∧ w'.cell? ⟨w.heap.size, 2, none⟩ = some y2 ∧ w'.cell? ⟨w.heap.size, 3, none⟩ = some y3) ∧
      (w'.cell? ⟨w.heap.size + 1, 0, none⟩ = some z0 ∧ w'.cell? ⟨w.heap.size + 1, 1, none⟩ = some z1 ∧ w'.cell? ⟨w.heap.size + 1, 2, none⟩ = some z2 ∧ w'.cell? ⟨w.heap.size + 1, 3, none⟩ = some z3)) (go_keep)
    (first
      | (go_at_call 27
         refine (same_bs _ _ ((enc 16 t).take n) ((enc 16 t').take n) bb _ (by exact hp5) (by exact hp6) HAn.out).mono ?_
         rintro e w7 ⟨rfl, rfl⟩)
      | (go_at_call 24
         refine (same_val t t' _ _ _ w.heap.size (ht.under (hb6.drew)) (ht'.under (hb6.drew)) hb6.size).mono ?_
         rintro e w7 ⟨rfl, hb7'⟩
         rw [← HBB.out]
         have hb7 := nxt hb6 (of_drew hb7')
         have p1 := heap_below q1 (of_drew hb7')
         have p2 := heap_below q2 (of_drew hb7')
         have hu7 := hu5b.below (of_drew hb7')
         obtain ⟨f0, f1, f2, f3⟩ := box4 p1
         obtain ⟨r0, r1, r2, r3⟩ := box4 p2))
  have hv7 := hv2.below hb7
  have hbb : (bb != bb) = false := by simp
  have hl0 := Int.emod_nonneg (cut : Int) (show ((enc 16 t).length : Int) ≠ 0 by omega)
  have hl1 := Int.emod_lt_of_pos (cut : Int) (show (0 : Int) < ((enc 16 t).length : Int) by omega)
  obtain ⟨j, hj⟩ : ∃ j : Nat, (cut : Int) % ((enc 16 t).length : Int) = (j : Int) := ⟨((cut : Int) % ((enc 16 t).length : Int)).toNat, by omega⟩
  have hj' : (cut : Int).tmod ((enc 16 t).length : Int) = (j : Int) := by rw [Int.tmod_eq_emod_of_nonneg (by omega)]; exact hj
  have hjl : j < (enc 16 t).length := by omega
  have HG := Lib.hid (HC.out j hjl)
  have g8 : (0 : Int) ≤ j := by omega
  have g9 : (j : Int) ≤ c5 := by omega
  have hpj := hu7.pre j (by omega)
  have hlz : ((enc 16 t).length : Int) ≠ 0 := by omega
  have s7 := lt_heap p1
  clear hb7' hb6 q1 q2 d0 d1 d2 d3 e0 e1 e2 e3 f0 f1 f2 f3 r0 r1 r2 r3 s1 s2 hl0 hl1 hu5b hu6 hp5 hp6 hn hn5 hn6 HC g4 g5 g6 g7
  go_wp2_with fail
  refine (get_all _ ((enc 16 t).take j) 0 _ hpj (by simp; omega)).mono ?_
  rintro e w8 ⟨zk, zn, zs, zA, zl, zc, nx, er, rfl, hb8', hQ⟩
  rcases hQ with ⟨_, h, hnx, hz⟩ | ⟨rfl, t2, m2, h, hx⟩
  case inr => rw [HG.out] at h; cases h
  rw [HG.out] at h
  injection h with h
  subst h
  subst hnx
  have hb8 := nxt hb7 hb8'
  have hu8 := hu7.below hb8'
  have p3 := heap_below p1 hb8'
  have hv8 := hv7.below hb8'
  clear hb8' hz hb7 hu7 hv7 p1 p2 hpj hj hj' g8 g9 hlz HG s7
  go_wp2_with fail
  refine (copy_bs _ (enc 16 t) _ (hu8.alloc _) (by omega)).mono ?_
  rintro e w9 ⟨u9, rfl, ho9, _, hb9'⟩
  have hb9 := nxt (hb8.alloc hb8.size _) hb9'
  have hb9x : Below w8.heap.size w8 w9 := nxt ((Below.refl _ _).alloc (Nat.le_refl _) _) hb9'
  have hv9 := hv8.below hb9x
  have hsz9 := hb9'.size
  have hat9 := hv9.parts.2.2.1
  go_wp2_with (at_builtin
               refine wpList_app rfl (.tmp 90) (.tmp 91) rfl rfl ho9 rfl hat9 rfl (by omega) hsz9 ?_
               intro v10 w10 ho10 hb10'' _ _)
  have hb10' : Below w8.heap.size w8 w10 := hb9x.trans (hb10''.mono (by simp))
  have hb10 := nxt hb8 hb10'
  have hu10 := hu8.below hb10'
  have p4 := heap_below p3 hb10'
  have hu10' : Bs w10 v10 (enc 16 t ++ l2) := Bs.of_own ho10 (fun x hx => (List.mem_append.1 hx).elim (HE8.out x) (H82.out x))
  refine (get_all v10 (enc 16 t ++ l2) 0 _ hu10' (by simp; omega)).mono ?_
  rintro e w11 ⟨yk, yn, ys, yA, yl, yc, ny, er2, rfl, hb11', hQ⟩
  obtain ⟨m, HP⟩ := HP.out
  have HP' : getR (enc 16 t ++ l2) 0 = .ok (t, (enc 16 t).length, m) := by simpa using HP
  rcases hQ with ⟨_, h, _⟩ | ⟨rfl, t2, m2, h, hx⟩
  · rw [HP'] at h
    cases h
  rw [HP'] at h
  injection h with h
  injection h with h1 h
  injection h with h2 h3
  subst h1 h2
  have hx0 : Rep w11 w11.heap.size _ t := hx.wider fun b h => h.2
  have hb11 := nxt hb10 hb11'
  obtain ⟨d0, d1, d2, d3⟩ := box4 (heap_below p4 hb11')
  have hsz11 := lt_heap (heap_below p4 hb11')
  clear hb10'' hb10' hb11' hu10 hu10' p3 p4 hx ho9 ho10 hat9 h3 hb9' hb9x hb8 hb9 hu8 hv8 hv9 HP HP' hb10
  go_wp2_with fail
  refine (alike_any 16 _ _ _ _ w11.heap.size HT (hx0.under ((Below.refl _ _).alloc (Nat.le_refl _) _)) (((ht.under hb11).wider fun b h => Nat.lt_of_lt_of_le h hb11.size).under ((Below.refl _ _).alloc (Nat.le_refl _) _)) (by simp)).mono ?_
  rintro e w12 ⟨rfl, hb12'⟩
  have hb12 : Below w11.heap.size w11 w12 := nxt ((Below.refl _ _).alloc (Nat.le_refl _) _) hb12'
  have hb13 := nxt hb11 hb12
  clear hb12' hb12 hx0 d0 d1 d2 d3
  go_wp2_with fail
  refine (awake_any _ (tabs _ hb13)).mono ?_
  rintro e w15 ⟨rfl, hb15⟩
  go_wp2
  go_ret
  exact ⟨rfl, nxt hb13 hb15⟩

set_option maxRecDepth 100000 in
theorem lifted (os : Os) (started : os.Started) (H : Type) (enc : TypeId × Value → H) :
    ReturnsInHanded {} Tryd.checked os 6 .any (fun w args => (Rows.valueApartSpec.pre enc Tryd.prog Tryd.f6 [] false w args ∧ laidMetH Tryd.prog laid3 w) ∧ sizedMet enc Tryd.prog Tryd.f6 (OpenSpec.ofChange Rows.valueApartSpec) false w args) (Rows.valueApartSpec.post enc Tryd.prog Tryd.f6 false true false false) := by
  refine returnsInHanded_of_change_and (C := Tryd.checked) (X := fun w _ => laidMetH Tryd.prog laid3 w) (fun _ _ _ hh h => h.of_heap hh) knob_own started (by kernel_rfl) Tryd.func6
    (ChangeSpec.witness_shaped (enc := enc) (C := Tryd.checked) (os := os) (X := fun w _ => laidMetH Tryd.prog laid3 w) false (World.doorLaid Tryd.prog 400 os) #[.agg #[.int .u8 0, .int .i64 0, .string ⟨#[]⟩, .slice none 0 0], .agg #[.int .u8 0, .int .i64 0, .string ⟨#[]⟩, .slice none 0 0], .slice none 0 0, .int .u16 0] 8 rfl (World.shaped_of_RefB (by kernel_rfl) (by kernel_rfl)) (by kernel_rfl) (by kernel_rfl) (by kernel_rfl) (door_met os _)) ?_
  intro W base args ds gs before hval0 hW _ _ hL _
  have hval : ∀ (j : Nat) t v, Tryd.f6.params[j]? = some t → args[j]? = some v → Value.okWide Tryd.prog W .any base t v := hval0
  have hW' := hW
  obtain ⟨p, q, hA0, hV, rfl, hfz, hnd⟩ := hW
  have hA : DataW.TrodAll enc Tryd.prog W 0 (fun _ => true) true Tryd.f6.params.toList args.toList ds p := hA0
  rw [Tryd.params6] at hA hval
  obtain ⟨v0, vs0, d0, ds0, p0, q0, hargs, rfl, rfl, h0, r0⟩ := trodAll_cons hA
  obtain ⟨v1, vs1, d1, ds1, p1, q1, rfl, rfl, rfl, h1, r1⟩ := trodAll_cons r0
  obtain ⟨v2, vs2, d2, ds2, p2, q2, rfl, rfl, rfl, h2, r2⟩ := trodAll_cons r1
  obtain ⟨v3, vs3, d3, ds3, p3, q3, rfl, rfl, rfl, h3, r3⟩ := trodAll_cons r2
  obtain ⟨rfl, rfl, rfl⟩ := trodAll_nil r3
  obtain rfl : args = #[v0, v1, v2, v3] := by cases args; simp_all
  obtain ⟨rfl, rfl⟩ := trodVars_none hV
  have k0 := h0
  have lt0 : ∀ x ∈ p0, x.block < W.heap.size := by obtain ⟨m, hm⟩ := k0; exact DataW.trod_lt m _ _ _ hm
  have w0 := val_open (hval 0 25 v0 rfl rfl) h0
  have k1 := h1
  have lt1 : ∀ x ∈ p1, x.block < W.heap.size := by obtain ⟨m, hm⟩ := k1; exact DataW.trod_lt m _ _ _ hm
  have w1 := val_open (hval 1 25 v1 rfl rfl) h1
  obtain ⟨a2, n2, c2, rfl⟩ := okWide_slice Tryd.underlying32 (hval 2 32 v2 rfl rfl)
  have k2 := h2
  have lt2 : ∀ x ∈ p2, x.block < W.heap.size := by obtain ⟨m, hm⟩ := k2; exact DataW.trod_lt m _ _ _ hm
  have z2 : ∃ zs, Ints .u8 W a2 n2 c2 zs := by
    obtain ⟨fuel, hf⟩ := h2
    rcases open_ints Tryd.underlying32 Tryd.underlying5 (by kernel_rfl) hf with ⟨hcs, _⟩ | ⟨x, l, c, zs, hcs, _, hl, hm, hz, _, hcell, hwz⟩
    · simp [Value.cells] at hcs
      obtain ⟨rfl, rfl, rfl⟩ := hcs
      exact ⟨[], ints_nil _ _⟩
    · simp [Value.cells] at hcs
      obtain ⟨rfl, rfl, rfl⟩ := hcs
      exact ⟨_, ints_some .u8 W x _ _ zs hl hm (by simpa using hz) hcell hwz⟩
  have w2 := z2.elim fun _ h => h.bytes
  have lt3 : ∀ x ∈ p3, x.block < W.heap.size := by obtain ⟨m, hm⟩ := h3; exact DataW.trod_lt m _ _ _ hm
  have k3 := h3
  obtain ⟨a3, rfl, _, _, w3⟩ := open_int Tryd.underlying49 (hval 3 49 v3 rfl rfl) h3
  clear hA0 hval0
  refine (walk W (tab_laid hL) v0 v1 a2 n2 c2 a3 w0 w1 w2 w3).mono fun e W' ⟨he, bel⟩ => ?_
  subst he
  exact ⟨_, rfl, _, _, _, [], _, [], hW', trodAll_mk1 (shut_bool Tryd.underlying4 _), (trodAll_cons_mk (Below.trod laid_out (by kernel_rfl) (of_decide_eq_true (by kernel_rfl)) k0 bel lt0) (trodAll_cons_mk (Below.trod laid_out (by kernel_rfl) (of_decide_eq_true (by kernel_rfl)) k1 bel lt1) (trodAll_cons_mk (Below.trod laid_out (by kernel_rfl) (of_decide_eq_true (by kernel_rfl)) k2 bel lt2) (trodAll_cons_mk (Below.trod laid_out (by kernel_rfl) (of_decide_eq_true (by kernel_rfl)) k3 bel lt3) (trodAll_mk0))))), rfl, bel.frame _, fun h => by cases h⟩

theorem over : Rows.valueApartRow.holds Tryd.pinned (OpenSpec.ofChange Rows.valueApartSpec) :=
  OpenClaim.holds_of_wide 6 Tryd.f6 rfl rfl rfl rfl rfl rfl rfl ⟨rfl, rfl, rfl, rfl, rfl⟩ rfl rfl rfl rfl rfl (by kernel_rfl) Tryd.func6 (by kernel_rfl)
    (of_decide_eq_true (by kernel_rfl)) (by unfold Func.isWrapper; first | (rw [if_pos (by decide +kernel)]; kernel_rfl) | (rw [if_neg (by decide +kernel)]; exact ⟨rfl, rfl⟩))
    (fun os started H enc _ => lifted os started H enc)

theorem proved : Rows.ValueApartCardSaid :=
  Claim7.holds_tied_plain_at .later [] [.data, .data, .data] true Rows.valueApartCard.stood.harness false
    over (fun _ h => by cases h) (by kernel_rfl) (fun _ h => by cases h) valueApart_row_tie rfl ⟨rfl, rfl⟩ (by kernel_rfl) rfl
    (fun f fn hf hfn => by
      obtain rfl : f = 6 := Option.some.inj ((show Tryd.prog.funcNamed "drover/droverlaw02.ValueApart" = some 6 by kernel_rfl).symm.trans hf) |>.symm
      obtain rfl : fn = Tryd.f6 := (Option.some.inj (Tryd.func6.symm.trans hfn)).symm
      exact ⟨by kernel_rfl, fun j t ht => by
        have hall : (Tryd.f6.params.toList.all fun u => !Tryd.prog.wantsStandIn u) = true := by kernel_rfl
        have hm : t ∈ Tryd.f6.params.toList := Array.mem_toList_iff.2 (Array.mem_of_getElem? ht)
        exact (show Tryd.prog.wantsStandIn t = false by simpa using List.all_eq_true.1 hall t hm)⟩)
    (by kernel_rfl)
end Go.Proofs.YtfobmlicmbelnaaDoor.valueApart
