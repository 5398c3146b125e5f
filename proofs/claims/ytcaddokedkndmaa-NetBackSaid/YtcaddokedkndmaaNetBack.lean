/- droverlaw06.NetBack returns true whatever its arguments: a copy that is dropped, and one that is taken, leave all as it was; what is taken and sent again is the last one. For every input, without conditions. -/
import Derived.Test.YtcaddokedkndmaaRow
import Derived.Test.YtcaddokedkndmaaNf
import Derived.Test.YtcaddokedkndmaaNk
namespace Go.Proofs.Ytcaddokedkndmaa.netBack
open Go.ChangeShapes Go.WideShapes Go.ChangeAt Go.RowKit
set_option linter.unusedVariables false

theorem w64_succ (k j : Nat) (h : k + 1 = j) (hk : k ≤ 100) : wrap64 ((k : Int) + 1) = (j : Int) := by
  rw [IntWalk.wrap64_in _ ⟨by omega, by omega⟩]
  omega
theorem i64_succ (k j : Nat) (h : k + 1 = j) (hk : k ≤ 100) : IntKind.i64.wrap ((k : Int) + 1) = (j : Int) := by
  rw [IntWalk.i64_in _ (by omega)]
  omega

set_option maxRecDepth 100000 in
set_option maxHeartbeats 8000000 in
theorem walk (w : World) (a0 : Option Addr) (n0 c0 : Nat) (a1 : Int) (w0 : ∃ l, l.length = n0 ∧ n0 ≤ c0 ∧ c0 ≤ maxLen ∧ Grams w w.heap.size a0 l) (w1 : (Lit.int .i64 a1).wf = true) :
    Calls Try.prog 7 #[.slice a0 n0 c0, .int .i64 a1] w fun e w' => e = .returned (.bool true) ∧ Below w.heap.size w w' := by
  obtain ⟨l, hl, hc, hcm, hg⟩ := w0
  have HF := Lib.hid (filled_any a0 n0 c0 hl hc hcm hg)
  clear hl hc hcm hg
  go_enter Try.func7, Try.ntmps7
  go_wp2_with fail
  refine HF.out.mono ?_
  rintro e w1 ⟨v, r, rfl, hn1, hG1, hb1⟩
  obtain ⟨L, hL⟩ : ∃ L, L = fl (l.take 40) := ⟨_, rfl⟩
  have hlen := fl_len (l.take 40)
  have hmem := fl_mem (l.take 40)
  rw [List.length_take] at hlen
  rw [← hL] at hn1 hG1 hlen hmem
  clear hL
  have HM := Lib.hid hmem
  clear hmem
  obtain ⟨A, c, rfl, hc, hcm⟩ := hG1.slice
  unfold maxLen at hcm
  obtain ⟨m, hm⟩ : ∃ m, Hid (L.length = m) := ⟨_, Lib.hid rfl⟩
  rw [hm.out] at hc hlen
  have hm40 : m ≤ 40 := by omega
  have HV := Lib.hid hG1
  rw [show (Value.slice A L.length c) = .slice A m c by rw [hm.out]] at HV ⊢
  clear hG1 hlen
  go_wp2_with fail
  refine (holds_any hn1 HV.out).mono ?_
  rintro e w2 ⟨rfl, hb2⟩
  have HV2 := Lib.hid (HV.out.below hb2)
  have hn2 := hn1.below hb2
  have hbw := nxt hb1 hb2
  clear HV hn1 hb1 hb2
  by_cases h0 : m = 0
  · subst h0
    obtain rfl : L = [] := List.length_eq_zero_iff.1 hm.out
    go_wp2_with fail
    refine (copy_any6 hn2 0).mono ?_
    rintro e w3 ⟨rfl, ha3⟩
    rw [show copyE [] 0 = 2 from rfl]
    rw [show copyL [] 0 = [] from rfl] at ha3
    have hb3 := hbw.trans (ha3.low hn2)
    obtain ⟨r3, hn3, -, -⟩ := ha3
    go_wp2_with fail
    refine (drop_any hn3 0).mono ?_
    rintro e w4 ⟨rfl, ha4⟩
    rw [show hasB ([] : List Gr).length 0 = false from rfl]
    have hb4 := hb3.trans (ha4.low hn3)
    go_wp2_with fail
    refine (awake06_any _).mono ?_
    rintro e w9 ⟨rfl, hb9⟩
    go_wp2_with fail
    go_ret
    exact ⟨rfl, nxt hb4 hb9⟩
  obtain ⟨x, k, hk, hx⟩ : ∃ (x : Gr) (k : Nat), (a1 % (m : Int) = (k : Int) ∧ k < m) ∧ Hid (L[k]? = some x) := by
    have h1 := Int.emod_nonneg a1 (show (m : Int) ≠ 0 by omega)
    have h2 := Int.emod_lt_of_pos a1 (show (0 : Int) < (m : Int) by omega)
    have h3 : (a1 % (m : Int)).toNat < L.length := by have := hm.out; omega
    exact ⟨L[(a1 % (m : Int)).toNat], (a1 % (m : Int)).toNat, ⟨by omega, by omega⟩, Lib.hid (List.getElem?_eq_getElem h3)⟩
  obtain ⟨hk, hkm⟩ := hk
  have d0 : ((m : Int) == 0) = false := beq_eq_false_iff_ne.2 (by omega)
  have d1 : decide (m = 0) = false := decide_eq_false h0
  go_wp2_with fail
  refine (pick_any a1 (m : Int) _ (by omega) (by omega)).mono ?_
  rintro e w3 ⟨rfl, rfl⟩
  rw [hk]
  clear d0 d1 hk
  have hnl : Hid (nthG L (k : Int) = some x) := Lib.hid (by unfold nthG; rw [if_pos (by omega)]; simpa using hx.out)
  have hE : copyE L (k : Int) = 0 := by
    unfold copyE
    rw [show hasB L.length (k : Int) = true by rw [hm.out]; simp [hasB, hkm], if_neg (by simp), if_neg (by rw [hm.out]; omega)]
  have hLx : copyL L (k : Int) = L ++ [x] := by
    unfold copyL
    rw [if_neg (by rw [hm.out]; omega), hnl.out]
  have HE := Lib.hid hE
  have HLx := Lib.hid hLx
  have HD : Hid (dropL (L ++ [x]) (m : Int) = L) := Lib.hid (by
    unfold dropL
    rw [if_pos (by omega), ← hm.out]
    simp [List.eraseIdx_append_of_length_le])
  have HB : Hid (hasB (L ++ [x]).length (m : Int) = true) := Lib.hid (by simp [hasB, hm.out]; omega)
  have HT : Hid (nthG (L ++ [x]) (m : Int) = some x) := Lib.hid (by unfold nthG; rw [if_pos (by omega), ← hm.out]; simp)
  clear hE hLx
  go_wp2_with fail
  refine (copy_any6 hn2 (k : Int)).mono ?_
  rintro e w4 ⟨rfl, ha4⟩
  rw [HE.out]
  rw [HLx.out] at ha4
  have HV4 := Lib.hid (HV2.out.aft hn2 ha4)
  have hb4 := hbw.trans (ha4.low hn2)
  obtain ⟨r4, hn4, -, -⟩ := ha4
  clear HV2 hn2 hbw
  go_wp2_with fail
  refine (drop_any hn4 (m : Int)).mono ?_
  rintro e w5 ⟨rfl, ha5⟩
  rw [HB.out]
  rw [HD.out] at ha5
  have HV5 := Lib.hid (HV4.out.aft hn4 ha5)
  have hb5 := hb4.trans (ha5.low hn4)
  obtain ⟨r5, hn5, -, -⟩ := ha5
  clear HV4 hn4 hb4
  go_wp2_with fail
  refine (holds_any hn5 HV5.out).mono ?_
  rintro e w6 ⟨rfl, hb6⟩
  have HV6 := Lib.hid (HV5.out.below hb6)
  have hn6 := hn5.below hb6
  have hbw := nxt hb5 hb6
  clear HV5 hn5 hb5 hb6
  go_wp2_with fail
  refine (copy_any6 hn6 (k : Int)).mono ?_
  rintro e w7 ⟨rfl, ha7⟩
  rw [HE.out]
  rw [HLx.out] at ha7
  have HV7 := Lib.hid (HV6.out.aft hn6 ha7)
  have hb7 := hbw.trans (ha7.low hn6)
  obtain ⟨r7, hn7, -, -⟩ := ha7
  clear HV6 hn6 hbw
  go_wp2_with fail
  refine (take_any hn7 (m : Int)).mono ?_
  rintro e w8 ⟨ha8, he⟩
  rw [HT.out] at he
  obtain ⟨b, cc, cur, fr, rfl, hbl, hbh, hbs, hfr⟩ := he
  rw [HD.out] at ha8
  have HV8 := HV7.out.aft hn7 ha8
  have hb8 := hb7.trans (ha8.low hn7)
  obtain ⟨r8, hn8, -, -⟩ := ha8
  have ho := (Below.refl w8.heap.size w8).alloc (Nat.le_refl _) (.cells #[.int .i64 x.fr, .int .i64 x.to, .slice (some ⟨b, 0, none⟩) x.d.length cc] 29)
  have hq8 := heap_new w8 (.cells #[.int .i64 x.fr, .int .i64 x.to, .slice (some ⟨b, 0, none⟩) x.d.length cc] 29)
  have HX8 := Lib.hid ((Bx.of_blk (base := w.heap.size) hbs hbh).below ho)
  have HV9 := Lib.hid (HV8.below ho)
  have hn9 := hn8.below ho
  have hb9 := nxt hb8 ho
  clear HV7 hn7 hb7 HV8 hn8 hb8 ho hbl hbh hbs hfr HE HLx HD HB HT
  obtain ⟨W, hW⟩ : ∃ W, W = w8.alloc (.cells #[.int .i64 x.fr, .int .i64 x.to, .slice (some ⟨b, 0, none⟩) x.d.length cc] 29) := ⟨_, rfl⟩
  obtain ⟨B, hB⟩ : ∃ B, B = w8.heap.size := ⟨_, rfl⟩
  go_upto_region 10 with fail
  rw [← hW] at hq8 HX8 HV9 hn9 hb9 ⊢
  rw [← hB] at hq8 ⊢
  clear hW hB
  obtain ⟨g, u, rfl, t0, t1, t2, hbx⟩ := HV9.out.cell hx.out
  have hbu := Lib.hid hbx.bs
  have hbs := Lib.hid HX8.out.bs
  obtain ⟨⟨c0, c1, c2⟩, -⟩ := box3 hq8
  have hgW : g < W.heap.size := World.block_lt_of_cell? W _ t0
  have HN9 := Lib.hid hn9
  have HQ8 := Lib.hid hq8
  clear hbx hn9 hq8
  go_cut [92] from 76 to 92 (fun s wx => s = .bool false ∧ Below W.heap.size W wx)
  case first =>
    go_region_held3 (fun w' => (w'.cell? ⟨B, 0, none⟩ = some (.int .i64 x.fr) ∧ w'.cell? ⟨B, 1, none⟩ = some (.int .i64 x.to) ∧ w'.cell? ⟨B, 2, none⟩ = some (.slice (some ⟨b, 0, none⟩) x.d.length cc)) ∧
        (w'.cell? ⟨g, k * 3, none⟩ = some (.int .i64 x.fr) ∧ w'.cell? ⟨g, k * 3 + 1, none⟩ = some (.int .i64 x.to) ∧ w'.cell? ⟨g, k * 3 + 2, none⟩ = some u)) (go_keep)
      (first
        | (go_at_call 24
           refine (samegr_any _ _ x ⟨_, rfl, hbs.out.drew⟩ ⟨_, rfl, hbu.out.drew⟩).mono ?_
           rintro e w10 ⟨rfl, hb10'⟩
           have hb10 := of_drew6 hb10'
           obtain ⟨⟨f0, f1, f2⟩, -⟩ := box3 (heap_below HQ8.out hb10)
           have r0 := (hb10.cell (p := ⟨g, k * 3, none⟩) hgW).trans t0
           have r1 := (hb10.cell (p := ⟨g, k * 3 + 1, none⟩) hgW).trans t1
           have r2 := (hb10.cell (p := ⟨g, k * 3 + 2, none⟩) hgW).trans t2)
        | (go_at_call 28
           refine (holds_any (HN9.out.below hb10) (HV9.out.below hb10)).mono ?_
           rintro e w11 ⟨rfl, hb11⟩
           have hb10 := nxt hb10 hb11
           obtain ⟨⟨f0, f1, f2⟩, -⟩ := box3 (heap_below HQ8.out hb10)
           have r0 := (hb10.cell (p := ⟨g, k * 3, none⟩) hgW).trans t0
           have r1 := (hb10.cell (p := ⟨g, k * 3 + 1, none⟩) hgW).trans t1
           have r2 := (hb10.cell (p := ⟨g, k * 3 + 2, none⟩) hgW).trans t2)
        | (fail))
    all_goals
      go_wp2_with fail
      go_meet
      exact ⟨rfl, hb10⟩
  case rest =>
    obtain ⟨rfl, hcut⟩ := hcut
    have hnA := HN9.out.below hcut
    have hVA := HV9.out.below hcut
    have hbA := nxt hb9 hcut
    clear HN9 HV9 HQ8 HX8 hbs hbu t0 t1 t2 c0 c1 c2 hgW hcut
    go_wp2_with fail
    refine (take_any hnA (k : Int)).mono ?_
    rintro e w12 ⟨haB, he⟩
    rw [hnl.out] at he
    obtain ⟨b2, cc2, cur2, fr2, rfl, hbl, hbh, hbs, hfr⟩ := he
    have hVB := hVA.aft hnA haB
    have hbB := hbA.trans (haB.low hnA)
    obtain ⟨r12, hnB, -, -⟩ := haB
    rw [show dropL L (k : Int) = L.eraseIdx k by unfold dropL; rw [if_pos (by omega)]; simp] at hnB
    have ho := (Below.refl w12.heap.size w12).alloc (Nat.le_refl _) (.cells #[.int .i64 x.fr, .int .i64 x.to, .slice (some ⟨b2, 0, none⟩) x.d.length cc2] 29)
    have hqC := heap_new w12 (.cells #[.int .i64 x.fr, .int .i64 x.to, .slice (some ⟨b2, 0, none⟩) x.d.length cc2] 29)
    have HXC := Lib.hid ((Bx.of_blk (base := w.heap.size) hbs hbh).below ho)
    have HVC := Lib.hid (hVB.below ho)
    have hnC := hnB.below ho
    have hbC := nxt hbB ho
    clear hnA hVA hbA hVB hnB hbB ho hbl hbh hbs hfr
    obtain ⟨W2, hW2⟩ : ∃ W, W = w12.alloc (.cells #[.int .i64 x.fr, .int .i64 x.to, .slice (some ⟨b2, 0, none⟩) x.d.length cc2] 29) := ⟨_, rfl⟩
    obtain ⟨B2, hB2⟩ : ∃ B, B = w12.heap.size := ⟨_, rfl⟩
    go_upto_region 14 with fail
    rw [← hW2] at hqC HXC HVC hnC hbC ⊢
    rw [← hB2] at hqC ⊢
    clear hW2 hB2
    have HNC := Lib.hid hnC
    have HQC := Lib.hid hqC
    have hml := hm.out
    obtain ⟨j, hj⟩ : ∃ j, k + 1 = j := ⟨_, rfl⟩
    obtain ⟨ys1, hat1, hcs1, hyl1, hon1⟩ := HVC.out.first k (by omega)
    obtain ⟨A', hA'⟩ : ∃ A' : Option Addr, (if c = j then some (⟨g, 0, none⟩ : Addr) else some ⟨g, j * 3, none⟩) = A' := ⟨_, rfl⟩
    obtain ⟨ys2, hat2, hcs2, hyl2, hon2⟩ := HVC.out.behind j (by omega) A' (by
      intro h1 g' h2
      rw [← hA', if_neg (by omega)]
      injection h2 with h2
      injection h2 with h2
      rw [h2])
    have hgl := (HVC.out.blk (g := g) rfl).2.1
    have hlt1 : (L.take k).length = k := by rw [List.length_take]; omega
    have hlt2 : (L.drop j).length = m - j := by rw [List.length_drop, hml]
    rw [show (L.length - j) = m - j by omega] at hyl2
    have hER : L.take k ++ L.drop j = L.eraseIdx k := by rw [← hj]; exact (List.eraseIdx_eq_take_drop_succ L k).symm
    have H1 := Lib.hid (show At W2.drew W2.drew.heap.size (some ⟨g, 0, none⟩) ys1 from hat1)
    have H2 := Lib.hid hat2
    have C1 := Lib.hid (show Gcs W2.drew w.heap.size ys1 (L.take k) from hcs1)
    have C2 := Lib.hid hcs2
    have O1 := Lib.hid hon1
    have O2 := Lib.hid hon2
    have Y1 := Lib.hid hyl1
    have Y2 := Lib.hid hyl2
    have T1 := Lib.hid hlt1
    have T2 := Lib.hid hlt2
    have ER := Lib.hid hER
    have hsz := hbC.size
    have hszd : w.heap.size ≤ W2.drew.heap.size := hsz
    have hkc : k ≤ c := by omega
    have hjc : j ≤ c := by omega
    have hjm : j ≤ m := by omega
    have hw1 := w64_succ k j hj (by omega)
    have hw2 := i64_succ k j hj (Nat.le_of_lt (Nat.lt_of_lt_of_le hkm (Nat.le_trans hm40 (by decide))))
    have HJ := Lib.hid hj
    clear hat1 hat2 hcs1 hcs2 hon1 hon2 hyl1 hyl2 hlt1 hlt2 hER hml hnC hqC hj
    go_cut [13] from 99 to 108 (fun s wx => GR wx w.heap.size s (L.eraseIdx k) ∧ Below W2.heap.size W2 wx)
    case first =>
      go_region_law
        (first
          | (refine step_gr (v := v13) (base := w.heap.size) (w := w13) (A := A') (m := m - j) (c := c - j) (ys := ys2) (l' := L.drop j) rfl (.tmp 103) (.tmp 107) rfl (by simp [Act.eval, Act.put]) hG13 (by simp [Act.eval, Act.put, hA']) hat13 T2.out hcs13 Y2.out O2.out (by rw [hl13]; omega) (Nat.le_trans hsz hb13.size) ?_
             intro v14 w14 hG14 hg14 _ hr14
             have hb14 : Below W2.heap.size W2 w14 := below_row hb13 hg14 hb13.size (fun g h => by
               rcases hr13 with hr | hr
               · rw [hr] at h
                 cases h
               · rw [hr] at h
                 exact Nat.le_of_eq (Option.some.inj h)))
          | (refine step_gr (v := .slice none 0 0) (l := []) (base := w.heap.size) (w := W2.drew) (A := some ⟨g, 0, none⟩) (m := k) (c := c) (ys := ys1) (l' := L.take k) rfl (.tmp 99) (.tmp 102) rfl (by simp [Act.eval, Act.put]) (GR.nil _ _) (by simp [Act.eval, Act.put]) H1.out T1.out C1.out Y1.out O1.out (by simp; omega) hszd ?_
             intro v13 w13 hG13 hg13 _ hr13
             have hb13 : Below W2.heap.size W2 w13 := below_row (bel_drew (Below.refl _ W2)) hg13 (Nat.le_refl _) (fun g h => by cases h)
             have hat13 := (H2.out.below hb13).more hb13.size
             have hcs13 := C2.out.below hb13
             have hl13 : (([] : List Gr) ++ L.take k).length = k := by rw [List.nil_append, T1.out])
          | (fail))
      all_goals
        go_wp2_with fail
        go_meet
        refine ⟨?_, hb14⟩
        rw [List.nil_append, ER.out] at hG14
        exact hG14
    case rest =>
      obtain ⟨hG, hbW⟩ := hcut
      have hnD := HNC.out.below hbW
      have HVD := Lib.hid (HVC.out.below hbW)
      have HXD := Lib.hid (HXC.out.below hbW)
      have hqD := heap_below HQC.out hbW
      have hbD := nxt hbC hbW
      have hGs := Lib.hid hG
      obtain ⟨Ar, cr, rfl, hcr, hcmr⟩ := hG.slice
      have hEl : (L.eraseIdx k).length = m - 1 := by rw [List.length_eraseIdx, if_pos (by rw [hm.out]; exact hkm), hm.out]
      have hxm := HM.out x (List.mem_of_getElem? hx.out)
      have hsE : sendE 3 (L.eraseIdx k) x.fr x.to x.d = 0 ∧ sendL 3 (L.eraseIdx k) x.fr x.to x.d = L.eraseIdx k ++ [x] := by
        obtain ⟨⟨h1, h2⟩, ⟨h3, h4⟩, h5⟩ := hxm
        have b1 : hasB 3 x.fr = true := by simp [hasB]; exact ⟨h1, h2⟩
        have b2 : hasB 3 x.to = true := by simp [hasB]; exact ⟨h3, h4⟩
        have b3 : ¬ 4096 ≤ (L.eraseIdx k).length := by rw [hEl]; have := hm40; clear hw1 hw2 hcm hcmr; omega
        have hE : sendE 3 (L.eraseIdx k) x.fr x.to x.d = 0 := by
          unfold sendE
          rw [b1, b2, if_neg (by simp), if_neg (by simp), if_neg (by clear hw1 hw2 hcm hcmr; omega), if_neg b3]
        refine ⟨hE, ?_⟩
        unfold sendL
        rw [if_pos hE]
      obtain ⟨n', hn'⟩ : ∃ n', Hid ((L.eraseIdx k).length = n') := ⟨_, Lib.hid rfl⟩
      rw [show (Value.slice Ar (L.eraseIdx k).length cr) = .slice Ar n' cr by rw [hn'.out]] at hGs ⊢
      have HSE := Lib.hid hsE
      have hn40 : n' ≤ 40 := by rw [← hn'.out, hEl]; clear hw1 hw2 hcm hcmr; omega
      have hcr' : n' ≤ cr := by rw [← hn'.out]; exact hcr
      obtain ⟨g2, u, hge, t0, t1, t2, hbx⟩ := HVD.out.cell hx.out
      obtain rfl : g2 = g := by injection hge with hge; injection hge with hge; exact hge.symm
      have hbu := Lib.hid hbx.bs
      have hbs := Lib.hid HXD.out.bs
      obtain ⟨⟨c0, c1, c2⟩, -⟩ := box3 hqD
      have hgW : g2 < wc.heap.size := World.block_lt_of_cell? wc _ t0
      obtain ⟨-, -, cur3, hgc⟩ := HVD.out.blk (g := g2) rfl
      have HGC := Lib.hid hgc
      have HND := Lib.hid hnD
      have HQD := Lib.hid hqD
      have HBD := Lib.hid hbD
      clear hEl hxm hsE hcr hcmr hG HNC HQC HXC HVC hbW hbC hge hbx hnD hqD hbD hgc hw1 hw2 hA' H1 H2 C1 C2 O1 O2 Y1 Y2 T1 T2 ER hgl hsz hszd hkc hjc hjm HJ
      go_upto_region 15 with fail
      go_cut [136] from 109 to 136 (fun s wx => s = .bool false ∧ (∃ r, NtAt wx w.heap.size w.heap.size r 3 (L.eraseIdx k ++ [x])) ∧ GR wx w.heap.size (.slice Ar n' cr) (L.eraseIdx k) ∧ Bx wx w.heap.size (.slice (some ⟨b2, 0, none⟩) x.d.length cc2) x.d ∧ wx.heap[B2]? = some (.cells #[.int .i64 x.fr, .int .i64 x.to, .slice (some ⟨b2, 0, none⟩) x.d.length cc2] 29 (0, 0)) ∧ Below w.heap.size w wx)
      case first =>
        have hkm' : k < m := hkm
        go_region_held3 (fun w' => (w'.cell? ⟨B2, 0, none⟩ = some (.int .i64 x.fr) ∧ w'.cell? ⟨B2, 1, none⟩ = some (.int .i64 x.to) ∧ w'.cell? ⟨B2, 2, none⟩ = some (.slice (some ⟨b2, 0, none⟩) x.d.length cc2)) ∧
            (w'.cell? ⟨g2, k * 3, none⟩ = some (.int .i64 x.fr) ∧ w'.cell? ⟨g2, k * 3 + 1, none⟩ = some (.int .i64 x.to) ∧ w'.cell? ⟨g2, k * 3 + 2, none⟩ = some u)) (go_keep)
          (first
            | (go_at_call 24
               refine (samegr_any _ _ x ⟨_, rfl, hbs.out.drew⟩ ⟨_, rfl, hbu.out.drew⟩).mono ?_
               rintro e w20 ⟨rfl, hb20'⟩
               have hb20 := of_drew6 hb20'
               obtain ⟨⟨f0, f1, f2⟩, -⟩ := box3 (heap_below HQD.out hb20)
               have r0 := (hb20.cell (p := ⟨g2, k * 3, none⟩) hgW).trans t0
               have r1 := (hb20.cell (p := ⟨g2, k * 3 + 1, none⟩) hgW).trans t1
               have r2 := (hb20.cell (p := ⟨g2, k * 3 + 2, none⟩) hgW).trans t2)
            | (go_at_call 28
               refine (holds_any (HND.out.below hb20) (hGs.out.below hb20)).mono ?_
               rintro e w21 ⟨rfl, hb21'⟩
               have hb21 := nxt hb20 hb21'
               obtain ⟨⟨f0, f1, f2⟩, -⟩ := box3 (heap_below HQD.out hb21)
               have r0 := (hb21.cell (p := ⟨g2, k * 3, none⟩) hgW).trans t0
               have r1 := (hb21.cell (p := ⟨g2, k * 3 + 1, none⟩) hgW).trans t1
               have r2 := (hb21.cell (p := ⟨g2, k * 3 + 2, none⟩) hgW).trans t2)
            | (go_at_call 11
               refine (send_any (HND.out.below hb21) x.fr x.to _ x.d (HXD.out.below hb21).bs).mono ?_
               rw [HSE.out.1, HSE.out.2]
               rintro e w22 ⟨rfl, ha22⟩
               have hgk := ha22.keep (HND.out.below hb21) (heap_below HGC.out hb21) (by decide) (by decide)
               have hqk := ha22.keep (HND.out.below hb21) (heap_below HQD.out hb21) (by decide) (by decide)
               obtain ⟨⟨f0, f1, f2⟩, -⟩ := box3 hqk
               have hck : ∀ o, w22.cell? ⟨g2, o, none⟩ = w21.cell? ⟨g2, o, none⟩ := fun o => cell_heap (hgk.trans (heap_below HGC.out hb21).symm)
               have r0 := (hck _).trans r0
               have r1 := (hck _).trans r1
               have r2 := (hck _).trans r2
               have hGk := (hGs.out.below hb21).aft (HND.out.below hb21) ha22
               have hXk := ha22.bx (HND.out.below hb21) (HXD.out.below hb21)
               have hbk := (nxt HBD.out hb21).trans (ha22.low (HND.out.below hb21))
               obtain ⟨r22, hn22, -, -⟩ := ha22)
            | (fail))
        all_goals
          clear c0 c1 c2 t0 t1 t2 f0 f1 f2 r0 r1 r2
          go_wp2_with fail
          go_meet
          exact ⟨rfl, ⟨r22, hn22⟩, hGk, hXk, hqk, hbk⟩
      case rest =>
        obtain ⟨rfl, ⟨r3, hn3⟩, hG3, hX3, hq3, hb3⟩ := hcut
        clear c0 c1 c2 t0 t1 t2 hgW HND HQD HBD HGC hGs HXD HVD hbs hbu
        obtain ⟨⟨c0, c1, c2⟩, -⟩ := box3 hq3
        have hoA := (Below.refl wc.heap.size wc).alloc (Nat.le_refl _) (.cells #[.int .i64 x.fr, .int .i64 x.to, .slice (some ⟨b2, 0, none⟩) x.d.length cc2] 29)
        have hnA := hn3.below hoA
        have hGA := hG3.below hoA
        have hbA := hb3.trans (hoA.mono hb3.size)
        have hat := gm_at wc (.int .i64 x.fr) (.int .i64 x.to) (.slice (some ⟨b2, 0, none⟩) x.d.length cc2)
        have HCS := Lib.hid (Gcs.one (x := x) (hX3.below hoA))
        have H1 := Lib.hid (gm_ones (y0 := .int .i64 x.fr) (y1 := .int .i64 x.to) (y2 := .slice (some ⟨b2, 0, none⟩) x.d.length cc2) rfl rfl rfl)
        have hsz := hb3.size
        clear hG3 hn3 hX3 hq3 hoA
        go_wp2_with (at_builtin
                     refine wpList_gr rfl (.tmp 138) (.tmp 140) rfl rfl hGA rfl hat rfl HCS.out rfl H1.out (by have := hn'.out; omega) (by simp; omega) ?_
                     intro v10 w10 hG10 hg10 hr10 hn10)
        have hn10' := hnA.rowgrown hg10 hr10
        have hb10 : Below w.heap.size w w10 := below_row hbA hg10 (by simp; omega) (fun g hg => (hr10 g hg).1)
        clear hg10 hr10 hn10 hat hnA hGA hbA hb3 c0 c1 c2
        go_wp2_with fail
        refine (holds_any hn10' hG10).mono ?_
        rintro e w11 ⟨rfl, hb11⟩
        go_wp2_with fail
        refine (awake06_any _).mono ?_
        rintro e w12 ⟨rfl, hb12⟩
        go_wp2_with fail
        go_ret
        exact ⟨rfl, nxt (nxt hb10 hb11) hb12⟩

set_option maxRecDepth 100000 in
theorem lifted (os : Os) (started : os.Started) (H : Type) (enc : TypeId × Value → H) :
    ReturnsInHanded {} Try.checked os 7 .any (Rows.netBackSpec.pre6 enc Try.prog Try.f7 Rows.netBackRow.domain false) (Rows.netBackSpec.post enc Try.prog Try.f7 false true false false) := by
  refine returnsInHanded_of_change (C := Try.checked) knob_own started (by kernel_rfl) Try.func7
    (ChangeSpec.witness6 (enc := enc) (C := Try.checked) false ⟨#[], #[.slice none 0 0, .int .i64 0], []⟩ 8 (by kernel_rfl) (by kernel_rfl) (by kernel_rfl) (by kernel_rfl)) ?_
  intro W base args ds gs before hval0 hW hcnd _
  have hval : ∀ (j : Nat) t v, Try.f7.params[j]? = some t → args[j]? = some v → Value.okWide Try.prog W .any base t v := hval0
  have hW' := hW
  obtain ⟨p, q, hA0, hV, rfl, hfz, hnd⟩ := hW
  have hA : DataW.TrodAll enc Try.prog W 0 (fun _ => true) true Try.f7.params.toList args.toList ds p := hA0
  rw [Try.params7] at hA hval
  obtain ⟨v0, vs0, d0, ds0, p0, q0, hargs, rfl, rfl, h0, r0⟩ := trodAll_cons hA
  obtain ⟨v1, vs1, d1, ds1, p1, q1, rfl, rfl, rfl, h1, r1⟩ := trodAll_cons r0
  obtain ⟨rfl, rfl, rfl⟩ := trodAll_nil r1
  obtain rfl : args = #[v0, v1] := by cases args; simp_all
  obtain ⟨rfl, rfl⟩ := trodVars_none hV
  obtain ⟨a0, n0, c0, rfl⟩ := okWide_slice Try.underlying38 (hval 0 38 v0 rfl rfl)
  have k0 := h0
  have lt0 : ∀ x ∈ p0, x.block < W.heap.size := by obtain ⟨m, hm⟩ := k0; exact DataW.trod_lt m _ _ _ hm
  have w0 := grams_open h0
  have lt1 : ∀ x ∈ p1, x.block < W.heap.size := by obtain ⟨m, hm⟩ := h1; exact DataW.trod_lt m _ _ _ hm
  have k1 := h1
  obtain ⟨a1, rfl, _, _, w1⟩ := open_int Try.underlying3 (hval 1 3 v1 rfl rfl) h1
  clear hA0 hval0
  refine (walk W a0 n0 c0 a1 w0 w1).mono fun e W' ⟨he, bel⟩ => ?_
  subst he
  exact ⟨_, rfl, _, _, _, [], _, [], hW', trodAll_mk1 (shut_bool Try.underlying4 _), (trodAll_cons_mk (Below.trod laid_out (by kernel_rfl) (of_decide_eq_true (by kernel_rfl)) k0 bel lt0) (trodAll_cons_mk (Below.trod laid_out (by kernel_rfl) (of_decide_eq_true (by kernel_rfl)) k1 bel lt1) (trodAll_mk0))), rfl, bel.frame _, fun h => by cases h⟩

theorem over : Rows.netBackRow.holds Try.pinned (OpenSpec.ofChange Rows.netBackSpec) :=
  OpenClaim.holds_of_wide 7 Try.f7 rfl rfl rfl rfl rfl rfl rfl ⟨rfl, rfl, rfl, rfl, rfl⟩ rfl rfl rfl rfl rfl (by kernel_rfl) Try.func7 (by kernel_rfl)
    (of_decide_eq_true (by kernel_rfl)) (by unfold Func.isWrapper; first | (rw [if_pos (by decide +kernel)]; kernel_rfl) | (rw [if_neg (by decide +kernel)]; exact ⟨rfl, rfl⟩))
    (fun os started H enc _ => lifted os started H enc)

theorem proved : Rows.NetBackSaid := over
end Go.Proofs.Ytcaddokedkndmaa.netBack
