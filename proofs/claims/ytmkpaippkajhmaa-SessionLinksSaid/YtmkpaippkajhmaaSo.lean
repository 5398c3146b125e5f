/- droverlaw07.packed, filled: the walks. -/
import Derived.Test.YtmkpaippkajhmaaSm
import Derived.Test.YtmkpaippkajhmaaBrw
namespace Go.Proofs.Ytmkpaippkajhmaa
open Go.RowKit
set_option linter.unusedVariables false

set_option maxHeartbeats 800000 in
theorem packed_any (life seq ack : Nat) (x y z : Int) (hx : x = life) (hy : y = seq) (hz : z = ack) (v : Value) (d : List Nat) (w : World) (hd : Bs w v d) (hr : pright ⟨1, life, seq, ack, d⟩ = true) :
    Calls Try.prog 44 #[.int .i64 x, .int .i64 y, .int .i64 z, v] w fun e w' => BlobP (pkb ⟨1, life, seq, ack, d⟩) w e w' := by
  subst hx hy hz
  obtain ⟨a1, a2, a3, a4, a5, a6⟩ := pright_iff.1 hr
  unfold big at a1 a2 a3 a4
  dsimp only at a1 a2 a3 a4 a5 a6
  obtain ⟨⟨A, c, rfl, hc, -⟩, -⟩ := id hd
  have HP := Lib.hid (pack_any (1 : Int) (life : Int) (seq : Int) (ack : Int) d A c w hd (by omega) (by omega) (by omega) (by omega))
  have hpi : pint (1 : Int) (life : Int) (seq : Int) (ack : Int) d = true := pint_ok (f := 1) (by unfold big; omega) (by unfold big; omega) (by unfold big; omega) (by unfold big; omega) a5 (by
    by_cases h : seq = 0
    · exact .inr (a6 h)
    · exact .inl h)
  rw [hpi] at HP
  have HPK : Hid (penc ⟨(1 : Int).toNat, (life : Int).toNat, (seq : Int).toNat, (ack : Int).toNat, d⟩ ++ be4 (crcN (penc ⟨(1 : Int).toNat, (life : Int).toNat, (seq : Int).toNat, (ack : Int).toNat, d⟩)) = pkb ⟨1, life, seq, ack, d⟩) := Lib.hid rfl
  clear hd hr hpi a6
  go_enter Try.func44, Try.ntmps44
  go_wp2_with fail
  refine HP.out.mono ?_
  rintro e w2 ⟨hb2, -, hB⟩
  obtain ⟨u, rfl, ho2, hs2⟩ := hB rfl
  rw [HPK.out] at ho2 hs2
  obtain ⟨A', c', rfl, -⟩ := ho2.form
  have HO := Lib.hid ho2
  have HS := Lib.hid hs2
  clear ho2 hs2 hB
  go_wp2_with fail
  go_ret
  exact ⟨A', c', rfl, HO.out, HS.out, hb2⟩
/-- What filled takes of the items: the first forty, of at most twenty bytes. -/
def flt (ll : List (List Nat)) : List (List Nat) := (ll.take 40).filter fun x => decide (x.length ≤ 20)
theorem flt_snoc (ll : List (List Nat)) (j : Nat) (hj : j < 40) (x : List Nat) (hx : ll[j]? = some x) : flt (ll.take (j + 1)) = if x.length ≤ 20 then flt (ll.take j) ++ [x] else flt (ll.take j) := by
  have h0 := List.getElem?_eq_some_iff.1 hx
  unfold flt
  rw [List.take_take, List.take_take, Nat.min_eq_right (by omega), Nat.min_eq_right (by omega), List.take_succ_eq_append_getElem h0.1, List.filter_append, h0.2]
  by_cases h : x.length ≤ 20 <;> simp [h]
theorem flt_len (ll : List (List Nat)) : (flt ll).length ≤ 40 := by
  unfold flt
  refine Nat.le_trans (List.length_filter_le _ _) ?_
  rw [List.length_take]
  omega
theorem flt_short (ll : List (List Nat)) : ∀ x ∈ flt ll, x.length ≤ 20 := by
  intro x hx
  unfold flt at hx
  simpa using (List.mem_filter.1 hx).2
/-- The session that filled makes. -/
def stF (life : Nat) (F : List (List Nat)) : Se := ⟨0, 1, life, F.length, 0, 0, 0, F⟩
theorem stF_send (life : Nat) (F : List (List Nat)) (x : List Nat) (hF : F.length ≤ 40) (hx : x.length ≤ 20) : (stF life F).sendE x = 0 ∧ (stF life F).send x = stF life (F ++ [x]) ∧ (stF life F).sendN x = F.length + 1 := by
  have h0 : (stF life F).sendE x = 0 := by
    unfold Se.sendE stF
    rw [if_neg (by omega), if_neg (by show ¬ 1024 ≤ F.length; omega)]
  refine ⟨h0, ?_, ?_⟩
  · unfold Se.send
    rw [if_pos h0]
    unfold stF
    simp
  · unfold Se.sendN
    rw [if_pos h0]
    rfl
def FilledP (life : Nat) (F : List (List Nat)) (w : World) (e : Ending) (w' : World) : Prop := ∃ q r A c, e = .returned (.tuple #[.pointer (some ⟨q, 0, none⟩), .slice A F.length c, .bool true]) ∧ SeAt w' w.heap.size q r (stF life F) ∧ RB w' w.heap.size (.slice A F.length c) F ∧ Below w.heap.size w w'
theorem SeAt.grownRB {w w' : World} {base base' q : Nat} {r : Option Nat} {p : Se} {u : Value} {ll : List (List Nat)} (h : SeAt w base q r p) (hu : RB w base' u ll) (hg : w.grownBy w' u.ownBlock) : SeAt w' base q r p := by
  obtain ⟨v, L, h0, -, ho, hh, -⟩ := id h
  refine h.keep hg.size (hg.block q h.lt (fun e => hu.ne hh (by decide) e.symm)) (fun g hg' => hg.block g (h.row_lt hg').2 (fun e => ?_)) (fun b cur fr hb => hg.block b (lt_heap hb) (fun e => hu.ne hb (by decide) e.symm))
  obtain ⟨_, cur, hc⟩ := irow_blk ho (h0.trans hg')
  exact hu.ne hc (by decide) e.symm
theorem BRows.bx {w : World} {a : Option Addr} {n c j : Nat} {ll : List (List Nat)} (h : BRows w a n c ll) (hj : j < n) : ∃ b o A k, a = some ⟨b, o, none⟩ ∧ b < w.heap.size ∧ w.cell? ⟨b, o + j, none⟩ = some (.slice A (ll.getD j []).length k) ∧ Bx w w.heap.size (.slice A (ll.getD j []).length k) (ll.getD j []) := by
  obtain ⟨b, o, h1, h2, h3⟩ := h.row (by omega)
  obtain ⟨A, k, h4, h5⟩ := h3 j hj
  exact ⟨b, o, A, k, h1, h2, h4, Bx.of_bs h5 (Nat.le_refl _)⟩
set_option maxRecDepth 100000 in
set_option maxHeartbeats 3200000 in
theorem filled_any (life : Nat) (x : Int) (hx : x = life) (h1 : 1 ≤ life ∧ life ≤ 2305843009213693952) (a : Option Addr) (n c : Nat) (ll : List (List Nat)) (w : World) (hr : BRows w a n c ll) :
    Calls Try.prog 42 #[.int .i64 x, .slice a n c] w fun e w' => FilledP life (flt ll) w e w' := by
  subst hx
  have HR := Lib.hid hr
  have hcap := hr.cap
  have HLL := Lib.hid hr.len
  clear hr
  go_enter Try.func42, Try.ntmps42
  go_wp2_with fail
  refine (new0_any 0 1 life 0 1 life rfl rfl rfl w (by omega) (by omega) h1).mono ?_
  rintro e w1 ⟨q, r, rfl, hs1, hb1⟩
  have HS1 : Hid (SeAt w1 w.heap.size q r (stF life [])) := Lib.hid hs1
  clear hs1
  go_wp2_with fail
  go_loopw [9, 10] (fun u i wr => ∃ (j : Nat) (r : Option Nat), j ≤ n ∧ j ≤ 40 ∧ i = .int .i64 (j : Int) ∧ Hid (SeAt wr w.heap.size q r (stF life (flt (ll.take j)))) ∧ Hid (RB wr w.heap.size u (flt (ll.take j))) ∧ Below w.heap.size w wr) (fun _ i _ => 41 - (intOf i).toNat)
  case atStart => exact ⟨0, r, by omega, by omega, rfl, HS1, Lib.hid (RB.nil _ _), hb1⟩
  case round =>
    obtain ⟨j, rr, hj, hj40, rfl, HS, HRB, hbr⟩ := hrel
    by_cases hlt : j < n
    · by_cases h40 : j < 40
      · have hjl : j < ll.length := by have := HLL.out; omega
        obtain ⟨b, o, A1, k1, hab, hbl, t0', hbx'⟩ := HR.out.bx hlt
        have hbx := hbx'.below hbr
        have t0 := (hbr.cell (p := ⟨b, o + j, none⟩) hbl).trans t0'
        obtain ⟨xx, hxx⟩ : ∃ xx, Hid (xx = ll.getD j []) := ⟨_, Lib.hid rfl⟩
        rw [← hxx.out] at t0 hbx
        have hxg : Hid (ll[j]? = some xx) := Lib.hid (by rw [hxx.out, List.getD_eq_getElem?_getD, List.getElem?_eq_getElem hjl]; rfl)
        have HAB := Lib.hid hab
        have hF := flt_len (ll.take j)
        clear hab hjl t0' hbx'
        rw [HAB.out]
        have hsn := Lib.hid (flt_snoc ll j h40 xx hxg.out)
        have hHS := HS.out
        have hHR := HRB.out
        obtain ⟨F, hFF⟩ : ∃ F, Hid (F = flt (ll.take j)) := ⟨_, Lib.hid rfl⟩
        rw [← hFF.out] at hHS hHR hF hsn
        have HSF := Lib.hid hHS
        have HRF := Lib.hid hHR
        have hsb := hbr.size
        obtain ⟨Au, cu, rfl, hcu, hcm⟩ := hHR.slice
        clear hHS hHR HS HRB
        by_cases h20 : xx.length ≤ 20
        · obtain ⟨e1, e2, e3⟩ := stF_send life F xx hF h20
          have d1 : decide ((xx.length : Int) > 20) = false := decide_eq_false (by omega)
          have d2 : decide (20 < xx.length) = false := decide_eq_false (by omega)
          rw [if_pos h20] at hsn
          have HE := Lib.hid e2
          have hsend := ssend_any HSF.out _ xx hbx (by show F.length < _; omega) hsb
          rw [e1, e3] at hsend
          have HSD := Lib.hid hsend
          have hlx : xx.length ≤ 1099511627776 := by omega
          clear e1 e2 e3 hsend h20
          go_wp2_with fail
          refine HSD.out.mono ?_
          rintro e w2 ⟨rfl, r2, hs2, hk2, hw2⟩
          rw [HE.out] at hs2
          have hbk := HSF.out.belowOf hk2
          have hRB2 := HRF.out.other HSF.out hk2
          have hbx2 := hbx.other HSF.out hk2
          have t2 := (hbk.cell (p := ⟨b, o + j, none⟩) hbl).trans t0
          have HS2 := Lib.hid hs2
          have HRB2 := Lib.hid hRB2
          have hb2 := hbr.trans hbk
          clear hs2 hRB2 t0 d1 d2 hk2 hw2
          go_wp2_with fail
          refine (copy_bs _ xx _ hbx2.bs hlx).mono ?_
          rintro e w3 ⟨u3, rfl, ho3, hs3, hb3⟩
          obtain ⟨A3, c3, rfl, -⟩ := ho3.form
          have hx3 : Bx w3 0 (.slice A3 xx.length c3) xx := Bx.of_own ho3 hs3.2
          have hsz := hb2.size
          have hsz3 := hb3.size
          clear t2 ho3 hs3
          go_wp2_with (first
            | (at_builtin
               refine wpList_bapp rfl (.tmp 47) (.tmp 53) rfl rfl ((HRB2.out.below hb3).below ((Below.refl _ _).alloc (Nat.le_refl _) _)) rfl (At.made _ #[.slice A3 xx.length c3] _) (hx3.below ((Below.refl _ _).alloc (Nat.le_refl _) _)) (by omega) (by simp; omega) ?_
               intro v' w4 HR4 hb4 hg hv
               obtain ⟨A4, c4, rfl, hcc4, -⟩ := HR4.slice
               have HRR := Lib.hid HR4
               rw [show (F ++ [xx]).length = F.length + 1 by simp] at HRR ⊢
               have d3 : (((F.length + 1 : Nat) : Int) != ((F.length + 1 : Nat) : Int)) = false := by simp
               have d4 : (((F.length : Int) + 1) != ((F.length : Int) + 1)) = false := by simp
               clear HR4)
            | (fail))
          have hS4 := ((HS2.out.below hb3).below ((Below.refl _ _).alloc (Nat.le_refl _) (.cells #[.slice A3 xx.length c3] 25)))
          go_roundw
          case rel =>
            refine ⟨j + 1, r2, by omega, by omega, by go_num, Lib.hid ?_, Lib.hid ?_, ?_⟩
            · rw [hsn.out]
              exact hS4.grownRB ((HRB2.out.below hb3).below ((Below.refl _ _).alloc (Nat.le_refl _) _)) hg
            · rw [hsn.out]
              exact HRR.out
            · exact (hb2.trans ((hb3.mono hsz).alloc (by omega) _)).trans hb4
          case measure => simp [intOf]; omega
        · have d1 : decide ((xx.length : Int) > 20) = true := decide_eq_true (by omega)
          have d2 : decide (20 < xx.length) = true := decide_eq_true (by omega)
          rw [if_neg h20] at hsn
          clear h20
          go_wp2_with fail
          go_roundw
          case rel => exact ⟨j + 1, rr, by omega, by omega, by go_num, Lib.hid (by rw [hsn.out]; exact HSF.out), Lib.hid (by rw [hsn.out]; exact HRF.out), hbr⟩
          case measure => simp [intOf]; omega
      · obtain rfl : j = 40 := by omega
        obtain ⟨Au, cu, rfl, hcu, hcm⟩ := HRB.out.slice
        have hfe : flt (ll.take 40) = flt ll := by unfold flt; rw [List.take_take, Nat.min_self]
        rw [hfe] at HS HRB ⊢
        rw [show ((40 : Nat) : Int) = 40 from rfl]
        have d1 : decide ((40 : Int) < (n : Int)) = true := decide_eq_true (by omega)
        clear hfe hcu h40
        go_wp2_with fail
        go_ret3
        exact ⟨q, rr, Au, cu, rfl, HS.out, HRB.out, hbr⟩
    · obtain rfl : j = n := by omega
      obtain ⟨Au, cu, rfl, hcu, hcm⟩ := HRB.out.slice
      have hfe : flt (ll.take j) = flt ll := by rw [List.take_of_length_le (by have := HLL.out; omega)]
      rw [hfe] at HS HRB ⊢
      clear hfe hcu
      go_wp2_with fail
      go_ret3
      exact ⟨q, rr, Au, cu, rfl, HS.out, HRB.out, hbr⟩
end Go.Proofs.Ytmkpaippkajhmaa
