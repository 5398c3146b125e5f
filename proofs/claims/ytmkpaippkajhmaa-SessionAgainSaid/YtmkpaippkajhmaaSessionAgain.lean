/- droverlaw07.SessionAgain returns true whatever its arguments: what comes is told as often as it comes, till it is accepted, and then no more. For every input, without conditions. -/
import Derived.Test.YtmkpaippkajhmaaRow
import Derived.Test.YtmkpaippkajhmaaBrw
import Derived.Test.YtmkpaippkajhmaaSm
import Derived.Test.YtmkpaippkajhmaaSp
namespace Go.Proofs.Ytmkpaippkajhmaa.sessionAgain
open Go.ChangeShapes Go.WideShapes Go.ChangeAt Go.RowKit
set_option linter.unusedVariables false

/-- The session's states. -/
def sA (a d pl : Nat) : Se := ⟨0, 1, 1, 0, d, a, pl, []⟩
/-- The packet that comes. -/
def kA (S : Nat) : Pk := ⟨1, 2, S, 0, if S = 0 then [] else [S]⟩
theorem kA_ok {S : Nat} (hS : S < 8) : pright (kA S) = true := pkt1_ok (by omega) (by omega) (by omega) (by split <;> simp) (fun h => by rw [if_pos h])
theorem ra {S a d pl : Nat} (hS : S < 8) (hp : pl ≤ 2) (e : Bool) (he : decide (S = a + 1) = e) : (sA a d pl).recv (pkb (kA S)) = (sA a d 2, if e = true then some (S, [S]) else none, 0) := by
  rw [Se.recv_pkb _ (kA_ok hS)]
  unfold Se.recvK sA kA Se.first
  subst he
  by_cases h : S = a + 1
  · have h0 : S ≠ 0 := by omega
    simp [h, show ¬ 2 < pl by omega]
  · simp [h, show ¬ 2 < pl by omega]
/-- What stands behind the first packing. -/
def CutA (S B : Nat) (v : Value) (w : World) : Prop := S = 0 ∨ ∃ A c, v = .slice A (pkb (kA S)).length c ∧ Bx w B (.slice A (pkb (kA S)).length c) (pkb (kA S))
def IsN (v : Value) (n : Nat) : Prop := v = .int .i64 (n : Int)

set_option maxRecDepth 100000 in
set_option maxHeartbeats 8000000 in
theorem walk (w : World) (a0 : Option Addr) (n0 c0 : Nat) (a1 : Option Addr) (n1 c1 : Nat) (w0 : ∃ l : List Nat, l.length = n0 ∧ n0 ≤ c0 ∧ At w w.heap.size a0 (bv l) ∧ (∀ x ∈ l, x < 256)) (w1 : ∃ l : List Nat, l.length = n1 ∧ n1 ≤ c1 ∧ At w w.heap.size a1 (bv l) ∧ (∀ x ∈ l, x < 256)) :
    Calls Try.prog 7 #[.slice a0 n0 c0, .slice a1 n1 c1] w fun e w' => e = .returned (.bool true) ∧ Below w.heap.size w w' := by
  obtain ⟨l0, hl0, hc0, hat0, h80⟩ := w0
  obtain ⟨l1, hl1, hc1, hat1, h81⟩ := w1
  have HA0 := Lib.hid hat0
  have HA1 := Lib.hid hat1
  have HL0 := Lib.hid hl0
  have HL1 := Lib.hid hl1
  have H80 := Lib.hid h80
  have H81 := Lib.hid h81
  clear hat0 hat1 hl0 hl1 h80 h81
  go_enter Try.func7, Try.ntmps7
  go_wp2_with fail
  refine (new0_any 0 1 1 0 1 1 rfl rfl rfl w (by omega) (by omega) (by omega)).mono ?_
  rintro e u1 ⟨q, r, rfl, hs1, hb1⟩
  have HS1 : Hid (SeAt u1 w.heap.size q r (sA 0 0 0)) := Lib.hid hs1
  clear hs1
  go_wp2_with fail
  go_loopw [7, 8, 9] (fun va vd vi wr => ∃ (j a d pl : Nat) (r : Option Nat), j ≤ n0 ∧ j ≤ 40 ∧ vi = .int .i64 (j : Int) ∧ va = .int .i64 (a : Int) ∧ vd = .int .i64 (d : Int) ∧ d ≤ a ∧ a ≤ 7 ∧ pl ≤ 2 ∧ Hid (SeAt wr w.heap.size q r (sA a d pl)) ∧ Below w.heap.size w wr) (fun _ _ i _ => 41 - (intOf i).toNat)
  case atStart => exact ⟨0, 0, 0, 0, r, by omega, by omega, rfl, rfl, rfl, by omega, by omega, by omega, HS1, hb1⟩
  case round =>
    obtain ⟨j, a, d, pl, rr, hj, hj40, rfl, rfl, rfl, hda, ha7, hpl, HS, hbr⟩ := hrel
    clear HS1 hb1
    by_cases hlt : j < n0
    · by_cases h40 : j < 40
      · have hjl : j < l0.length := by have := HL0.out; omega
        obtain ⟨b0, o0, hab, hbl, hcell⟩ := HA0.out.byte (fun h => by rw [h] at hjl; simp at hjl)
        have t0 := (hbr.cell (p := ⟨b0, o0 + j, none⟩) hbl).trans (hcell j hjl)
        have hX8 : l0.getD j 0 < 256 := H80.out _ (by rw [List.getD_eq_getElem?_getD, List.getElem?_eq_getElem hjl]; exact List.getElem_mem hjl)
        obtain ⟨X, hX⟩ : ∃ X, Hid (X = l0.getD j 0) := ⟨_, Lib.hid rfl⟩
        rw [← hX.out] at t0 hX8
        have HAB := Lib.hid hab
        clear hcell hab hjl
        rw [HAB.out]
        obtain ⟨S, hS, hS8⟩ : ∃ S : Nat, Hid ((X : Int) % 8 = (S : Int)) ∧ S < 8 := ⟨X % 8, Lib.hid (by omega), by omega⟩
        have hsz := hbr.size
        go_upto_region 9 with fail
        rw [hS.out]
        clear t0
        go_cut [11] (fun v wx => Hid (CutA S w.heap.size v wx) ∧ Hid (SeAt wx w.heap.size q rr (sA a d pl)) ∧ Below w.heap.size w wx)
        case first =>
          have hoB := (Below.refl wr.heap.size wr).alloc (Nat.le_refl _) (.cells #[.int .u8 (S : Int)] 5)
          have hBs := Bs.made wr #[.int .u8 (S : Int)] 5 [S] 1 rfl rfl (by simp; omega)
          by_cases h0 : S = 0
          · subst h0
            rw [show (((0 : Nat)) : Int) = 0 from rfl] at hoB hBs ⊢
            go_wp2_with fail
            refine (packed_bad 2 0 2 0 rfl rfl _ [0] _ hBs (by omega) (by omega) (by simp)).mono ?_
            rintro e w2 ⟨rfl, hb2⟩
            go_wp2_with fail
            go_meet
            exact ⟨Lib.hid (.inl rfl), Lib.hid (HS.out.below (nxt hoB hb2)), nxt hbr (nxt hoB hb2)⟩
          · have hk : kA S = ⟨1, 2, S, 0, [S]⟩ := by unfold kA; rw [if_neg h0]
            have HK := Lib.hid hk
            have hok := kA_ok hS8
            rw [hk] at hok
            have HP := Lib.hid (packed_any 2 S 0 2 (S : Int) 0 rfl rfl rfl _ [S] _ hBs hok)
            clear hk hok h0 hBs
            go_wp2_with fail
            refine HP.out.mono ?_
            rintro e w2 ⟨A2, c2, rfl, ho2, hs2, hb2⟩
            rw [← HK.out] at ho2 hs2 ⊢
            have hx2 : Hid (Bx w2 w.heap.size (.slice A2 (pkb (kA S)).length c2) (pkb (kA S))) := Lib.hid (Bx.of_own ho2 hs2.2)
            clear ho2 hs2 HP
            go_wp2_with fail
            go_meet
            exact ⟨Lib.hid (.inr ⟨A2, c2, rfl, hx2.out⟩), Lib.hid (HS.out.below (nxt hoB hb2)), nxt hbr (nxt hoB hb2)⟩
        case rest =>
        obtain ⟨HC, HSc, hbc⟩ := hcut
        clear HS hbr hsz
        go_upto_if 49 with (fail)
        go_cut [11] (fun v wx => ∃ A c, v = .slice A (pkb (kA S)).length c ∧ Hid (Bx wx w.heap.size (.slice A (pkb (kA S)).length c) (pkb (kA S))) ∧ Hid (SeAt wx w.heap.size q rr (sA a d pl)) ∧ Below w.heap.size w wx)
        case first =>
          by_cases h0 : S = 0
          · subst h0
            rw [show (((0 : Nat)) : Int) = 0 from rfl]
            go_wp2_with fail
            refine (packed_any 2 0 0 2 0 0 rfl rfl rfl (.slice none 0 0) [] _ (Bs.nil _) (kA_ok (S := 0) (by omega))).mono ?_
            rintro e w2 ⟨A2, c2, rfl, ho2, hs2, hb2⟩
            have hx2 : Hid (Bx w2 w.heap.size (.slice A2 (pkb (kA 0)).length c2) (pkb (kA 0))) := Lib.hid (Bx.of_own ho2 hs2.2)
            clear ho2 hs2
            go_wp2_with fail
            go_meet
            exact ⟨A2, c2, rfl, hx2, Lib.hid (HSc.out.below hb2), nxt hbc hb2⟩
          · obtain ⟨A2, c2, rfl, hx2⟩ := HC.out.resolve_left h0
            have k1 : ((S : Int) == 0) = false := beq_eq_false_iff_ne.2 (by omega)
            clear h0
            have hx2 := Lib.hid hx2
            go_wp2_with fail
            go_meet
            exact ⟨A2, c2, rfl, hx2, HSc, hbc⟩
        case rest =>
        obtain ⟨A2, c2, rfl, HX2, HSd, hbw⟩ := hcut
        obtain ⟨e, he⟩ : ∃ e, Hid (decide (S = a + 1) = e) := ⟨_, Lib.hid rfl⟩
        have hee : ((S : Int) == (a : Int) + 1) = e := by rw [← he.out]; exact decide_eq_decide.2 (by omega)
        have hee2 : (e != e) = false := by cases e <;> rfl
        clear HSc hbc HC
        go_wp2_with fail
        go_loopw [12] (fun vk wz => ∃ (k pl2 : Nat) (r : Option Nat), k ≤ 2 ∧ vk = .int .i64 (k : Int) ∧ pl2 ≤ 2 ∧ (0 < k → pl2 = 2) ∧ Hid (SeAt wz w.heap.size q r (sA a d pl2)) ∧ Hid (Bx wz w.heap.size (.slice A2 (pkb (kA S)).length c2) (pkb (kA S))) ∧ Below w.heap.size w wz) (fun i _ => 2 - (intOf i).toNat)
        case atStart => exact ⟨0, pl, rr, by omega, rfl, hpl, fun h => absurd h (by omega), HSd, HX2, hbw⟩
        case round =>
          obtain ⟨k, pl2, rz, hk, rfl, hpl2, hkp, HSz, HXz, hbz⟩ := hrel
          by_cases hk2 : k < 2
          · have hrv := ra (d := d) hS8 hpl2 e he.out
            cases e with
            | true =>
              rw [if_pos rfl] at hrv
              have HR := Lib.hid (recvs_any HSz.out _ _ HXz.out.bs (pkb_short (by unfold kA; dsimp only; split <;> simp)) hbz.size hrv)
              clear hrv
              go_wp2_with fail
              refine HR.out.mono ?_
              rintro ex w2 ⟨⟨A3, c3, rfl, hx3⟩, r2, hs2, hk2', hw2⟩
              have hX2 := HXz.out.other HSz.out hk2'
              have hb2 := hbz.trans (HSz.out.belowOf hk2')
              rw [show ([S] : List Nat).length = 1 from rfl] at hx3 ⊢
              have ho2 := (Below.refl w2.heap.size w2).alloc (Nat.le_refl _) (.cells #[.int .i64 (S : Int), .slice A3 1 c3] 27)
              have q2 := heap_new w2 (.cells #[.int .i64 (S : Int), .slice A3 1 c3] 27)
              have e0 := cell_block q2 0
              have e1 := cell_block q2 1
              obtain ⟨-, -, hat3, -⟩ := (hx3.below ho2).bs.parts
              obtain ⟨b3, o3, rfl, hb3, hc3⟩ := hat3.byte (by simp)
              have e2 := hc3 0 (by simp)
              rw [show ([S] : List Nat).getD 0 0 = S from rfl, Nat.add_zero] at e2
              have HS2 := Lib.hid (hs2.below ho2)
              have HX2' := Lib.hid (hX2.below ho2)
              have hb2' := hb2.alloc hb2.size (.cells #[.int .i64 (S : Int), .slice (some ⟨b3, o3, none⟩) 1 c3] 27)
              have k1 : ((S : Int) != (S : Int)) = false := by simp
              clear hs2 hX2 ho2 q2 hat3 hc3 hk2' hw2 hx3 HR HXz HSz hbz hb2
              go_wp2_with fail
              go_roundw
              case rel => exact ⟨k + 1, 2, r2, by omega, by go_num, by omega, fun _ => rfl, HS2, HX2', hb2'⟩
              case measure => simp [intOf]; omega
            | false =>
              rw [if_neg (by simp)] at hrv
              have HR := Lib.hid (recvn_any HSz.out _ _ HXz.out.bs (pkb_short (by unfold kA; dsimp only; split <;> simp)) hbz.size hrv)
              clear hrv
              go_wp2_with fail
              refine HR.out.mono ?_
              rintro ex w2 ⟨rfl, r2, hs2, hk2', hw2⟩
              rw [show (((0 : Nat)) : Int) = 0 from rfl]
              have hX2 := HXz.out.other HSz.out hk2'
              have hb2 := hbz.trans (HSz.out.belowOf hk2')
              have ho2 := (Below.refl w2.heap.size w2).alloc (Nat.le_refl _) (.cells #[.int .i64 0, .slice none 0 0] 27)
              have HS2 := Lib.hid (hs2.below ho2)
              have HX2' := Lib.hid (hX2.below ho2)
              have hb2' := hb2.alloc hb2.size (.cells #[.int .i64 0, .slice none 0 0] 27)
              clear hs2 hX2 ho2 hk2' hw2 HR HXz HSz hbz hb2
              go_wp2_with fail
              go_roundw
              case rel => exact ⟨k + 1, 2, r2, by omega, by go_num, by omega, fun _ => rfl, HS2, HX2', hb2'⟩
              case measure => simp [intOf]; omega
          · obtain rfl : k = 2 := by omega
            obtain rfl : pl2 = 2 := hkp (by omega)
            clear hkp HXz HX2 HSd hbw hpl2 hk
            rw [show ((2 : Nat) : Int) = 2 from rfl]
            go_upto_if 99 with (fail)
            go_cut [16] (fun v wx => ∃ y : Nat, y < 256 ∧ IsN v y ∧ Hid (SeAt wx w.heap.size q rz (sA a d 2)) ∧ Below w.heap.size w wx)
            case first =>
              by_cases hj1 : j < n1
              · have hjl : j < l1.length := by have := HL1.out; omega
                obtain ⟨b1, o1, hab1, hbl1, hcell1⟩ := HA1.out.byte (fun h => by rw [h] at hjl; simp at hjl)
                have t1 := (hbz.cell (p := ⟨b1, o1 + j, none⟩) hbl1).trans (hcell1 j hjl)
                have hY8 : l1.getD j 0 < 256 := H81.out _ (by rw [List.getD_eq_getElem?_getD, List.getElem?_eq_getElem hjl]; exact List.getElem_mem hjl)
                obtain ⟨Y, hY⟩ : ∃ Y, Hid (Y = l1.getD j 0) := ⟨_, Lib.hid rfl⟩
                rw [← hY.out] at t1 hY8
                clear hcell1 hjl
                subst hab1
                go_wp2_with fail
                go_meet
                exact ⟨Y, hY8, rfl, HSz, hbz⟩
              · go_wp2_with fail
                go_meet
                exact ⟨0, by omega, rfl, HSz, hbz⟩
            case rest =>
            obtain ⟨y, hy, hvy, HSy, hby⟩ := hcut
            unfold IsN at hvy
            subst hvy
            clear HSz hbz
            go_wp2_with fail
            refine (accept_any HSy.out (S : Int) (by show a < _; omega)).mono ?_
            rintro ex w5 ⟨rfl, hs5, hk5⟩
            have hb5 := hby.trans (HSy.out.belowOf hk5)
            obtain ⟨a', ha', ha7', haa⟩ : ∃ a' : Nat, Hid (a' = if e = true then S else a) ∧ a' ≤ 7 ∧ a ≤ a' := by
              have := he.out
              cases e with
              | true => exact ⟨S, Lib.hid rfl, by omega, by have := of_decide_eq_true this; omega⟩
              | false => exact ⟨a, Lib.hid rfl, by omega, Nat.le_refl _⟩
            have HS5 : Hid (SeAt w5 w.heap.size q rz (sA a' d 2)) := Lib.hid (by
              have hst : (sA a d 2).accept (S : Int) = sA a' d 2 := by
                have h1 := he.out
                have h2 := ha'.out
                unfold Se.accept
                cases e with
                | true =>
                  have h3 := of_decide_eq_true h1
                  rw [if_pos rfl] at h2
                  rw [if_pos (by show (S : Int) = (a : Int) + 1; omega)]
                  unfold sA
                  simp
                  omega
                | false =>
                  have h3 := of_decide_eq_false h1
                  rw [if_neg (by simp)] at h2
                  rw [if_neg (by show ¬ (S : Int) = (a : Int) + 1; omega), h2]
              rw [← hst]
              exact hs5)
            obtain ⟨g5, hg5, hg6⟩ : ∃ g5 : Int, Hid ((if (S : Int) = (((sA a d 2).acc : Nat) : Int) + 1 then (0 : Int) else 16) = g5) ∧ (g5 == 0) = e := by
              refine ⟨_, Lib.hid rfl, ?_⟩
              have h1 := he.out
              cases e with
              | true => rw [if_pos (by show (S : Int) = (a : Int) + 1; have := of_decide_eq_true h1; omega)]; rfl
              | false => rw [if_neg (by show ¬ (S : Int) = (a : Int) + 1; have := of_decide_eq_false h1; omega)]; rfl
            rw [hg5.out]
            clear hs5 hk5 HSy hby hg5
            go_upto_if 118 with (fail)
            go_cut [7] (fun v wx => v = .int .i64 (a' : Int) ∧ w5 = wx)
            case first =>
              cases e with
              | true =>
                have h2 := ha'.out
                rw [if_pos rfl] at h2
                subst h2
                go_wp2_with fail
                go_meet
                exact ⟨rfl, rfl⟩
              | false =>
                have h2 := ha'.out
                rw [if_neg (by simp)] at h2
                subst h2
                go_wp2_with fail
                go_meet
                exact ⟨rfl, rfl⟩
            case rest =>
            obtain ⟨rfl, rfl⟩ := hcut
            clear hee hee2 hg6
            go_upto_if 122 with (fail)
            go_cut [8] (fun v wx => ∃ d' : Nat, IsN v d' ∧ d' ≤ a' ∧ Hid (SeAt wx w.heap.size q rz (sA a' d' 2)) ∧ Below w.heap.size w wx)
            case first =>
              obtain ⟨b3, h3⟩ : ∃ b3 : Bool, ((y : Int) % 3 == 0) = b3 := ⟨_, rfl⟩
              cases b3 with
              | true =>
                go_wp2_with fail
                refine (done_any HS5.out (a' : Int)).mono ?_
                rintro ex w6 ⟨rfl, hs6, hk6⟩
                have hb6 := hb5.trans (HS5.out.belowOf hk6)
                by_cases hdl : d < a'
                · have hst : (sA a' d 2).setDone (a' : Int) = sA a' a' 2 := by
                    unfold Se.setDone
                    rw [if_pos (by show (d : Int) < (a' : Int) ∧ (a' : Int) ≤ (a' : Int); omega)]
                    unfold sA
                    simp
                  rw [if_pos (show (((sA a' d 2).done : Nat) : Int) < (a' : Int) ∧ (a' : Int) ≤ (((sA a' d 2).acc : Nat) : Int) by show (d : Int) < (a' : Int) ∧ (a' : Int) ≤ (a' : Int); omega)]
                  rw [hst] at hs6
                  have HS6 := Lib.hid hs6
                  have k1 : decide ((a' : Int) > (d : Int)) = true := decide_eq_true (by omega)
                  have k2 : decide ((d : Int) < (a' : Int)) = true := decide_eq_true (by omega)
                  have k3 : decide (d < a') = true := decide_eq_true hdl
                  clear hs6 hst hk6 hdl
                  go_wp2_with fail
                  go_meet
                  exact ⟨a', rfl, Nat.le_refl _, HS6, hb6⟩
                · have hst : (sA a' d 2).setDone (a' : Int) = sA a' a' 2 := by
                    unfold Se.setDone
                    rw [if_neg (by show ¬ ((d : Int) < (a' : Int) ∧ (a' : Int) ≤ (a' : Int)); omega)]
                    have : d = a' := by omega
                    rw [this]
                  rw [if_neg (show ¬ ((((sA a' d 2).done : Nat) : Int) < (a' : Int) ∧ (a' : Int) ≤ (((sA a' d 2).acc : Nat) : Int)) by show ¬ ((d : Int) < (a' : Int) ∧ (a' : Int) ≤ (a' : Int)); omega)]
                  rw [hst] at hs6
                  have HS6 := Lib.hid hs6
                  have k1 : decide ((a' : Int) > (d : Int)) = false := decide_eq_false (by omega)
                  have k2 : decide ((d : Int) < (a' : Int)) = false := decide_eq_false (by omega)
                  have k3 : decide (d < a') = false := decide_eq_false hdl
                  clear hs6 hst hk6 hdl
                  go_wp2_with fail
                  go_meet
                  exact ⟨a', rfl, Nat.le_refl _, HS6, hb6⟩
              | false =>
                go_wp2_with fail
                go_meet
                exact ⟨d, rfl, by omega, HS5, hb5⟩
            case rest =>
            obtain ⟨d', hvd, hda', HS7, hb7⟩ := hcut
            unfold IsN at hvd
            subst hvd
            clear HS5 hb5
            go_wp2_with fail
            refine (link_any HS7.out).mono ?_
            rintro ex w8 ⟨A8, c8, L8, rfl, -, -, -, hb8⟩
            rw [show (((sA a' d' 2).last : Nat) : Int) = 0 from rfl, show (((sA a' d' 2).done : Nat) : Int) = (d' : Int) from rfl, show (sA a' d' 2).ds.length = 0 from rfl]
            have hS8' := HS7.out.below hb8
            have hb8' := nxt hb7 hb8
            have ho9 := (Below.refl w8.heap.size w8).alloc (Nat.le_refl _) (.cells #[.int .i64 0, .slice A8 0 c8, .int .i64 (d' : Int)] 24)
            have HS9 := Lib.hid (hS8'.below ho9)
            have hb9 := hb8'.alloc hb8'.size (.cells #[.int .i64 0, .slice A8 0 c8, .int .i64 (d' : Int)] 24)
            have k1 : ((d' : Int) != (d' : Int)) = false := by simp
            obtain ⟨⟨e0, e1, e2⟩, -⟩ := box3 (heap_new w8 (.cells #[.int .i64 0, .slice A8 0 c8, .int .i64 (d' : Int)] 24))
            clear hS8' hb8' ho9 HS7 hb7 hb8
            go_wp2_with fail
            refine (peerlife_any HS9.out).mono ?_
            rintro ex ux ⟨rfl, rfl⟩
            rw [show (((sA a' d' 2).pl : Nat) : Int) = 2 from rfl]
            clear e0 e1 e2 k1
            go_wp2_with fail
            go_roundw
            case rel => exact ⟨j + 1, a', d', 2, rz, by omega, by omega, by go_num, rfl, rfl, hda', ha7', by omega, HS9, hb9⟩
            case measure => simp [intOf]; omega
      · obtain rfl : j = 40 := by omega
        rw [show ((40 : Nat) : Int) = 40 from rfl]
        have d1 : decide ((40 : Int) < (n0 : Int)) = true := decide_eq_true (by omega)
        clear h40
        go_wp2_with fail
        refine (awake07_any _).mono ?_
        rintro e u5 ⟨rfl, hb5⟩
        go_wp2_with fail
        go_ret
        exact ⟨rfl, nxt hbr hb5⟩
    · obtain rfl : j = n0 := by omega
      go_wp2_with fail
      refine (awake07_any _).mono ?_
      rintro e u5 ⟨rfl, hb5⟩
      go_wp2_with fail
      go_ret
      exact ⟨rfl, nxt hbr hb5⟩

set_option maxRecDepth 100000 in
theorem lifted (os : Os) (started : os.Started) (H : Type) (enc : TypeId × Value → H) :
    ReturnsInHanded {} Try.checked os 7 .any (Rows.sessionAgainSpec.pre6 enc Try.prog Try.f7 Rows.sessionAgainRow.domain false) (Rows.sessionAgainSpec.post enc Try.prog Try.f7 false true false false) := by
  refine returnsInHanded_of_change (C := Try.checked) knob_own started (by kernel_rfl) Try.func7
    (ChangeSpec.witness6 (enc := enc) (C := Try.checked) false ⟨#[], #[.slice none 0 0, .slice none 0 0], []⟩ 8 (by kernel_rfl) (by kernel_rfl) (by kernel_rfl) (by kernel_rfl)) ?_
  intro W base args ds gs before hval0 hW hcnd _
  have hval : ∀ (j : Nat) t v, Try.f7.params[j]? = some t → args[j]? = some v → Value.okWide Try.prog W .any base t v := hval0
  have hW' := hW
  obtain ⟨p, q, hA0, hV, rfl, hfz, hnd⟩ := hW
  have hA : DataW.TrodAll enc Try.prog W 0 (fun _ => true) true Try.f7.params.toList args.toList ds p := hA0
  rw [Try.params7] at hA hval
  obtain ⟨v0, vs0, d0, ds0, p0, q0, hargs, rfl, rfl, h0, r0⟩ := trodAll_cons hA
  obtain ⟨v1, vs1, d1, ds1, p1, q1, rfl, rfl, rfl, h1, r1⟩ := trodAll_cons r0
  obtain ⟨rfl, rfl, rfl⟩ := trodAll_nil r1
  obtain rfl : args = #[v0, v1] := by cases args; simp_all
  obtain ⟨rfl, rfl⟩ := trodVars_none hV
  obtain ⟨a0, n0, c0, rfl⟩ := okWide_slice Try.underlying25 (hval 0 25 v0 rfl rfl)
  have k0 := h0
  have lt0 : ∀ x ∈ p0, x.block < W.heap.size := by obtain ⟨m, hm⟩ := k0; exact DataW.trod_lt m _ _ _ hm
  have z0 : ∃ zs, Ints .u8 W a0 n0 c0 zs := by
    obtain ⟨fuel, hf⟩ := h0
    rcases open_ints Try.underlying25 Try.underlying5 (by kernel_rfl) hf with ⟨hcs, _⟩ | ⟨x, l, c, zs, hcs, _, hl, hm, hz, _, hcell, hwz⟩
    · simp [Value.cells] at hcs
      obtain ⟨rfl, rfl, rfl⟩ := hcs
      exact ⟨[], ints_nil _ _⟩
    · simp [Value.cells] at hcs
      obtain ⟨rfl, rfl, rfl⟩ := hcs
      exact ⟨_, ints_some .u8 W x _ _ zs hl hm (by simpa using hz) hcell hwz⟩
  have w0 := z0.elim fun _ h => h.bytes
  obtain ⟨a1, n1, c1, rfl⟩ := okWide_slice Try.underlying25 (hval 1 25 v1 rfl rfl)
  have k1 := h1
  have lt1 : ∀ x ∈ p1, x.block < W.heap.size := by obtain ⟨m, hm⟩ := k1; exact DataW.trod_lt m _ _ _ hm
  have z1 : ∃ zs, Ints .u8 W a1 n1 c1 zs := by
    obtain ⟨fuel, hf⟩ := h1
    rcases open_ints Try.underlying25 Try.underlying5 (by kernel_rfl) hf with ⟨hcs, _⟩ | ⟨x, l, c, zs, hcs, _, hl, hm, hz, _, hcell, hwz⟩
    · simp [Value.cells] at hcs
      obtain ⟨rfl, rfl, rfl⟩ := hcs
      exact ⟨[], ints_nil _ _⟩
    · simp [Value.cells] at hcs
      obtain ⟨rfl, rfl, rfl⟩ := hcs
      exact ⟨_, ints_some .u8 W x _ _ zs hl hm (by simpa using hz) hcell hwz⟩
  have w1 := z1.elim fun _ h => h.bytes
  clear hA0 hval0
  refine (walk W a0 n0 c0 a1 n1 c1 w0 w1).mono fun e W' ⟨he, bel⟩ => ?_
  subst he
  exact ⟨_, rfl, _, _, _, [], _, [], hW', trodAll_mk1 (shut_bool Try.underlying4 _), (trodAll_cons_mk (Below.trod laid_out (by kernel_rfl) (of_decide_eq_true (by kernel_rfl)) k0 bel lt0) (trodAll_cons_mk (Below.trod laid_out (by kernel_rfl) (of_decide_eq_true (by kernel_rfl)) k1 bel lt1) (trodAll_mk0))), rfl, bel.frame _, fun h => by cases h⟩

theorem over : Rows.sessionAgainRow.holds Try.pinned (OpenSpec.ofChange Rows.sessionAgainSpec) :=
  OpenClaim.holds_of_wide 7 Try.f7 rfl rfl rfl rfl rfl rfl rfl ⟨rfl, rfl, rfl, rfl, rfl⟩ rfl rfl rfl rfl rfl (by kernel_rfl) Try.func7 (by kernel_rfl)
    (of_decide_eq_true (by kernel_rfl)) (by unfold Func.isWrapper; first | (rw [if_pos (by decide +kernel)]; kernel_rfl) | (rw [if_neg (by decide +kernel)]; exact ⟨rfl, rfl⟩))
    (fun os started H enc _ => lifted os started H enc)

theorem proved : Rows.SessionAgainSaid := over
end Go.Proofs.Ytmkpaippkajhmaa.sessionAgain
