/- droverlaw05.same, droverref05.Record: the walks. -/
import Derived.Test.YtcmopnkldplngaaLh
import Derived.Test.YtcmopnkldplngaaRseal
namespace Go.Proofs.Ytcmopnkldplngaa
open Go.RowKit

theorem take_ext {a b : List (List Nat)} {j : Nat} (ha : j < a.length) (hb : j < b.length) (h : a.take j = b.take j) (he : a.getD j [] = b.getD j []) : a.take (j + 1) = b.take (j + 1) := by
  rw [List.take_succ_eq_append_getElem ha, List.take_succ_eq_append_getElem hb, h]
  congr 2
  simpa [ha, hb] using he
theorem BlkS.elem {w : World} {S : Nat → Prop} {A : Option Addr} {ll : List (List Nat)} (h : BlkS w S A ll) (hS : ∀ b, S b → b < w.heap.size) (j : Nat) (hj : j < ll.length) :
    ∃ b o A' c', A = some ⟨b, o, none⟩ ∧ w.cell? ⟨b, o + j, none⟩ = some (.slice A' (ll.getD j []).length c') ∧ Bs w (.slice A' (ll.getD j []).length c') (ll.getD j []) := by
  have e : ll[j]? = some (ll.getD j []) := by simp [hj]
  obtain ⟨b, o, A', c', h1, h2, h3, h4, h5, h6⟩ := h j _ e
  exact ⟨b, o, A', c', h1, h3, ⟨⟨A', c', rfl, h4, h5.at_ hS⟩, h6⟩⟩
set_option maxRecDepth 100000 in
set_option maxHeartbeats 800000 in
theorem samel_any (A A' : Option Addr) (c c' : Nat) (ll ll' : List (List Nat)) (w : World) (S S' : Nat → Prop) (r : Bool) (h : BlkS w S A ll) (h' : BlkS w S' A' ll') (hS : ∀ b, S b → b < w.heap.size) (hS' : ∀ b, S' b → b < w.heap.size) (hn : ll.length ≤ 1099511627776) (hr : decide (ll = ll') = r) :
    Calls Try.prog 16 #[.slice A ll.length c, .slice A' ll'.length c'] w fun e w' => e = .returned (.bool r) ∧ Below w.heap.size w w' := by
  by_cases hl : ll.length = ll'.length
  · have t1 : ((ll.length : Int) != (ll'.length : Int)) = false := by rw [hl]; simp
    have t1' : ((ll.length : Int) == (ll'.length : Int)) = true := by rw [hl]; simp
    have HR := Lib.hid hr
    clear hr
    go_enter Try.func16, Try.ntmps16
    go_wp2_with fail
    go_loopw [5] (fun i wr => ∃ (j m : Nat), j ≤ ll.length ∧ i = .int .i64 (j : Int) ∧ wr = w.drewN m ∧ Hid (ll.take j = ll'.take j)) (fun i _ => ll.length - (intOf i).toNat)
    case atStart => exact ⟨0, 0, Nat.zero_le _, rfl, rfl, Lib.hid rfl⟩
    case round =>
      obtain ⟨j, m, hj, rfl, rfl, HT⟩ := hrel
      by_cases hlt : j < ll.length
      · obtain ⟨b, o, A1, c1, rfl, hc1, hb1⟩ := h.elem hS j hlt
        obtain ⟨b', o', A2, c2, rfl, hc2, hb2⟩ := h'.elem hS' j (by omega)
        have hc1' : (w.drewN m).cell? ⟨b, o + j, none⟩ = some (.slice A1 (ll.getD j []).length c1) := hc1
        have hc2' : (w.drewN m).cell? ⟨b', o' + j, none⟩ = some (.slice A2 (ll'.getD j []).length c2) := hc2
        have HE : Hid (ll.getD j [] = ll'.getD j [] → ll.take (j + 1) = ll'.take (j + 1)) := take_ext hlt (by omega) HT.out
        have HF : Hid (ll.getD j [] ≠ ll'.getD j [] → ll ≠ ll') := fun hne e => hne (by rw [e])
        generalize ll.getD j [] = x at *
        generalize ll'.getD j [] = y at *
        obtain ⟨bo, hbo⟩ : ∃ bo, decide (x = y) = bo := ⟨_, rfl⟩
        have HB : Hid (∀ k, Calls Try.prog 34 #[.slice A1 x.length c1, .slice A2 y.length c2] ((w.drewN m).drewN k) fun e w' => e = .returned (.bool bo) ∧ w' = (w.drewN m).drewN k) :=
          fun k => (same_bs _ _ x y bo _ ((hb1.drewN m).drewN k) ((hb2.drewN m).drewN k) hbo).mono fun e w' h => ⟨h.1, h.2.symm⟩
        have t2 : decide ((j : Int) < (ll.length : Int)) = true := decide_eq_true (by omega)
        have t3 : (j : Int) < (ll.length : Int) := by omega
        have t4 : (j : Int) < (ll'.length : Int) := by omega
        clear h h' hc1 hc2 hb1 hb2
        generalize hX : w.drewN m = X at *
        go_wp2_with fail
        go_quiet (first | (go_at_call 34; with_reducible exact Calls.quiet_of_same (HB.out _)) | (fail))
        cases bo with
        | true =>
          have hxy := of_decide_eq_true hbo
          go_wp2_with fail
          go_roundw
          case rel => exact ⟨j + 1, m + nq, by omega, by go_num, by rw [← hX, World.drewN_drewN], Lib.hid (HE.out hxy)⟩
          case measure => simp [intOf]; omega
        | false =>
          have hxy := of_decide_eq_false hbo
          have HN := HF.out hxy
          go_wp2_with fail
          go_ret
          rw [← HR.out, decide_eq_false HN, ← hX]
          exact ⟨rfl, bel_drewN1 (bel_drewN1 (Below.refl _ _) _) _⟩
      · obtain rfl : j = ll.length := by omega
        have hE : ll = ll' := by
          have := HT.out
          rwa [List.take_of_length_le (Nat.le_refl _), List.take_of_length_le (by omega)] at this
        have hr1 : r = true := by rw [← HR.out]; exact decide_eq_true hE
        clear HT hE hlt HR
        go_wp2_with fail
        go_ret
        rw [hr1]
        exact ⟨rfl, bel_drewN1 (Below.refl _ _) _⟩
  · have t1 : ((ll.length : Int) != (ll'.length : Int)) = true := bne_iff_ne.2 (by omega)
    have t1' : ((ll.length : Int) == (ll'.length : Int)) = false := beq_eq_false_iff_ne.2 (by omega)
    have hr1 : r = false := by
      rw [← hr, decide_eq_false_iff_not]
      intro e
      exact hl (by rw [e])
    go_enter Try.func16, Try.ntmps16
    go_wp2_with fail
    go_ret
    rw [hr1]
    exact ⟨rfl, Below.refl _ _⟩
theorem four_any (s : Nat) (w : World) (hs : s < 4294967296) : Calls Try.prog 18 #[.int .i64 (s : Int)] w fun e w' => ∃ u, e = .returned u ∧ Own w' w.heap.size u (be4 s) ∧ Below w.heap.size w w' := by
  go_enter Try.func18, Try.ntmps18
  go_wp2_with fail
  go_ret
  refine ⟨_, rfl, own_made w (be4 s) 4 _ _ rfl ?_ rfl rfl (by rw [be4_length]; decide), (Below.refl _ _).alloc (Nat.le_refl _) _⟩
  simp [bv, be4]
set_option maxHeartbeats 800000 in
theorem refrecord_any (v : Value) (x : List Nat) (w : World) (h : Bs w v x) (hx : x.length ≤ 1048576) :
    Calls Try.prog 4 #[v] w fun e w' => ∃ u, e = .returned u ∧ Own w' w.heap.size u (lrec x) ∧ Below w.heap.size w w' := by
  have hv := Lib.hid h
  obtain ⟨⟨A, c, rfl, hc, ha⟩, h8⟩ := h
  have hs := crcN_lt x
  have he : Hid (lrec x = be4 x.length ++ be4 (crcN x) ++ x) := rfl
  have hcr := Lib.hid (fun (w' : World) (hb : Below w.heap.size w w') => refcrc_any A x.length c x w' w.heap.size rfl (ha.below hb) (by omega) h8)
  generalize hs' : crcN x = s at *
  clear hs'
  go_enter Try.func4, Try.ntmps4
  go_wp2_with fail
  refine (four_any x.length w (by omega)).mono ?_
  rintro e w1 ⟨u1, rfl, ho1, hb1⟩
  go_wp2_with fail
  refine (hcr.out w1 hb1).mono ?_
  rintro e wx ⟨rfl, rfl⟩
  go_wp2_with fail
  refine (four_any s w1 hs).mono ?_
  rintro e w2 ⟨u2, rfl, ho2, hb2⟩
  obtain ⟨A2, c2, rfl, -, -, ha2, -, -⟩ := id ho2.form
  have ho12 := ho1.below hb2 (Nat.le_refl _)
  have hb12 := nxt hb1 hb2
  rw [be4_length] at *
  clear ho1 hb1 ho2 hb2
  go_wp2_with (first
    | (at_builtin
       refine wpList_app rfl (.tmp 6) (.tmp 10) rfl rfl ho12 rfl ha2 (be4_length _) (by simp [be4_length]) hb12.size ?_
       intro v3 w3 hown3 hb3 _ _
       have hb13 := hb12.trans hb3
       have ha3 := ha.below hb13)
    | (at_builtin
       refine wpList_app rfl (.tmp 12) (.tmp 13) rfl rfl hown3 rfl ha3 rfl (by simp [be4_length]; omega) hb13.size ?_
       intro v4 w4 hown4 hb4 _ _)
    | (fail))
  go_ret
  rw [he.out]
  exact ⟨_, rfl, hown4, hb13.trans hb4⟩
end Go.Proofs.Ytcmopnkldplngaa
