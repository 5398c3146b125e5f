/- drover/log.Open: the walk. -/
import Derived.Test.YtcmopnkldplngaaLg
import Derived.Test.YtcmopnkldplngaaLr
namespace Go.Proofs.Ytcmopnkldplngaa
open Go.RowKit

def plOf (ws : List (List Nat)) : Pl := ⟨ws.length, (lrecs ws).length, false⟩
/-- What Open does: the disk then, and the error, or the records. -/
def openL (d : Pd) : Pd × Except Nat (List (List Nat)) :=
  if d.down = true then (d, .error 15)
  else if (lrecs (whole d.bs)).length < d.bs.length then
    if (d.cut ((lrecs (whole d.bs)).length : Int)).2 ≠ 0 then ((d.cut ((lrecs (whole d.bs)).length : Int)).1, .error (d.cut ((lrecs (whole d.bs)).length : Int)).2)
    else ((d.cut ((lrecs (whole d.bs)).length : Int)).1, .ok (whole d.bs))
  else (d, .ok (whole d.bs))
def OpenP (R : Pd × Except Nat (List (List Nat))) (w : World) (base p : Nat) (r : Option Nat) (e : Ending) (w' : World) : Prop := ∃ r', Dk w' base p r' R.1 ∧ Kr p r w w' ∧ Rw w r r' ∧ match R.2 with
  | .error er => e = .returned (.tuple #[.pointer none, .slice none 0 0, .int .i64 ((er : Nat) : Int)])
  | .ok ws => ∃ A c q m, e = .returned (.tuple #[.pointer (some ⟨q, 0, none⟩), .slice A ws.length c, .int .i64 0]) ∧ ws.length ≤ c ∧ w.heap.size ≤ m ∧ m ≤ q ∧ (r' = r ∨ ∃ g, r' = some g ∧ m ≤ g) ∧ LgAt w' q p (plOf ws) ∧ BlkS w' (fun b => w.heap.size ≤ b ∧ b < m) A ws ∧ ∃ vs, RowS w' base r' (.slice A ws.length c) vs ws
theorem lrecs_many (ws : List (List Nat)) : ws.length ≤ (lrecs ws).length := by
  induction ws with
  | nil => simp
  | cons x ws ih => rw [lrecs_cons, List.length_append, lrec_length, List.length_cons]; omega
section
variable {w : World} {base p : Nat} {r : Option Nat} {d : Pd}
theorem rows_form {w : World} {lo n : Nat} {u : Value} {vs : List Value} (h : w.ownsRow lo 22 1 u n vs) : ∃ A c, u = .slice A n c ∧ n ≤ c := by
  rcases h.2 with ⟨h1, h2⟩ | ⟨g, cap, cur, he, _, _, h3, _⟩
  · subst h2
    exact ⟨none, 0, h1, Nat.le_refl _⟩
  · exact ⟨_, cap, he, h3⟩
theorem open_end {ws : List (List Nat)} {A : Option Addr} {c : Nat} {w2 w3 W : World} {r3 : Option Nat} {d1 : Pd} {R : Pd × Except Nat (List (List Nat))} {a b : Nat} {vs : List Value} (hrow : RowS w2 base r (.slice A ws.length c) vs ws) (hd2 : Dk w2 base p r d) (h : Dk w base p r d) (hR : R = (d1, .ok ws)) (hb12 : Below w.heap.size w w2) (hbS : BlkS w2 (fun b => w.heap.size ≤ b ∧ b < w2.heap.size) A ws) (hc : ws.length ≤ c)
    (hd3 : Dk w3 base p r3 d1) (hk3 : Kr p r w2 w3) (hr3 : Rw w2 r r3) (ha : a = ws.length) (hb : b = (lrecs ws).length)
    (hW : W = (w3.alloc (.cells #[.pointer (some ⟨w3.heap.size, 0, none⟩), .pointer (some ⟨p, 0, none⟩), .int .i64 (a : Int), .int .i64 (b : Int), .bool false] 50))) :
    OpenP R w base p r (.returned (.tuple #[.pointer (some ⟨w3.heap.size, 0, none⟩), .slice A ws.length c, .int .i64 0])) W := by
  have hb3 : Below w3.heap.size w3 W := by rw [hW]; exact (Below.refl _ _).alloc (Nat.le_refl _) _
  have hplt := h.lt
  rw [hR]
  refine ⟨r3, hd3.below hb3, ((Kr.of_below hb12).trans (.inl rfl) hk3).trans (Rw.trans hb12.size (.inl rfl) hr3) (Kr.of_below hb3), Rw.trans hb12.size (.inl rfl) hr3, A, c, w3.heap.size, w2.heap.size, rfl, hc, hb12.size, hk3.size, hr3, ?_, hbS.keep (fun z hz => ?_) (fun _ h => h), vs, (hrow.kr hd2 hk3 hr3).below hb3⟩
  · rw [hW]
    unfold LgAt plOf
    rw [← ha, ← hb]
    exact heap_new _ _
  · have h3 := hk3.block z.block hz.2 (by omega) (fun e => by have := (h.row_lt e).2; omega)
    exact (hb3.cell (Nat.lt_of_lt_of_le hz.2 hk3.size)).trans (cell_same h3)
set_option maxRecDepth 100000 in
set_option maxHeartbeats 1600000 in
theorem open_any (h : Dk w base p r d) : Calls Try.prog 7 #[.pointer (some ⟨p, 0, none⟩)] w (OpenP (openL d) w base p r) := by
  have hok := h.ok
  have hR := Lib.hid (read_any h)
  have hplt := h.lt
  have hO1 : Hid (d.down = true → openL d = (d, .error 15)) := fun h => if_pos h
  have hO2 : Hid (d.down = false → (lrecs (whole d.bs)).length < d.bs.length → (d.cut ((lrecs (whole d.bs)).length : Int)).2 ≠ 0 → openL d = ((d.cut ((lrecs (whole d.bs)).length : Int)).1, .error (d.cut ((lrecs (whole d.bs)).length : Int)).2)) :=
    fun h k j => (if_neg (by rw [h]; decide)).trans ((if_pos k).trans (if_pos j))
  have hO3 : Hid (d.down = false → (lrecs (whole d.bs)).length < d.bs.length → (d.cut ((lrecs (whole d.bs)).length : Int)).2 = 0 → openL d = ((d.cut ((lrecs (whole d.bs)).length : Int)).1, .ok (whole d.bs))) :=
    fun h k j => (if_neg (by rw [h]; decide)).trans ((if_pos k).trans (if_neg (by rw [j]; decide)))
  have hO4 : Hid (d.down = false → ¬ (lrecs (whole d.bs)).length < d.bs.length → openL d = (d, .ok (whole d.bs))) :=
    fun h k => (if_neg (by rw [h]; decide)).trans (if_neg k)
  generalize openL d = R at *
  cases hd : d.down with
  | true =>
    have HO := Lib.hid (hO1.out hd)
    have hr : d.read = ([], 15) := by unfold Pd.read; rw [if_pos hd]
    unfold ReadP at hR
    rw [hr] at hR
    clear hO1 hO2 hO3 hO4 hr hd
    go_enter Try.func7, Try.ntmps7
    go_wp2_with fail
    refine hR.out.mono ?_
    rintro e w1 ⟨v, rfl, -, -, hb⟩
    go_wp2_with fail
    go_ret3
    rw [HO.out]
    exact ⟨r, h.below hb, Kr.of_below hb, .inl rfl, rfl⟩
  | false =>
    have hr : d.read = (d.bs, 0) := by unfold Pd.read; rw [if_neg (by rw [hd]; decide)]
    unfold ReadP at hR
    rw [hr] at hR
    have hm := hok.most
    have hl := hok.len
    have h8 := Lib.hid hok.byte
    have hle := whole_le d.bs hok.byte
    have HO2 := Lib.hid (hO2.out hd)
    have HO3 := Lib.hid (hO3.out hd)
    have HO4 := Lib.hid (hO4.out hd)
    clear hO1 hO2 hO3 hO4 hr hd
    have hW := fun (v : Value) (w1 : World) (hv : Bs w1 v d.bs) => whole_any v d.bs w1 hv (by omega)
    have HW := Lib.hid hW
    clear hW
    have hnl := lrecs_many (whole d.bs)
    obtain ⟨ws, hws⟩ : ∃ ws, ws = whole d.bs := ⟨_, rfl⟩
    have hgen : Hid (∀ n, n ≤ d.bs.length → -9223372036854775808 ≤ ((n : Nat) : Int) ∧ ((n : Nat) : Int) ≤ 9223372036854775807) := fun n hn => by omega
    have hcut := Lib.hid (fun (w1 : World) (hd1 : Dk w1 base p r d) => cut_any ((lrecs ws).length : Int) (hgen.out _ (by rw [hws]; exact hle)).1 (hgen.out _ (by rw [hws]; exact hle)).2 hd1)
    rw [← hws] at HO2 HO3 HO4 HW hle hnl
    clear hgen hws
    generalize d.cut ((lrecs ws).length : Int) = D at *
    obtain ⟨d1, e1⟩ := D
    dsimp only at HO2 HO3 hcut
    generalize hn : (lrecs ws).length = n at *
    have hnn := Lib.hid hn.symm
    clear hn
    go_enter Try.func7, Try.ntmps7
    go_wp2_with fail
    refine hR.out.mono ?_
    rintro e w1 ⟨v, rfl, hov, hv, hb1⟩
    obtain ⟨Av, cv, rfl, -, -, -, -, -⟩ := id hov.form
    have hd1 := h.below hb1
    clear hR
    go_wp2_with fail
    refine (HW.out _ w1 hv).mono ?_
    rintro e w2 ⟨u, vs, rfl, hown, hblk, hb2⟩
    obtain ⟨A, c, rfl, hc⟩ := rows_form hown
    have hd2 := hd1.below hb2
    have hb12 := nxt hb1 hb2
    have hbS : BlkS w2 (fun b => w.heap.size ≤ b ∧ b < w2.heap.size) A ws := (BlkS.of_own hown hblk).keep (fun _ _ => rfl) (fun b hb => ⟨Nat.le_trans hb1.size hb.1, hb.2⟩)
    have hs2 := hb12.size
    have hrow : RowS w2 base r (.slice A ws.length c) vs ws := RowS.made hown hblk (fun g e => by have := (h.row_lt e).2; have := hb1.size; omega) (by have := h.base_le; have := hb1.size; omega)
    clear hov hv hb1 hd1 hown hblk hb2
    by_cases hlt : n < d.bs.length
    · have t1 : decide ((n : Int) < (d.bs.length : Int)) = true := decide_eq_true (by omega)
      have t1' : decide (n < d.bs.length) = true := decide_eq_true hlt
      by_cases h0 : e1 = 0
      · have HO := Lib.hid (HO3.out hlt h0)
        subst h0
        clear HO2 HO3 HO4 hlt
        go_wp2_with fail
        refine (hcut.out w2 hd2).mono ?_
        rintro e w3 ⟨rfl, r3, hd3, hk3, hr3⟩
        go_wp2_with fail
        go_ret3
        exact open_end hrow hd2 h HO.out hb12 hbS hc hd3 hk3 hr3 rfl hnn.out rfl
      · have HO := Lib.hid (HO2.out hlt h0)
        have t2 : ((e1 : Int) == 0) = false := beq_eq_false_iff_ne.2 (by omega)
        have t3 : ((e1 : Int) != 0) = true := bne_iff_ne.2 (by omega)
        clear HO2 HO3 HO4 hlt h0
        go_wp2_with fail
        refine (hcut.out w2 hd2).mono ?_
        rintro e w3 ⟨rfl, r3, hd3, hk3, hr3⟩
        go_wp2_with fail
        go_ret3
        rw [HO.out]
        exact ⟨r3, hd3, (Kr.of_below hb12).trans (.inl rfl) hk3, Rw.trans hb12.size (.inl rfl) hr3, rfl⟩
    · have HO := Lib.hid (HO4.out hlt)
      have t1 : decide ((n : Int) < (d.bs.length : Int)) = false := decide_eq_false (by omega)
      have t1' : decide (n < d.bs.length) = false := decide_eq_false hlt
      clear HO2 HO3 HO4 hlt hcut
      go_wp2_with fail
      go_ret3
      exact open_end hrow hd2 h HO.out hb12 hbS hc hd2 (Kr.refl _ _ _) (.inl rfl) rfl hnn.out rfl
end
end Go.Proofs.Ytcmopnkldplngaa
