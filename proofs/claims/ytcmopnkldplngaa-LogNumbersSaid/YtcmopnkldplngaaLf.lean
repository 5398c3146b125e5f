/- drover/log.oneByOne, Add: the walks. -/
import Derived.Test.YtcmopnkldplngaaLe
namespace Go.Proofs.Ytcmopnkldplngaa
open Go.RowKit

section
variable {w w' : World} {base p q : Nat} {r : Option Nat} {d : Pd} {l : Pl}
/-- Append, then Sync, up to the first error. -/
def addD (d : Pd) (y : List Nat) : Pd × Nat := if (d.app y).2 ≠ 0 then d.app y else (d.app y).1.sync
set_option maxHeartbeats 1600000 in
theorem oneByOne_any (bl bb g : Nat) (vb : Value) (y : List Nat) (h : Lg w base p q r d l) (hv : Bs w vb y)
    (hbl : w.heap[bl]? = some (.cells #[.pointer (some ⟨q, 0, none⟩)] 29 (0, 0))) (hbb : w.heap[bb]? = some (.cells #[vb] 22 (0, 0)))
    (hg : w.heap[g]? = some (.cells #[.func (.func 30) #[] #[.pointer (some ⟨bl, 0, none⟩), .pointer (some ⟨bb, 0, none⟩)], .func (.func 31) #[.pointer (some ⟨p, 0, none⟩)] #[]] 43 (0, 0))) :
    Calls Try.prog 29 #[.slice (some ⟨g, 0, none⟩) 2 2] w fun e w' => e = .returned (.int .i64 ((addD d y).2 : Int)) ∧ After w base p r (addD d y).1 w' := by
  have hg0 := cell_block hg 0
  have hg1 := cell_block hg 1
  have hgr := h.dk.row_ne hg (by decide)
  obtain ⟨cp, hcp⟩ := h.dk.at_
  have hgp : g ≠ p := by
    rintro rfl
    rw [hcp] at hg
    have := Option.some.inj hg
    simp at this
  have HA := Lib.hid (addF_any bl bb vb y h hv hbl hbb)
  have HD := Lib.hid h.dk
  have HR1 : Hid ((d.app y).2 ≠ 0 → addD d y = d.app y) := fun h => if_pos h
  have HR2 : Hid ((d.app y).2 = 0 → addD d y = (d.app y).1.sync) := fun h => if_neg (by rw [h]; decide)
  generalize addD d y = R at *
  generalize d.app y = D at *
  obtain ⟨d1, e1⟩ := D
  dsimp only at HA HR1 HR2
  clear h hbl hbb hv hcp
  go_enter Try.func29, Try.ntmps29
  go_wp2_with fail
  go_loopw [8] (fun i wr => (i = .int .i64 0 ∧ wr = w) ∨ (i = .int .i64 1 ∧ e1 = 0 ∧ After w base p r d1 wr) ∨ (i = .int .i64 2 ∧ e1 = 0 ∧ d1.sync.2 = 0 ∧ After w base p r d1.sync.1 wr)) (fun i _ => 2 - (intOf i).toNat)
  case atStart => exact .inl ⟨rfl, rfl⟩
  case round =>
    rcases hrel with ⟨rfl, rfl⟩ | ⟨rfl, rfl, ha1⟩ | ⟨rfl, rfl, h2, ha2⟩
    · go_wp2_with fail
      refine HA.out.mono ?_
      rintro e w1 ⟨rfl, ha⟩
      by_cases h0 : e1 = 0
      · subst h0
        go_wp2_with fail
        go_roundw
        case rel => exact .inr (.inl ⟨by go_num, by first | trivial | rfl, ha⟩)
        case measure => simp [intOf]
      · have t1 : ((e1 : Int) == 0) = false := beq_eq_false_iff_ne.2 (by omega)
        have t2 : ((e1 : Int) != 0) = true := bne_iff_ne.2 (by omega)
        have HR := Lib.hid (HR1.out h0)
        clear h0
        go_wp2_with fail
        go_ret
        rw [HR.out]
        exact ⟨rfl, ha⟩
    · obtain ⟨r1, hd1, hk1, hr1⟩ := id ha1
      have hg' := hk1.heap hg hgp hgr
      have hg1' := cell_block hg' 1
      have HS := Lib.hid (sync_any hd1)
      have HR := Lib.hid (HR2.out rfl)
      generalize d1.sync = D2 at *
      obtain ⟨d2, e2⟩ := D2
      dsimp only at HS
      clear hg0 hg1 hg' HA
      go_wp2_with fail
      refine HS.out.mono ?_
      rintro e w2 ⟨rfl, r2, hd2, hk2, hr2⟩
      have ha2 : After w base p r d2 w2 := ⟨r2, hd2, hk1.trans hr1 hk2, Rw.trans hk1.size hr1 hr2⟩
      by_cases h0 : e2 = 0
      · subst h0
        go_wp2_with fail
        go_roundw
        case rel => exact .inr (.inr ⟨by go_num, by first | trivial | rfl, by first | trivial | rfl, ha2⟩)
        case measure => simp [intOf]
      · have t1 : ((e2 : Int) == 0) = false := beq_eq_false_iff_ne.2 (by omega)
        have t2 : ((e2 : Int) != 0) = true := bne_iff_ne.2 (by omega)
        clear h0
        go_wp2_with fail
        go_ret
        rw [HR.out]
        exact ⟨rfl, ha2⟩
    · have HR := Lib.hid (HR2.out rfl)
      have H2 := Lib.hid h2
      clear h2
      go_wp2_with fail
      go_ret
      rw [HR.out, H2.out]
      exact ⟨rfl, ha2⟩
end
end Go.Proofs.Ytcmopnkldplngaa
