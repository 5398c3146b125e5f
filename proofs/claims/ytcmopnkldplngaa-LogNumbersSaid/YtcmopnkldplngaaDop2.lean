/- drover/disk: Append, Sync, Cut: the walks. -/
import Derived.Test.YtcmopnkldplngaaDop
namespace Go.Proofs.Ytcmopnkldplngaa
open Go.RowKit

section
variable {w : World} {base p : Nat} {r : Option Nat} {d : Pd}
set_option maxHeartbeats 400000 in
theorem syncF_any (ba : Nat) (h : Dk w base p r d) (hba : w.heap[ba]? = some (.cells #[.pointer (some ⟨p, 0, none⟩)] 24 (0, 0))) :
    Calls Try.prog 39 #[.pointer (some ⟨ba, 0, none⟩)] w fun e w' => e = .returned (.tuple #[]) ∧ After w base p r d.all w' := by
  obtain ⟨v, rfl, hb, hok, hown, hh⟩ := id h
  obtain ⟨A, c, rfl, hc, hcm, -⟩ := hown.form
  obtain ⟨⟨c0, c1, c2, c3, c4, c5, c6⟩, ⟨f0, f1, f2, f3, f4, f5, f6⟩⟩ := box7 hh
  have e0 := cell_of_one hba
  go_enter Try.func39, Try.ntmps39
  go_wp2_with fail
  go_region
  all_goals
    go_wp2_with fail
    go_end0
    refine ⟨rfl, _, h.drew.set d.all _ ((Kr.refl _ _ _).set _ _) hok.all rfl (fun v hv => heap_set hv 3 _) (row_set h.drew _ _ fun _ _ => rfl), ((Kr.refl _ _ _).drew).set _ _, .inl rfl⟩

set_option maxHeartbeats 400000 in
theorem cutF_any (ba bn n : Nat) (h : Dk w base p r d) (hn : n ≤ d.bs.length) (hba : w.heap[ba]? = some (.cells #[.pointer (some ⟨p, 0, none⟩)] 24 (0, 0))) (hbn : w.heap[bn]? = some (.cells #[.int .i64 (n : Int)] 3 (0, 0))) :
    Calls Try.prog 33 #[.pointer (some ⟨ba, 0, none⟩), .pointer (some ⟨bn, 0, none⟩)] w fun e w' => e = .returned (.tuple #[]) ∧ After w base p r (d.leave n) w' := by
  have e0 := cell_of_one hba
  have e1 := cell_of_one hbn
  go_enter Try.func33, Try.ntmps33
  go_wp2_with fail
  refine (leave_any h n hn).mono ?_
  rintro e w1 ⟨rfl, hd⟩
  go_wp2_with fail
  go_end0
  exact ⟨rfl, hd⟩

set_option maxHeartbeats 400000 in
theorem appF_any (ba bb : Nat) (vb : Value) (l : List Nat) (h : Dk w base p r d) (hl : ¬ d.most - d.bs.length < l.length) (hbw : base ≤ w.heap.size) (hv : Bs w vb l)
    (hba : w.heap[ba]? = some (.cells #[.pointer (some ⟨p, 0, none⟩)] 24 (0, 0))) (hbb : w.heap[bb]? = some (.cells #[vb] 22 (0, 0))) :
    Calls Try.prog 22 #[.pointer (some ⟨ba, 0, none⟩), .pointer (some ⟨bb, 0, none⟩)] w fun e w' => e = .returned (.tuple #[]) ∧ After w base p r (d.put l) w' := by
  obtain ⟨v, rfl, hb, hok, hown, hh⟩ := id h
  obtain ⟨A, c, rfl, hc, hcm, -⟩ := hown.form
  obtain ⟨⟨Al, cl, rfl, hcl, hal⟩, h8⟩ := hv
  obtain ⟨⟨c0, c1, c2, c3, c4, c5, c6⟩, ⟨f0, f1, f2, f3, f4, f5, f6⟩⟩ := box7 hh
  have e0 := cell_of_one hba
  have e1 := cell_of_one hbb
  have hm := hok.most
  have hll := hok.len
  go_enter Try.func22, Try.ntmps22
  go_wp2_with fail
  go_region_law
    (refine step_appd rfl (.tmp 6) (.tmp 7) rfl rfl hown.drew rfl hal.drew rfl (by omega) hbw ?_
     intro v3 w3 hown3 hg3 hrow
     have hh3 := (hg3.block p (lt_heap hh) (fun e => own_ne hown hh (by decide) e.symm)).trans hh
     have hba3 := (hg3.block ba (lt_heap hba) (fun e => own_ne hown hba (by decide) e.symm)).trans hba
     obtain ⟨⟨d0, d1, d2, d3, d4, d5, d6⟩, ⟨g0, g1, g2, g3, g4, g5, g6⟩⟩ := box7 hh3
     have d7 := cell_of_one hba3
     obtain ⟨A3, c3', rfl, _, _, _, _, _⟩ := id hown3.form
     rw [show (d.bs ++ l).length = d.bs.length + l.length by simp] at hown3 hrow)
  all_goals
    go_wp2_with fail
    go_end0
    refine ⟨rfl, _, ⟨_, rfl, hb, hok.put hl h8, ?_, heap_set hh3 2 _⟩, (((Kr.refl _ _ _).drew).grown (.inl rfl) hg3).set _ _, ?_⟩
    · exact own_kr (r := none) hown3 ((Kr.refl p _ _).set _ _) (own_ne hown3 hh3 (by decide)) (by simp)
    · rcases hrow with h1 | h1
      · exact .inl h1
      · exact .inr ⟨_, h1, Nat.le_refl _⟩
end
end Go.Proofs.Ytcmopnkldplngaa
