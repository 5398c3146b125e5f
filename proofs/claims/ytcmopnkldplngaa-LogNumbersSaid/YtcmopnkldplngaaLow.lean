/- drover/droverlow.SameBytes, CopyBytes, Pick: the walks. -/
import Derived.Test.YtcmopnkldplngaaOwn
namespace Go.Proofs.Ytcmopnkldplngaa
open Go.RowKit

def strOf (l : List Nat) : ByteArray := ⟨(l.map UInt8.ofNat).toArray⟩
theorem strOf_size (s : List Nat) : (strOf s).size = s.length := by
  show ((s.map UInt8.ofNat).toArray).size = _
  simp
theorem run_strOf (w : World) (B : Nat) (A : Option Addr) (c : Nat) (l : List Nat) (ha : At w B A (bv l)) (h8 : ∀ x ∈ l, x < 256) :
    (convert 22 9 (.slice A l.length c)).run Try.prog w = .ok (.string (strOf l)) w := by
  by_cases hl : l = []
  · subst hl
    rw [List.length_nil, run_convert_bytes_string w 22 9 5 A 0 c Try.underlying22 Try.underlying5 Try.underlying9]
    cases A <;> simp [Conv.bytesToString, loadCells, loadCellsFrom, strOf] <;> rfl
  · obtain ⟨b, o, rfl, hb, hc⟩ := ha.byte hl
    have := run_convert_bytes_back (P := Try.prog) w 22 9 5 ⟨b, o, none⟩ c (l.map UInt8.ofNat) Try.underlying22 Try.underlying5 Try.underlying9 (fun j hj => by
      have hj' : j < l.length := by simpa using hj
      rw [Addr.add_lit, hc j hj']
      have h1 := h8 (l[j]) (List.getElem_mem hj')
      simp [hj', UInt8.toNat_ofNat', Nat.mod_eq_of_lt h1])
    rw [List.length_map] at this
    exact this
theorem strOf_eq (l l' : List Nat) (h : ∀ x ∈ l, x < 256) (h' : ∀ x ∈ l', x < 256) : ((strOf l).toList == (strOf l').toList) = decide (l = l') := by
  rw [ByteArray.toList_eq, ByteArray.toList_eq]
  have e : (strOf l).data.toList = (strOf l').data.toList ↔ l = l' := by
    constructor
    · intro hh
      have h1 : l.map UInt8.ofNat = l'.map UInt8.ofNat := by simpa [strOf] using hh
      have inv : ∀ m : List Nat, (∀ x ∈ m, x < 256) → (m.map UInt8.ofNat).map UInt8.toNat = m := by
        intro m hm
        rw [List.map_map]
        conv => rhs; rw [← List.map_id m]
        apply List.map_congr_left
        intro x hx
        simp [UInt8.toNat_ofNat', Nat.mod_eq_of_lt (hm x hx)]
      rw [← inv l h, ← inv l' h', h1]
    · rintro rfl
      rfl
  by_cases hll : l = l'
  · rw [decide_eq_true hll, beq_iff_eq.2 (e.2 hll)]
  · rw [decide_eq_false hll, beq_eq_false_iff_ne.2 (fun hh => hll (e.1 hh))]

set_option maxHeartbeats 400000 in
theorem same_any (A A' : Option Addr) (n n' c c' : Nat) (l l' : List Nat) (r : Bool) (w : World) (B : Nat) (hl : l.length = n) (hl' : l'.length = n') (ha : At w B A (bv l)) (ha' : At w B A' (bv l')) (h8 : ∀ x ∈ l, x < 256) (h8' : ∀ x ∈ l', x < 256) (hr : decide (l = l') = r) :
    Calls Try.prog 34 #[.slice A n c, .slice A' n' c'] w fun e w' => e = .returned (.bool r) ∧ w = w' := by
  subst hl
  subst hl'
  have e1 := run_strOf w B A c l ha h8
  have e2 := run_strOf w B A' c' l' ha' h8'
  have e3 := strOf_eq l l' h8 h8'
  rw [hr] at e3
  generalize strOf l = s at *
  generalize strOf l' = s' at *
  go_enter Try.func34, Try.ntmps34
  go_wp2
  go_ret
  exact ⟨rfl, rfl⟩

set_option maxHeartbeats 400000 in
theorem copy_any (A : Option Addr) (n c : Nat) (l : List Nat) (w : World) (B : Nat) (hl : l.length = n) (ha : At w B A (bv l)) (hn : n ≤ 1099511627776) :
    Calls Try.prog 11 #[.slice A n c] w fun e w' => ∃ v, e = .returned v ∧ Own w' w.heap.size v l ∧ Below w.heap.size w w' := by
  go_enter Try.func11, Try.ntmps11
  go_wp2_with (at_builtin
               refine wpList_app rfl (.tmp 4) (.tmp 5) rfl rfl (Own.nil w w.heap.size) rfl ha hl (by simp; omega) (Nat.le_refl _) ?_
               intro v2 w2 hown2 hb2 _ _)
  go_ret
  exact ⟨v2, rfl, hown2, hb2⟩

end Go.Proofs.Ytcmopnkldplngaa
