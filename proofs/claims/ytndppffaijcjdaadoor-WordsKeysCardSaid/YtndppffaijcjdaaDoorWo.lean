/- Helpers of layer 8's WordsKeys: names, the keys' row, Pick. -/
import Derived.Test.YtndppffaijcjdaaDoorWm
import Derived.Test.YtndppffaijcjdaaDoorShelfB
import Derived.IntWalk
namespace Go.Proofs.YtndppffaijcjdaaDoor
open Go.RowKit
set_option linter.unusedVariables false

theorem tw_all_self {p : Nat → Bool} : ∀ (l : List Nat), (∀ x ∈ l, p x = true) → l.takeWhile p = l
  | [], _ => rfl
  | x :: r, h => by rw [List.takeWhile_cons, if_pos (h x (by simp)), tw_all_self r (fun y hy => h y (by simp [hy]))]
theorem ltr_facts {x : Nat} (h : ltr x = true) : dig x = false ∧ x ≠ 34 ∧ pasB false x = false ∧ blk x = false := by
  simp [ltr] at h
  refine ⟨?_, by omega, ?_, ?_⟩
  · simp [dig]; omega
  · simp [pasB]; omega
  · simp [blk]; omega
/-- A text that is one name is told whole. -/
theorem nxt_name (x : Nat) (r : List Nat) (hx : ltr x = true) (hr : ∀ y ∈ x :: r, wrd y = true) (hl : (x :: r).length ≤ 1000) :
    nxtV (x :: r) 0 = ansV (if x :: r ∈ keys then 4 else 3) (strOf (x :: r)) 0 1 0 (x :: r).length 0 0 := by
  obtain ⟨h1, h2, h3, h4⟩ := ltr_facts hx
  have hp : pas false (x :: r) = 0 := by rw [pas, h3, h4]; rfl
  have e1 : atW (x :: r) 0 = 0 := by unfold atW; rw [List.drop_zero, hp]
  have e2 : lnW (x :: r) 0 = 1 := by unfold lnW; rw [e1]; rfl
  have e3 := tw_all_self (x :: r) hr
  have e4 : tok (x :: r) = some ⟨if x :: r ∈ keys then 4 else 3, 0, x :: r, (x :: r).length⟩ := by
    unfold tok
    simp only
    rw [if_neg (by simp [h1]), if_neg h2, if_pos hx, e3]
  unfold nxtV
  rw [if_neg (by omega), if_neg (by omega)]
  simp only [Int.toNat_zero]
  rw [e1, e2, List.drop_zero, e4]
  simp [ansV, wrdV, flt]
theorem key_facts : ∀ p, p < 18 → (keys.getD p []) ∈ keys ∧ (keys.getD p [] ++ [95]) ∉ keys ∧ (keys.getD p []).length ≤ 6 ∧ (∃ x r, keys.getD p [] = x :: r ∧ ltr x = true) ∧ (∀ y ∈ keys.getD p [], wrd y = true ∧ y < 256) := by
  have h : ∀ p : Fin 18, (keys.getD p.val []) ∈ keys ∧ (keys.getD p.val [] ++ [95]) ∉ keys ∧ (keys.getD p.val []).length ≤ 6 ∧ (ltr ((keys.getD p.val []).headD 0) = true ∧ keys.getD p.val [] ≠ []) ∧ (∀ y ∈ keys.getD p.val [], wrd y = true ∧ y < 256) := by decide +kernel
  intro p hp
  obtain ⟨h1, h2, h3, h4, h5⟩ := h ⟨p, hp⟩
  refine ⟨h1, h2, h3, ?_, h5⟩
  generalize keys.getD p [] = T at h4
  match T, h4 with
  | x :: r, h4 => exact ⟨x, r, rfl, h4.1⟩
theorem pickk_any (k n : Int) (w : World) (hn : 0 < n) (hn' : n ≤ 9223372036854775807) :
    Calls Tryd.prog 18 #[.int .i64 k, .int .i64 n] w fun e w' => e = .returned (.int .i64 (k % n)) ∧ w' = w := by
  have h1 := Int.emod_nonneg k (show n ≠ 0 by omega)
  have h2 := Int.emod_lt_of_pos k hn
  by_cases hk : 0 ≤ k
  · go_enter Tryd.func18, Tryd.ntmps18
    go_wp2
    go_ret
    exact ⟨rfl, rfl⟩
  · have ht : (k.tmod n = k % n ∧ 0 ≤ k.tmod n) ∨ (k.tmod n = k % n - n ∧ k.tmod n < 0) := by
      rw [Int.tmod_eq_emod]
      split
      · exact .inl ⟨by omega, by omega⟩
      · exact .inr ⟨by omega, by omega⟩
    rcases ht with ⟨e, ht⟩ | ⟨e, ht⟩
    · have HE := Lib.hid e
      clear e
      go_enter Tryd.func18, Tryd.ntmps18
      go_wp2
      go_ret
      exact ⟨congrArg Ending.returned (congrArg (Value.int .i64) HE.out), rfl⟩
    · have hw : wrap64 (k.tmod n + n) = k % n := by
        rw [IntWalk.wrap64_in _ ⟨by omega, by omega⟩]
        omega
      have HW := Lib.hid hw
      clear e hw
      go_enter Tryd.func18, Tryd.ntmps18
      go_wp2
      all_goals go_ret
      all_goals exact ⟨congrArg Ending.returned (congrArg (Value.int .i64) HW.out), rfl⟩
/-- The text of all keys, and their row. -/
def keyT : List Nat := (keys.map fun s => s ++ [32]).flatten.dropLast
def keyO : Obj := .cells (keys.map fun s => Value.string (strOf s)).toArray 9
theorem keyO_at (w : World) (p : Nat) (hp : p < 18) (g : Nat) (hg : w.heap[g]? = some keyO) : w.cell? ⟨g, p, none⟩ = some (.string (strOf (keys.getD p []))) := by
  unfold keyO at hg
  rw [cell_block hg p]
  have h18 : keys.length = 18 := by decide
  rw [List.getElem?_toArray, List.getElem?_map, List.getElem?_eq_getElem (by omega), List.getD_eq_getElem?_getD, List.getElem?_eq_getElem (by omega)]
  rfl
theorem fields_keys : Lib.fields (strOf keyT).data.toList = keys.map fun s => s.map UInt8.ofNat := by kernel_rfl
theorem fields_any (S : ByteArray) (hS : S = strOf keyT) (w : World) (htab : Lib.TabIs Tryd.prog w "strings.asciiSpace" .u8 Lib.asciiSpaceTab) :
    Calls Tryd.prog 17 #[.string S] w fun e w' => e = .returned (.slice (some ⟨w.heap.size, 0, none⟩) 18 18) ∧ w' = w.alloc keyO := by
  subst hS
  refine (Tryd.strings_Fields (strOf keyT) w (by rw [strOf_size]; decide) ?_ htab).mono ?_
  · intro j b hb
    have h : ∀ x ∈ (strOf keyT).data.toList, x.toNat < 128 := by
      rw [strOf_data]
      decide +kernel
    exact h b (List.mem_of_getElem? hb)
  · rintro e w' ⟨rfl, rfl⟩
    rw [fields_keys]
    refine ⟨?_, ?_⟩
    · rw [List.length_map]; rfl
    · unfold keyO
      rw [List.map_map]
      rfl
end Go.Proofs.YtndppffaijcjdaaDoor
