/- A tuple's bytes, text and order out of its parts'. Plain mathematics. -/
import Derived.Test.YtfobmlicmbelnaaDoorRight02
import Derived.Test.YtfobmlicmbelnaaDoorShow
namespace Go.Proofs.YtfobmlicmbelnaaDoor
open Go.RowKit

theorem fold_up {f : Nat → Va → Option Nat} (d : Nat) (hf : ∀ v m m', f m v = some m' → f (m + d) v = some (m' + d)) : ∀ (l : List Va) (m m' : Nat), l.foldlM f m = some m' → l.foldlM f (m + d) = some (m' + d)
  | [], m, m', h => by
    simp [List.foldlM] at h ⊢
    omega
  | v :: l, m, m', h => by
    rw [List.foldlM_cons] at h ⊢
    cases hv : f m v with
    | none => rw [hv] at h; simp at h
    | some m1 =>
      rw [hv] at h
      rw [hf v m m1 hv]
      exact fold_up d hf l m1 m' h
theorem rgt_up : ∀ (L : Nat) (v : Va) (m m' d : Nat), rgt L v m = some m' → rgt L v (m + d) = some (m' + d)
  | 0, _, _, _, _, h => by simp [rgt] at h
  | L + 1, .mk k n s l, m, m', d, h => by
    obtain ⟨m1, rfl, hc⟩ := rgt_cases h
    rw [show m1 + 1 + d = (m1 + d) + 1 by omega]
    rcases hc with ⟨h1, h2, rfl⟩ | ⟨rfl, rfl, rfl, h4⟩
    · exact rgt_leaf h1 h2
    · rw [rgt_tuple]
      exact fold_up d (fun v m m' h => rgt_up L v m m' d h) l m1 m' h4
theorem fold_parts {f : Nat → Va → Option Nat} (hf : ∀ v m m', f m v = some m' → m' ≤ m) : ∀ (l : List Va) (m m' : Nat), l.foldlM f m = some m' → ∀ v ∈ l, ∃ a b, a ≤ m ∧ f a v = some b
  | [], _, _, _, v, hv => by simp at hv
  | x :: l, m, m', h, v, hv => by
    rw [List.foldlM_cons] at h
    cases hx : f m x with
    | none => rw [hx] at h; simp at h
    | some m1 =>
      rw [hx] at h
      rcases List.mem_cons.1 hv with rfl | hv
      · exact ⟨m, m1, Nat.le_refl _, hx⟩
      · obtain ⟨a, b, h1, h2⟩ := fold_parts hf l m1 m' h v hv
        exact ⟨a, b, Nat.le_trans h1 (hf x m m1 hx), h2⟩
theorem part_right {l : List Va} (h : right (.mk 4 0 [] l) = true) : ∀ t ∈ l, right t = true ∧ Rt 15 t := by
  intro t ht
  obtain ⟨m, hm⟩ := right_rgt h
  obtain ⟨m1, h1, hc⟩ := rgt_cases hm
  rcases hc with ⟨h4, _⟩ | ⟨_, _, _, hf⟩
  · exact absurd rfl h4
  · obtain ⟨a, b, ha, hab⟩ := fold_parts (fun v m m' h => by have := (rgt_rt 15 v m m' h).2; omega) l m1 m hf t ht
    have h16 := rgt_up 16 t a b (256 - a) (rgt_more 15 t a b hab)
    rw [show a + (256 - a) = 256 by omega] at h16
    refine ⟨?_, (rgt_rt 15 t a b hab).1⟩
    unfold right
    rw [h16]
    rfl
theorem tup_enc {l : List Va} (h : right (.mk 4 0 [] l) = true) (hl : l.length ≤ 10) : enc 16 (.mk 4 0 [] l) = 4 :: l.length :: l.flatMap (enc 16) := by
  rw [enc_tuple, varint_small _ (by omega), flatMap_same (f := enc 15) (g := enc 16) l (fun t ht => (enc_more 15 t (part_right h t ht).2).symm)]
  rfl
theorem tup_shw {l : List Va} (h : right (.mk 4 0 [] l) = true) : showT (.mk 4 0 [] l) = 40 :: (jn (l.map showT) ++ ((if l.length = 1 then [44] else []) ++ [41])) := by
  have e : l.map (shw 15) = l.map showT := by
    refine map_same l fun t ht => ?_
    unfold showT
    rw [if_pos (part_right h t ht).1, shw_more 15 t (part_right h t ht).2]
  have e0 : shw 16 (.mk 4 0 [] l) = 40 :: shT (l.map (shw 15)) := by simp [shw]
  unfold showT at e ⊢
  rw [if_pos h, e0, e, shT_jn, List.length_map]
theorem cmF_parts {l m : List Va} (h : ∀ t ∈ l, Rt 15 t) : cmF (cmv 15) l m = cmF cmV l m :=
  cmF_same l m fun x hx y => (cmv_more 15 x y (h x hx)).symm
theorem tup_cmp {l m : List Va} (h : right (.mk 4 0 [] l) = true) : cmV (.mk 4 0 [] l) (.mk 4 0 [] m) = if l.length < m.length then -1 else if m.length < l.length then 1 else cmF cmV l m := by
  rw [← cmF_parts (fun t ht => (part_right h t ht).2)]
  unfold cmV
  rw [cmv_same]
  unfold cmb
  rw [if_neg (by omega), if_neg (by omega), if_pos rfl]
  unfold sg
  by_cases h1 : l.length < m.length
  · rw [if_pos (by omega), if_pos (by omega), if_pos h1]
  · by_cases h2 : m.length < l.length
    · rw [if_pos (by omega), if_neg (by omega), if_pos (by omega), if_neg h1, if_pos h2]
    · rw [if_neg (by omega), if_neg h1, if_neg h2]
theorem add_str (a b : List Nat) (x y z : ByteArray) (hx : x = strOf a) (hy : y = strOf b) (hz : z = strOf (a ++ b)) (h : a.length + b.length ≤ 100000000) (w : World) : (Op.stringOp .add x y).run Tryd.prog w = .ok (.string z) w := by
  subst hx hy hz
  have e : strOf (a ++ b) = strOf a ++ strOf b := by
    apply ByteArray.ext
    rw [ByteArray.data_append]
    simp [strOf]
  rw [e]
  exact run_string_add_sum (P := Tryd.prog) (w := w) (strOf a) (strOf b) (by rw [strOf_size, strOf_size]; omega)
end Go.Proofs.YtfobmlicmbelnaaDoor
