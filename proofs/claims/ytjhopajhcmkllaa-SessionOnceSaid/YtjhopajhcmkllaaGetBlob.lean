/- drover/bytes.GetBlob: the walk. -/
import Derived.Test.YtjhopajhcmkllaaGetInt
import Derived.Deep.DeepFit
namespace Go.Proofs.Ytjhopajhcmkllaa
open Go.RowKit

/-- GetBlob's answer at a place that may be. -/
def gb (l : List Nat) (at_ : Nat) (most : Int) : List Nat × Nat × Nat :=
  if (gu l at_).2.2 ≠ 0 then ([], 0, (gu l at_).2.2)
  else if most < 0 ∨ most < ((gu l at_).1 : Int) then ([], 0, 3)
  else if l.length - (gu l at_).2.1 < (gu l at_).1 then ([], 0, 11)
  else ((l.drop (gu l at_).2.1).take (gu l at_).1, (gu l at_).2.1 + (gu l at_).1, 0)
def GbPost (r : List Nat × Nat × Nat) (w : World) (e : Ending) (w' : World) : Prop := ∃ v, e = .returned (.tuple #[v, .int .i64 (r.2.1 : Int), .int .i64 (r.2.2 : Int)]) ∧ Own w' w.heap.size v r.1 ∧ Below w.heap.size w w'

theorem At.mid {w : World} {B : Nat} {A : Option Addr} {l : List Nat} (h : At w B A (bv l)) (k x : Nat) : At w B (A.map (·.add k)) (bv ((l.drop k).take x)) := by
  have := (h.cut k (l.length + k + 1) (by simp [bv_length]; omega)).take x
  rw [if_neg (by omega), ← bv_drop, ← bv_take] at this
  exact this
theorem At.past {w : World} {B : Nat} {A : Option Addr} {l : List Nat} {k x : Nat} (h : l.length ≤ k) : At w B A (bv ((l.drop k).take x)) := by
  rw [List.drop_eq_nil_of_le h, List.take_nil]
  exact At.nil _ _ _

set_option maxRecDepth 100000 in
set_option maxHeartbeats 1000000 in
theorem getblob_any (A : Option Addr) (n c : Nat) (l : List Nat) (at_ : Nat) (most : Int) (w : World) (B : Nat) (hl : l.length = n) (ha : At w B A (bv l)) (hB : B ≤ w.heap.size) (hc : n ≤ c) (hn : n ≤ 1099511627776) (h8 : ∀ x ∈ l, x < 256) (hat : at_ ≤ n)
    (hm : -9223372036854775808 ≤ most) (hm' : most ≤ 9223372036854775807) :
    Calls Try.prog 69 #[.slice A n c, .int .i64 (at_ : Int), .int .i64 most] w (GbPost (gb l at_ most) w) := by
  subst hl
  have HR : Hid (gb l at_ most = if (gu l at_).2.2 ≠ 0 then ([], 0, (gu l at_).2.2)
    else if most < 0 ∨ most < ((gu l at_).1 : Int) then ([], 0, 3)
    else if l.length - (gu l at_).2.1 < (gu l at_).1 then ([], 0, 11)
    else ((l.drop (gu l at_).2.1).take (gu l at_).1, (gu l at_).2.1 + (gu l at_).1, 0)) := rfl
  obtain ⟨hu, h0, h1⟩ := gu_bounds l at_ hat
  generalize gb l at_ most = R at *
  go_enter Try.func69, Try.ntmps69
  go_wp2_with fail
  refine (getuint_any A l.length c l at_ w B rfl ha hn h8 hat).mono ?_
  rintro e w1 ⟨rfl, rfl⟩
  generalize gu l at_ = r at *
  obtain ⟨x, k, e⟩ := r
  dsimp only at *
  by_cases he : e = 0
  · subst he
    obtain ⟨hk1, hk2⟩ := h1 rfl
    clear h0 h1
    by_cases hlong : most < 0 ∨ most < (x : Int)
    · have HF : Hid (R = ([], 0, 3)) := by rw [HR.out, if_neg (by simp), if_pos hlong]; rfl
      clear HR
      by_cases hneg : most < 0
      · clear hlong
        go_wp2
        go_ret3
        exact ⟨.slice none 0 0, by rw [HF.out]; rfl, by rw [HF.out]; exact Own.nil _ _, Below.refl _ _⟩
      · have hx : most < (x : Int) := by omega
        clear hlong
        go_wp2
        go_ret3
        exact ⟨.slice none 0 0, by rw [HF.out]; rfl, by rw [HF.out]; exact Own.nil _ _, Below.refl _ _⟩
    · have hm0 : 0 ≤ most := by omega
      have hx : (x : Int) ≤ most := by omega
      by_cases hs : l.length - k < x
      · have HF : Hid (R = ([], 0, 11)) := by rw [HR.out, if_neg (by simp), if_neg hlong, if_pos hs]; rfl
        clear HR hlong
        go_wp2
        go_ret3
        exact ⟨.slice none 0 0, by rw [HF.out]; rfl, by rw [HF.out]; exact Own.nil _ _, Below.refl _ _⟩
      · have HF : Hid (R = ((l.drop k).take x, k + x, 0)) := by rw [HR.out, if_neg (by simp), if_neg hlong, if_neg hs]; rfl
        have hx2 : (x : Int) ≤ (l.length : Int) - k := by omega
        clear HR hlong
        have hmid := ha.mid k x
        have hpast : c = k → At w B A (bv ((l.drop k).take x)) := fun _ => At.past (by omega)
        have hlen : ((l.drop k).take x).length = x := by simp; omega
        have HF := Lib.hid HF
        generalize (l.drop k).take x = ys at *
        have Hlen := Lib.hid hlen
        clear hlen
        by_cases hck : c = k
        · have hx0 : x = 0 := by omega
          have hp := hpast hck
          subst hx0
          clear hpast hmid
          go_wp2_with fail
          refine (own_any A 0 _ ys 0 w B Hlen.out hp (by omega) hB).mono ?_
          rintro e w2 ⟨v, rfl, hown, hb⟩
          go_wp2
          go_ret3
          exact ⟨v, by rw [HF.out.out]; exact ret3 rfl (congrArg (Value.int .i64) (by simp)) rfl, by rw [HF.out.out]; exact hown, hb⟩
        · clear hpast
          go_wp2_with fail
          refine (own_any (Option.map (fun x => x.add k) A) x (c - k) ys 0 w B Hlen.out hmid (by omega) hB).mono ?_
          rintro e w2 ⟨v, rfl, hown, hb⟩
          go_wp2
          go_ret3
          exact ⟨v, by rw [HF.out.out]; exact ret3 rfl (congrArg (Value.int .i64) (by simp)) rfl, by rw [HF.out.out]; exact hown, hb⟩
  · obtain ⟨rfl, rfl⟩ := h0 he
    have hz : ((e : Int) == 0) = false := by simp; omega
    have hz' : ((e : Int) != 0) = true := by simp; omega
    have HF : Hid (R = ([], 0, e)) := by rw [HR.out, if_pos he]; rfl
    clear he h0 HR h1
    go_wp2
    go_ret3
    exact ⟨.slice none 0 0, by rw [HF.out]; rfl, by rw [HF.out]; exact Own.nil _ _, Below.refl _ _⟩
end Go.Proofs.Ytjhopajhcmkllaa
