/- drover/value.getParts, getTruth, getActor: the walks. -/
import Derived.Test.YtfobmlicmbelnaaDoorRight
import Derived.Test.YtfobmlicmbelnaaDoorBs
namespace Go.Proofs.YtfobmlicmbelnaaDoor
open Go.RowKit

def gp (l : List Nat) (at_ : Nat) : Nat × Nat × Nat := if (gu l at_).2.2 ≠ 0 then (0, 0, (gu l at_).2.2) else if 256 < (gu l at_).1 then (0, 0, 13) else ((gu l at_).1, (gu l at_).2.1, 0)
def gt (l : List Nat) (at_ : Nat) : Nat × Nat × Nat := if at_ = l.length then (0, 0, 11) else if 1 < l.getD at_ 0 then (0, 0, 10) else (l.getD at_ 0, at_ + 1, 0)
def ga (l : List Nat) (at_ : Nat) : Int × Nat × Nat := if (gu l at_).2.2 ≠ 0 then (0, 0, (gu l at_).2.2) else if un (gu l at_).1 < 0 then (0, 0, 13) else (un (gu l at_).1, (gu l at_).2.1, 0)
def G3 (x : Int) (k e : Nat) (w : World) (en : Ending) (w' : World) : Prop := en = .returned (.tuple #[.int .i64 x, .int .i64 (k : Int), .int .i64 (e : Int)]) ∧ w = w'
theorem g3 {x : Int} {k e : Nat} {w w' : World} (a b c : Int) (ha : a = x) (hb : b = k) (hc : c = e) (hw : w = w') : G3 x k e w (.returned (.tuple #[.int .i64 a, .int .i64 b, .int .i64 c])) w' := by
  subst ha hb hc hw
  exact ⟨rfl, rfl⟩

set_option maxRecDepth 100000 in
set_option maxHeartbeats 400000 in
theorem getparts_any (v : Value) (l : List Nat) (at_ : Nat) (w : World) (h : Bs w v l) (hn : l.length ≤ 1099511627776) (hat : at_ ≤ l.length) :
    Calls Tryd.prog 51 #[v, .int .i64 (at_ : Int)] w (G3 ((gp l at_).1 : Nat) (gp l at_).2.1 (gp l at_).2.2 w) := by
  have hc := getuint_bs v l at_ w h hn hat
  obtain ⟨hu, h0, h1⟩ := gu_bounds l at_ hat
  have HP : Hid (gp l at_ = if (gu l at_).2.2 ≠ 0 then (0, 0, (gu l at_).2.2) else if 256 < (gu l at_).1 then (0, 0, 13) else ((gu l at_).1, (gu l at_).2.1, 0)) := rfl
  obtain ⟨⟨A, c, rfl, hc', ha⟩, h8⟩ := h
  generalize gp l at_ = R at *
  generalize gu l at_ = r at *
  obtain ⟨x, k, e⟩ := r
  dsimp only at *
  by_cases he : e = 0
  · subst he
    clear h0 h1
    by_cases hx : 256 < x
    · have HR : Hid (R = (0, 0, 13)) := by rw [HP.out, if_neg (by simp), if_pos hx]; rfl
      have g2 : decide ((256 : Int) < (x : Int)) = true := by simp; omega
      clear HP
      go_enter Tryd.func51, Tryd.ntmps51
      go_wp2_with fail
      refine hc.mono ?_
      rintro e w1 ⟨rfl, rfl⟩
      go_wp2_with fail
      go_ret3
      rw [HR.out]
      exact g3 _ _ _ rfl rfl rfl rfl
    · have HR : Hid (R = (x, k, 0)) := by rw [HP.out, if_neg (by simp), if_neg hx]; rfl
      have g2 : decide ((256 : Int) < (x : Int)) = false := by simp; omega
      have hx' : x ≤ 256 := by omega
      clear HP hx
      go_enter Tryd.func51, Tryd.ntmps51
      go_wp2_with fail
      refine hc.mono ?_
      rintro e w1 ⟨rfl, rfl⟩
      go_wp2_with fail
      go_ret3
      rw [HR.out]
      exact g3 _ _ _ rfl rfl rfl rfl
  · have HR : Hid (R = (0, 0, e)) := by rw [HP.out, if_pos he]; rfl
    have g1 : ((e : Int) == 0) = false := by simp; omega
    have g2 : ((e : Int) != 0) = true := by simp; omega
    clear HP he h0 h1
    go_enter Tryd.func51, Tryd.ntmps51
    go_wp2_with fail
    refine hc.mono ?_
    rintro e w1 ⟨rfl, rfl⟩
    go_wp2_with fail
    go_ret3
    rw [HR.out]
    exact g3 _ _ _ rfl rfl rfl rfl

set_option maxRecDepth 100000 in
set_option maxHeartbeats 400000 in
theorem getactor_any (v : Value) (l : List Nat) (at_ : Nat) (w : World) (h : Bs w v l) (hn : l.length ≤ 1099511627776) (hat : at_ ≤ l.length) :
    Calls Tryd.prog 70 #[v, .int .i64 (at_ : Int)] w (G3 (ga l at_).1 (ga l at_).2.1 (ga l at_).2.2 w) := by
  have hc := getint_bs v l at_ w h hn hat
  obtain ⟨hu, h0, h1⟩ := gu_bounds l at_ hat
  have HP : Hid (ga l at_ = if (gu l at_).2.2 ≠ 0 then (0, 0, (gu l at_).2.2) else if un (gu l at_).1 < 0 then (0, 0, 13) else (un (gu l at_).1, (gu l at_).2.1, 0)) := rfl
  obtain ⟨⟨A, c, rfl, hc', ha⟩, h8⟩ := h
  generalize ga l at_ = R at *
  generalize gu l at_ = r at *
  obtain ⟨x, k, e⟩ := r
  dsimp only at *
  have hub := un_bounds x hu
  by_cases he : e = 0
  · subst he
    clear h0 h1
    by_cases hx : un x < 0
    · have HR : Hid (R = (0, 0, 13)) := by rw [HP.out, if_neg (by simp), if_pos hx]; rfl
      clear HP
      go_enter Tryd.func70, Tryd.ntmps70
      go_wp2_with fail
      refine hc.mono ?_
      rintro e w1 ⟨rfl, rfl⟩
      dsimp only
      generalize un x = u at *
      go_wp2_with fail
      go_ret3
      rw [HR.out]
      exact g3 _ _ _ rfl rfl rfl rfl
    · have HR : Hid (R = (un x, k, 0)) := by rw [HP.out, if_neg (by simp), if_neg hx]; rfl
      clear HP
      go_enter Tryd.func70, Tryd.ntmps70
      go_wp2_with fail
      refine hc.mono ?_
      rintro e w1 ⟨rfl, rfl⟩
      dsimp only
      generalize un x = u at *
      go_wp2_with fail
      go_ret3
      rw [HR.out]
      exact g3 _ _ _ rfl rfl rfl rfl
  · have HR : Hid (R = (0, 0, e)) := by rw [HP.out, if_pos he]; rfl
    have g1 : ((e : Int) == 0) = false := by simp; omega
    have g2 : ((e : Int) != 0) = true := by simp; omega
    clear HP he h0 h1
    go_enter Tryd.func70, Tryd.ntmps70
    go_wp2_with fail
    refine hc.mono ?_
    rintro e w1 ⟨rfl, rfl⟩
    dsimp only
    generalize un x = u at *
    go_wp2_with fail
    go_ret3
    rw [HR.out]
    exact g3 _ _ _ rfl rfl rfl rfl

set_option maxRecDepth 100000 in
set_option maxHeartbeats 400000 in
theorem gettruth_any (v : Value) (l : List Nat) (at_ : Nat) (w : World) (h : Bs w v l) (hn : l.length ≤ 1099511627776) (hat : at_ ≤ l.length) :
    Calls Tryd.prog 68 #[v, .int .i64 (at_ : Int)] w (G3 ((gt l at_).1 : Nat) (gt l at_).2.1 (gt l at_).2.2 w) := by
  have HP : Hid (gt l at_ = if at_ = l.length then (0, 0, 11) else if 1 < l.getD at_ 0 then (0, 0, 10) else (l.getD at_ 0, at_ + 1, 0)) := rfl
  obtain ⟨⟨A, c, rfl, hc', ha⟩, h8⟩ := h
  generalize gt l at_ = R at *
  by_cases he : at_ = l.length
  · have HR : Hid (R = (0, 0, 11)) := by rw [HP.out, if_pos he]; rfl
    have g1 : ((at_ : Int) == (l.length : Int)) = true := by rw [he]; simp
    clear HP he
    go_enter Tryd.func68, Tryd.ntmps68
    go_wp2_with fail
    go_ret3
    rw [HR.out]
    exact g3 _ _ _ rfl rfl rfl rfl
  · have hlt : at_ < l.length := by omega
    have g1 : ((at_ : Int) == (l.length : Int)) = false := beq_eq_false_iff_ne.2 (by omega)
    obtain ⟨b, o, rfl, hb, hcell⟩ := ha.byte (by intro h0; subst h0; simp at hlt)
    have c0 := hcell at_ hlt
    have hx8 : l.getD at_ 0 < 256 := by
      have := h8 (l[at_]) (List.getElem_mem hlt)
      simpa [hlt] using this
    have H8 := Lib.hid h8
    have HC := Lib.hid hcell
    clear hcell h8
    generalize l.getD at_ 0 = x at *
    by_cases hx : 1 < x
    · have HR : Hid (R = (0, 0, 10)) := by rw [HP.out, if_neg he, if_pos hx]; rfl
      clear HP he
      go_enter Tryd.func68, Tryd.ntmps68
      go_wp2_with fail
      go_ret3
      rw [HR.out]
      exact g3 _ _ _ rfl rfl rfl rfl
    · have HR : Hid (R = (x, at_ + 1, 0)) := by rw [HP.out, if_neg he, if_neg hx]; rfl
      have hx' : x ≤ 1 := by omega
      clear HP he hx
      go_enter Tryd.func68, Tryd.ntmps68
      go_wp2_with fail
      go_ret3
      rw [HR.out]
      exact g3 _ _ _ rfl rfl rfl rfl
end Go.Proofs.YtfobmlicmbelnaaDoor
