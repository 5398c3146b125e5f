/- drover/value.Get: the walk. -/
import Derived.Test.YtfobmlicmbelnaaDoorGet1
import Derived.Laws.EntriesVeiled
namespace Go.Proofs.YtfobmlicmbelnaaDoor
open Go.RowKit

def OutGet (r : Except Nat (Va × Nat × Nat)) (w : World) (e : Ending) (w' : World) : Prop := Below w.heap.size w w' ∧ match r with
  | .error er => e = .returned (.tuple #[zeroV, .int .i64 0, .int .i64 ((er : Nat) : Int)])
  | .ok (t, nx, _) => ∃ x, e = .returned (.tuple #[x, .int .i64 ((nx : Nat) : Int), .int .i64 0]) ∧ RepS w' (fun b => w.heap.size ≤ b ∧ b < w'.heap.size) x t
def getR (l : List Nat) (at_ : Int) : Except Nat (Va × Nat × Nat) := if at_ < 0 ∨ (l.length : Int) < at_ then .error 2 else dec l 16 at_.toNat 256

set_option maxRecDepth 100000 in
set_option maxHeartbeats 800000 in
theorem get_any (v : Value) (l : List Nat) (at_ : Int) (w : World) (h : Bs w v l) (hn : l.length ≤ 1099511627776) :
    Calls Tryd.prog 22 #[v, .int .i64 at_] w (OutGet (getR l at_) w) := by
  obtain ⟨⟨A, c, rfl, hc, ha⟩, h8⟩ := h
  have H8 := Lib.hid h8
  clear h8
  by_cases hbad : at_ < 0 ∨ (l.length : Int) < at_
  · have HR : Hid (getR l at_ = .error 2) := by show _ = _; rw [getR, if_pos hbad]
    rcases hbad with hb | hb
    · go_enter Tryd.func22, Tryd.ntmps22
      go_wp2_with fail
      refine bodyPost_ret (v := .tuple #[zeroV, .int .i64 0, .int .i64 2]) (by simp [results, Tryd.results22, go_sem, zeroV]) rfl ?_
      rw [HR.out]
      exact ⟨two _ _ _, rfl⟩
    · have h0 : ¬ at_ < 0 := by omega
      have h0' : decide (at_ < 0) = false := by simp; omega
      go_enter Tryd.func22, Tryd.ntmps22
      go_wp2_with fail
      refine bodyPost_ret (v := .tuple #[zeroV, .int .i64 0, .int .i64 2]) (by simp [results, Tryd.results22, go_sem, zeroV]) rfl ?_
      rw [HR.out]
      exact ⟨two _ _ _, rfl⟩
  · obtain ⟨n, rfl⟩ : ∃ n : Nat, at_ = (n : Int) := ⟨at_.toNat, by omega⟩
    have hnl : n ≤ l.length := by omega
    have HR : Hid (getR l (n : Int) = dec l 16 n 256) := by show _ = _; rw [getR, if_neg hbad]; simp
    have h0 : ¬ (n : Int) < 0 := by omega
    have h0' : decide ((n : Int) < 0) = false := by simp
    have h1' : decide ((l.length : Int) < (n : Int)) = false := by simp; omega
    have h1 : ¬ (l.length : Int) < (n : Int) := by omega
    clear hbad
    go_enter Tryd.func22, Tryd.ntmps22
    go_wp2_with fail
    have hb : ∀ (o o' o'' o3 : Obj), Below w.heap.size w ((((w.alloc o).alloc o').alloc o'').alloc o3) := fun o o' o'' o3 => ((two w o o').alloc (by simp; omega) o'').alloc (by simp; omega) o3
    have hbs : BsB w w.heap.size (.slice A l.length c) l := ⟨⟨A, c, rfl, hc, ha⟩, H8.out⟩
    refine (get1_any 16 n 256 l _ 1 _ w.heap.size (w.heap.size + 1 + 1) w.heap.size (w.heap.size + 1 + 1 + 1) (by omega) (by omega) (by omega) hnl hn (hbs.below (hb _ _ _ _)) (by omega) (hb _ _ _ _).size (by omega) (by omega) ?cc ?cb ?cf).mono ?ce
    case cc => exact heap_old (heap_new' _ _ _ (by simp)) _
    case cb => exact heap_old (heap_old (heap_old (heap_new _ _) _) _) _
    case cf => exact heap_new' _ _ _ (by simp)
    intro e w1 hpost
    obtain ⟨r, hr⟩ : ∃ r, dec l 16 n 256 = r := ⟨_, rfl⟩
    rw [hr] at hpost
    have HK : Hid (getR l (n : Int) = r) := by show _ = _; rw [HR.out, hr]
    clear hr HR
    have hres : ∀ (o o'' o3 : Obj), ((((w.alloc o).alloc (.cells #[.int .u8 0, .int .i64 0, .string ⟨#[]⟩, .slice none 0 0] 25)).alloc o'').alloc o3).heap[w.heap.size + 1]? = some (.cells #[.int .u8 0, .int .i64 0, .string ⟨#[]⟩, .slice none 0 0] 25 (0, 0)) := fun o o'' o3 => heap_old (heap_old (heap_new' _ _ _ (by simp)) _) _
    cases r with
    | error er =>
      obtain ⟨z, rfl, hc3, hk3⟩ := hpost
      have hb3 : Below w.heap.size w w1 := (hb _ _ _ _).trans (hk3.below (by omega) (hb _ _ _ _).size)
      have q1 := hk3.heap (hres _ _ _) (by omega)
      obtain ⟨p0, p1, p2, p3⟩ := box4 q1
      have f0 : w1.frozen? ⟨w.heap.size + 1, 0, none⟩ = false := Lib.frozen_of_heap q1 0
      have f1 : w1.frozen? ⟨w.heap.size + 1, 1, none⟩ = false := Lib.frozen_of_heap q1 1
      have f2 : w1.frozen? ⟨w.heap.size + 1, 2, none⟩ = false := Lib.frozen_of_heap q1 2
      have f3 : w1.frozen? ⟨w.heap.size + 1, 3, none⟩ = false := Lib.frozen_of_heap q1 3
      clear hk3 hb hres
      unfold zeroV
      go_wp2_with fail
      refine bodyPost_ret (v := .tuple #[zeroV, .int .i64 0, .int .i64 (er : Int)]) (by simp [results, Tryd.results22, go_sem, zeroV, p0, p1, p2, p3]) rfl ?_
      rw [HK.out]
      exact ⟨(((hb3.setCell (by simp) _).setCell (by simp) _).setCell (by simp) _).setCell (by simp) _, rfl⟩
    | ok r =>
      obtain ⟨t, nx, m3⟩ := r
      obtain ⟨x1, rfl, hx1, hc3, hk3⟩ := hpost
      have hb3 : Below w.heap.size w w1 := (hb _ _ _ _).trans (hk3.below (by omega) (hb _ _ _ _).size)
      have q1 := hk3.heap (hres _ _ _) (by omega)
      obtain ⟨p0, p1, p2, p3⟩ := box4 q1
      have f0 : w1.frozen? ⟨w.heap.size + 1, 0, none⟩ = false := Lib.frozen_of_heap q1 0
      have f1 : w1.frozen? ⟨w.heap.size + 1, 1, none⟩ = false := Lib.frozen_of_heap q1 1
      have f2 : w1.frozen? ⟨w.heap.size + 1, 2, none⟩ = false := Lib.frozen_of_heap q1 2
      have f3 : w1.frozen? ⟨w.heap.size + 1, 3, none⟩ = false := Lib.frozen_of_heap q1 3
      have hx2 : RepS w1 (fun b => w.heap.size + 4 ≤ b ∧ b < w1.heap.size) x1 t := hx1.wider fun b h => ⟨by have := h.1; simp at this; omega, h.2⟩
      obtain ⟨kt, nt, st, lt⟩ := t
      obtain ⟨z0, z1, z2, z3, rfl⟩ := hx1.form
      obtain ⟨At1, ct, rfl, rfl, rfl, rfl, -⟩ := hx1.parts
      clear hk3 hb hres hx1
      go_wp2_with fail
      refine bodyPost_ret (v := .tuple #[.agg #[.int .u8 (kt : Int), .int .i64 nt, .string (strOf st), .slice At1 lt.length ct], .int .i64 (nx : Int), .int .i64 0]) (by simp [results, Tryd.results22, go_sem, p0, p1, p2, p3]) rfl ?_
      rw [HK.out]
      refine ⟨(((hb3.setCell (by simp) _).setCell (by simp) _).setCell (by simp) _).setCell (by simp) _, _, rfl, ?_⟩
      exact (W4.rep (g := w.heap.size + 1) hx2 (fun b h => by have := h.1; omega)).wider fun b h => ⟨by have := h.1; omega, by have h4 := h.2; show b < (W4 w1 (w.heap.size + 1) _ _ _ _).heap.size; rw [W4.size]; exact h4⟩
end Go.Proofs.YtfobmlicmbelnaaDoor
