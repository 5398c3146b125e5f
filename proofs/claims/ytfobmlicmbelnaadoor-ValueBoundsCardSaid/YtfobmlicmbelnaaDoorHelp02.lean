/- droverlaw02's makers of values, and 'wrong': the walks. -/
import Derived.Test.YtfobmlicmbelnaaDoorGetAll
import Derived.Test.YtfobmlicmbelnaaDoorPut
import Derived.Test.YtfobmlicmbelnaaDoorAlike
import Derived.Deep.RegionHeld3
namespace Go.Proofs.YtfobmlicmbelnaaDoor
open Go.RowKit

set_option maxRecDepth 100000 in
theorem num_any (n : Int) (w : World) : Calls Tryd.prog 20 #[.int .i64 n] w fun e w' => e = .returned (.agg #[.int .u8 1, .int .i64 n, .string ⟨#[]⟩, .slice none 0 0]) ∧ Below w.heap.size w w' := by
  go_enter Tryd.func20, Tryd.ntmps20
  go_wp2_with fail
  refine bodyPost_ret (v := .agg #[.int .u8 1, .int .i64 n, .string ⟨#[]⟩, .slice none 0 0]) (by simp [results, Tryd.results20, go_sem]) rfl ?_
  exact ⟨rfl, (Below.refl _ _).alloc (Nat.le_refl _) _⟩
set_option maxRecDepth 100000 in
theorem truth_any (n : Int) (w : World) : Calls Tryd.prog 9 #[.int .i64 n] w fun e w' => e = .returned (.agg #[.int .u8 2, .int .i64 n, .string ⟨#[]⟩, .slice none 0 0]) ∧ Below w.heap.size w w' := by
  go_enter Tryd.func9, Tryd.ntmps9
  go_wp2_with fail
  refine bodyPost_ret (v := .agg #[.int .u8 2, .int .i64 n, .string ⟨#[]⟩, .slice none 0 0]) (by simp [results, Tryd.results9, go_sem]) rfl ?_
  exact ⟨rfl, (Below.refl _ _).alloc (Nat.le_refl _) _⟩
set_option maxRecDepth 100000 in
theorem actor_any (n : Int) (w : World) : Calls Tryd.prog 10 #[.int .i64 n] w fun e w' => e = .returned (.agg #[.int .u8 5, .int .i64 n, .string ⟨#[]⟩, .slice none 0 0]) ∧ Below w.heap.size w w' := by
  go_enter Tryd.func10, Tryd.ntmps10
  go_wp2_with fail
  refine bodyPost_ret (v := .agg #[.int .u8 5, .int .i64 n, .string ⟨#[]⟩, .slice none 0 0]) (by simp [results, Tryd.results10, go_sem]) rfl ?_
  exact ⟨rfl, (Below.refl _ _).alloc (Nat.le_refl _) _⟩
set_option maxRecDepth 100000 in
theorem text_any (s : ByteArray) (w : World) : Calls Tryd.prog 15 #[.string s] w fun e w' => e = .returned (.agg #[.int .u8 3, .int .i64 0, .string s, .slice none 0 0]) ∧ Below w.heap.size w w' := by
  go_enter Tryd.func15, Tryd.ntmps15
  go_wp2_with fail
  refine bodyPost_ret (v := .agg #[.int .u8 3, .int .i64 0, .string s, .slice none 0 0]) (by simp [results, Tryd.results15, go_sem]) rfl ?_
  exact ⟨rfl, (Below.refl _ _).alloc (Nat.le_refl _) _⟩
set_option maxRecDepth 100000 in
theorem tuple_any (A : Option Addr) (n c : Nat) (w : World) : Calls Tryd.prog 12 #[.slice A n c] w fun e w' => e = .returned (.agg #[.int .u8 4, .int .i64 0, .string ⟨#[]⟩, .slice A n c]) ∧ Below w.heap.size w w' := by
  go_enter Tryd.func12, Tryd.ntmps12
  go_wp2_with fail
  refine bodyPost_ret (v := .agg #[.int .u8 4, .int .i64 0, .string ⟨#[]⟩, .slice A n c]) (by simp [results, Tryd.results12, go_sem]) rfl ?_
  exact ⟨rfl, (Below.refl _ _).alloc (Nat.le_refl _) _⟩
set_option maxRecDepth 100000 in
set_option maxHeartbeats 800000 in
/-- Bytes that are refused with an error are told so. -/
theorem wrong_any (er : Nat) (v : Value) (l : List Nat) (w : World) (h : Bs w v l) (hn : l.length ≤ 1099511627776) (he : getR l 0 = .error er) :
    Calls Tryd.prog 21 #[.int .i64 (er : Int), v] w fun e w' => e = .returned (.bool true) ∧ Below w.heap.size w w' := by
  have hg := get_any v l 0 w h hn
  rw [he] at hg
  go_enter Tryd.func21, Tryd.ntmps21
  go_wp2_with fail
  refine hg.mono ?_
  rintro e w1 ⟨hb1, rfl⟩
  unfold zeroV
  go_wp2_with fail
  go_ret
  exact ⟨rfl, hb1.alloc hb1.size _⟩

theorem same_u (v v' : Value) (l : List Nat) (w : World) (h : Bs w v l) (h' : Bs w v' l) : Calls Tryd.prog 27 #[v, v'] w fun e w' => e = .returned (.bool true) ∧ w = w' := same_bs v v' l l true w h h' (by simp)
set_option maxRecDepth 100000 in
set_option maxHeartbeats 1600000 in
/-- A right value's bytes, and back. -/
theorem is_any (t : Va) (v vw : Value) (w : World) (B : Nat) (h : Rep w B v t) (hB : B ≤ w.heap.size) (hr : right t = true) (hw : Bs w vw (enc 16 t)) :
    Calls Tryd.prog 57 #[v, vw] w fun e w' => e = .returned (.bool true) ∧ Below w.heap.size w w' := by
  have h0 := h
  have hok := h.ok 16
  obtain ⟨m, hm⟩ := right_rgt hr
  have hrt := (rgt_rt 16 _ 256 m hm).1
  have hsz := enc_short hr
  have HG : Hid (getR (enc 16 t) 0 = .ok (t, (enc 16 t).length, m)) := by
    show _ = _
    have := dec_enc 16 (enc 16 t) t [] [] 256 m (by simp) (by omega) hm hok
    rw [getR, if_neg (by simp)]
    simpa using this
  have HP := fun (w : World) (h : Rep w B v t) (hB : B ≤ w.heap.size) => put_any t v (.slice none 0 0) [] w B h hB (Bs.nil _) (by simp)
  obtain ⟨k, n, s, p⟩ := t
  obtain ⟨y0, y1, y2, y3, rfl⟩ := h.form
  obtain ⟨A', c', rfl, rfl, rfl, rfl, -⟩ := h.parts
  have HR := Lib.hid hr
  have hbox0 : (w.alloc (.cells #[.int .u8 (k : Int), .int .i64 n, .string (strOf s), .slice A' p.length c'] 25)).heap[w.heap.size]? = _ := heap_new _ _
  clear h hm hr
  generalize hE : enc 16 (.mk k n s p) = E at *
  have HE := Lib.hid hE
  clear hE
  go_enter Tryd.func57, Tryd.ntmps57
  go_wp2_with fail
  refine (HP _ (h0.under ((Below.refl _ _).alloc hB _)) (by simp; omega)).mono ?_
  rintro e w1 ⟨hb1, _, hput⟩
  obtain ⟨u, rfl, hown⟩ := hput HR.out
  rw [List.nil_append, HE.out] at hown
  have h8 : ∀ x ∈ E, x < 256 := hw.2
  have H8 := Lib.hid h8
  have hbu := Bs.of_own hown h8
  have hb2 := nxt ((Below.refl w.heap.size w).alloc (Nat.le_refl _) _) hb1
  have hbox1 := heap_below hbox0 hb1
  clear hput hb1 h8 HP hbox0
  go_wp2_with fail
  refine (get_any u E 0 w1 hbu (by omega)).mono ?_
  rw [HG.out]
  rintro e w2 ⟨hb3, x, rfl, hx⟩
  have hb4 := nxt hb2 hb3
  have hbu2 := hbu.below hb3
  have hbw2 := hw.below hb4
  have hbox2 := heap_below hbox1 hb3
  obtain ⟨d0, d1, d2, d3⟩ := box4 hbox2
  have hltb := lt_heap hbox2
  obtain ⟨z0, z1, z2, z3, rfl⟩ := hx.form
  have hx0 : Rep w2 w2.heap.size _ _ := hx.wider fun b h => h.2
  obtain ⟨Ax, cx, rfl, rfl, rfl, rfl, -⟩ := hx.parts
  obtain ⟨⟨Au, cu, rfl, hcu, -⟩, -⟩ := id hbu2
  generalize hEl : E.length = el at *
  have g1 : ((el : Int) == (el : Int)) = true := by simp
  clear hb3 hbu hbox1 hbox2 hx
  go_wp2_with fail
  refine (same_u _ _ E _ (hbu2.alloc _) (hbw2.alloc _)).mono ?_
  rintro e w3 ⟨rfl, rfl⟩
  go_wp2_with fail
  refine (alike_any 16 _ _ _ _ w2.heap.size hrt (hx0.under ((Below.refl _ _).alloc (Nat.le_refl _) _)) (((h0.under (hb4.mono hB)).wider fun b h => Nat.lt_of_lt_of_le h (Nat.le_trans hB hb4.size)).under ((Below.refl _ _).alloc (Nat.le_refl _) _)) (by simp)).mono ?_
  rintro e w3 ⟨rfl, hb5⟩
  have hb6 : Below w.heap.size w w3 := nxt (nxt hb4 ((Below.refl _ _).alloc (Nat.le_refl _) _)) hb5
  clear hb5
  go_wp2_with fail
  go_ret
  exact ⟨rfl, hb6⟩
end Go.Proofs.YtfobmlicmbelnaaDoor
