/- drover/value.Put's closure: the walk. -/
import Derived.Test.YtfobmlicmbelnaaDoorConv
import Derived.Deep.RegionLaw
namespace Go.Proofs.YtfobmlicmbelnaaDoor
open Go.RowKit

def putF (ba bp : Nat) : Value := .func (.func 38) #[] #[.pointer (some ⟨ba, 0, none⟩), .pointer (some ⟨bp, 0, none⟩)]
def OutP (base ba : Nat) (l : List Nat) (w : World) (e : Ending) (w' : World) : Prop := e = .returned (.tuple #[]) ∧ Buf w' base ba l ∧ Below base w w' ∧ Ot ba w w'

/-- Behind the kind's byte. -/
structure Hd (w W : World) (base ba : Nat) (v : Value) (l : List Nat) (box : Array Value) : Prop where
  hv : W.heap[ba]? = some (.cells #[v] 32 (0, 0))
  own : Own W base v l
  box : W.heap[w.heap.size]? = some (.cells box 25 (0, 0))
  bel : Below base w W
  ot : Ot ba w W
theorem hd_mk {w w1 : World} {base ba : Nat} {v0 v1 : Value} {l m : List Nat} {box : Array Value} {o : Obj} (hbw : base ≤ w.heap.size) (hba : base ≤ ba) (hv0 : w.heap[ba]? = some (.cells #[v0] 32 (0, 0))) (hown0 : Own w base v0 l)
    (h1 : Own w1 base v1 m) (hb1 : Below base ((w.alloc (.cells box 25)).alloc o) w1) (hg1 : ((w.alloc (.cells box 25)).alloc o).grownBy w1 v0.ownBlock) : Hd w (w1.setCell ⟨ba, 0, none⟩ v1) base ba v1 m box := by
  have hown1 : Own ((w.alloc (.cells box 25)).alloc o) base v0 l := (hown0.alloc _).alloc _
  have h2 : w1.heap[ba]? = some (.cells #[v0] 32 (0, 0)) := ba_grown (heap_old (heap_old hv0 _) _) hown1 hg1
  have hot : Ot ba w w1 := (((Ot.refl ba w).alloc _).alloc _).grown hown1 hg1
  have hlt := lt_heap hv0
  have hbox : ((w.alloc (.cells box 25)).alloc o).heap[w.heap.size]? = some (.cells box 25 (0, 0)) := heap_old (heap_new _ _) _
  have hbox1 : w1.heap[w.heap.size]? = some (.cells box 25 (0, 0)) := by
    refine (hg1.block _ (lt_heap hbox) ?_).trans hbox
    intro e
    rcases hown1.2 with ⟨rfl, _⟩ | ⟨g, cap, cur, rfl, hg, hh, _⟩
    · cases e
    · have := Option.some.inj (show some w.heap.size = some g from e)
      subst this
      rw [hbox] at hh
      simp at hh
  obtain ⟨v, e1, e2⟩ := buf_store (v := v1) h2 (l := m) h1
  have : v = v1 := by
    rw [one_setCell h2] at e1
    simp at e1
    exact e1.symm
  subst this
  refine ⟨e1, e2, ?_, ?_, hot.set _⟩
  · exact (Below.heap_setCell _ _ _ _ (by show w.heap.size ≠ ba; omega)).trans hbox1
  · exact ((((Below.refl _ _).alloc hbw _).alloc (by simp; omega) _).trans hb1).setCell hba _
theorem At.one' (w : World) (z : Int) (t : TypeId) (k g : Nat) (h : z = (k : Int)) (hg : g = w.heap.size) : At (w.alloc (.cells #[.int .u8 z] t)) (w.heap.size + 1) (some ⟨g, 0, none⟩) (bv [k]) := by
  subst hg
  exact At.one w z t k h
theorem Hd.next {w W w2 w3 : World} {base ba : Nat} {v v3 : Value} {l m : List Nat} {box : Array Value} (hd : Hd w W base ba v l box) (hnb : ¬ w.heap.size = ba) (hba : base ≤ ba) (hbw : base ≤ w.heap.size) (hb2 : Below W.heap.size W w2)
    (hd2 : Own w2 base v l) (h3 : Own w3 base v3 m) (hb3 : Below base w2 w3) (hg3 : w2.grownBy w3 v.ownBlock) :
    Hd w (w3.setCell ⟨ba, 0, none⟩ v3) base ba v3 m box ∧ w3.heap[ba]? = some (.cells #[v] 32 (0, 0)) ∧ w3.heap[w.heap.size]? = some (.cells box 25 (0, 0)) := by
  have e1 := ba_grown (heap_below hd.hv hb2) hd2 hg3
  have ot : Ot ba W w3 := (Ot.below hb2).grown hd2 hg3
  have e2 := ot.heap hd.box hnb (by decide)
  refine ⟨⟨one_setCell e1, ?_, (Below.heap_setCell _ _ _ _ hnb).trans e2, ?_, (hd.ot.trans ot).set _⟩, e1, e2⟩
  · obtain ⟨v, f1, f2⟩ := buf_store (v := v3) e1 (l := m) h3
    have : v = v3 := by
      rw [one_setCell e1] at f1
      simp at f1
      exact f1.symm
    subst this
    exact f2
  · exact ((hd.bel.trans (hb2.mono (Nat.le_trans hbw hd.bel.size))).trans hb3).setCell hba _
theorem flat_take {f : Va → List Nat} (p : List Va) (j : Nat) (h : j < p.length) : (p.take (j + 1)).flatMap f = (p.take j).flatMap f ++ f p[j] := by
  rw [List.take_succ_eq_append_getElem h, List.flatMap_append]
  simp
theorem flat_le {f : Va → List Nat} (p : List Va) (j : Nat) : ((p.take j).flatMap f).length ≤ (p.flatMap f).length := by
  have : p.flatMap f = (p.take j).flatMap f ++ (p.drop j).flatMap f := by rw [← List.flatMap_append, List.take_append_drop]
  rw [this, List.length_append]
  omega
theorem flat_ge {L : Nat} : ∀ p : List Va, (∀ t ∈ p, Rt L t) → p.length ≤ (p.flatMap (enc L)).length
  | [], _ => by simp
  | t :: p, h => by
    have ih := flat_ge p (fun t ht => h t (by simp [ht]))
    have h1 := h t (by simp)
    cases L with
    | zero => exact h1.elim
    | succ L =>
      have := enc_pos L t
      have h2 : 0 < (enc (L + 1) t).length := List.length_pos_iff.2 this
      rw [List.flatMap_cons, List.length_append, List.length_cons]
      omega
theorem Hd.out {w W : World} {base ba : Nat} {v : Value} {l : List Nat} {box : Array Value} (hd : Hd w W base ba v l box) : OutP base ba l w (.returned (.tuple #[])) W := ⟨rfl, ⟨v, hd.hv, hd.own⟩, hd.bel, hd.ot⟩
set_option maxRecDepth 100000 in
set_option maxHeartbeats 1600000 in
theorem put1_any : ∀ (L : Nat) (t : Va) (l : List Nat) (v : Value) (w : World) (B base ba bp : Nat), Rt L t → Ok L t → Rep w B v t → B ≤ base → base ≤ ba → base ≤ w.heap.size → bp ≠ ba → Buf w base ba l → Fun1 w bp 69 (putF ba bp) →
    l.length + (enc L t).length ≤ 4398046511104 →
    Calls Tryd.prog 38 #[v, .pointer (some ⟨ba, 0, none⟩), .pointer (some ⟨bp, 0, none⟩)] w (OutP base ba (l ++ enc L t) w) := by
  intro L
  induction L with
  | zero => intro t l v w B base ba bp h; exact h.elim
  | succ L ih =>
    intro t l v w B base ba bp hrt hok hrep hBb hba hbw hne hbuf hf hlen
    obtain ⟨k, n, s, p⟩ := t
    have hrep0 := hrep
    obtain ⟨y0, y1, y2, y3, rfl⟩ := hrep.form
    obtain ⟨A, c, rfl, rfl, rfl, rfl, hk8, hn0, hn1, hs8, hsl, hcl, hcm, hl⟩ := hrep.parts
    obtain ⟨v0, hv0, hown0⟩ := hbuf
    have c1 : w.cell? ⟨ba, 0, none⟩ = some v0 := cell_of_one hv0
    have hlt := lt_heap hv0
    have hnb : ¬ w.heap.size = ba := by omega
    have hnb' : ¬ ba = w.heap.size := by omega
    have HLEN := Lib.hid hlen
    have hl0 : l.length ≤ 4398046511104 := by omega
    clear hlen
    have hkk : k = 1 ∨ k = 2 ∨ k = 3 ∨ k = 4 ∨ k = 5 := by
      rcases hrt with ⟨_, h2⟩ | ⟨h1, _⟩
      · obtain ⟨_, h3⟩ := lf_cases h2
        omega
      · omega
    rcases hkk with h1 | h2 | h3 | h4 | h5
    · have g1 : ((k : Int) == 1) = true := by rw [h1]; rfl
      have HE : Hid (l ++ enc (L + 1) (.mk k n s p) = l ++ [k] ++ varint (zz n)) := by
        show _ = _
        simp [enc, h1]
      clear h1
      go_enter Tryd.func38, Tryd.ntmps38
      go_wp2_with (at_builtin
                   refine wpList_app rfl (.tmp 6) (.tmp 9) rfl rfl ((hown0.alloc _).alloc _) rfl (At.one' _ _ _ k _ rfl (by simp)) rfl (by simp; omega) (by simp; omega) ?_
                   intro v1 w1 hown1 hb1 hg1 _
                   obtain ⟨A1, cp1, rfl, hcp1, _, _, _, _⟩ := hown1.form
                   have hd := hd_mk hbw hba hv0 hown0 hown1 hb1 hg1
                   rw [show (l ++ [k]).length = l.length + 1 by simp] at hd
                   have k1 : w1.heap[ba]? = some (.cells #[v0] 32 (0, 0)) := ba_grown (heap_old (heap_old hv0 _) _) ((hown0.alloc _).alloc _) hg1
                   have k2 := cell_of_one k1
                   have k3 := free_of_one k1
                   obtain ⟨d0, d1, d2, d3⟩ := box4 hd.box)
      generalize hW1 : w1.setCell ⟨ba, 0, none⟩ (.slice A1 (l.length + 1) cp1) = W1 at *
      clear hW1 k1 k2 k3 hown1 hb1 hg1 c1
      have c1 := cell_of_one hd.hv
      have c2 := free_of_one hd.hv
      have hz2 : w.heap.size < W1.heap.size := lt_heap hd.box
      have hz1 : ba < W1.heap.size := lt_heap hd.hv
      have hvl := (varint_length (zz n)).2
      go_region_law
        (first
          | (refine step_app2 rfl (.tmp 16) (.tmp 19) rfl rfl hd2 rfl ha2 rfl (by simp; omega) (by have := hb2.size; omega) ?_
             intro v3 w3 hown3 hb3 hg3
             obtain ⟨A3, cp3, rfl, hcp3, _, _, _, _⟩ := hown3.form
             obtain ⟨hd3, e0, e00⟩ := hd.next hnb hba hbw hb2 hd2 hown3 hb3 hg3
             have e1 := cell_of_one e0
             have e2 := free_of_one e0
             obtain ⟨f0, f1, f2, f3⟩ := box4 e00)
          | (go_simp
             go_at_call 39
             refine (int_bs _ [] n _ (Bs.nil _) (by simp) hn0 hn1).mono ?_
             rintro e w2 ⟨v2, rfl, ho2, hv2, hb2'⟩
             have hb2 := of_drew hb2'
             rw [List.nil_append] at ho2
             have hd2 := hd.own.below hb2 (Nat.le_refl _)
             have c3 := (hb2.cell hz1 (p := ⟨ba, 0, none⟩)).trans c1
             have d4 := (hb2.cell hz2 (p := ⟨w.heap.size, 1, none⟩)).trans d1
             obtain ⟨A2, cp2, rfl, hcp2, _, ha2, _, _⟩ := ho2.form))
      all_goals
        go_wp2_with fail
        go_end0
        rw [HE.out]
        rw [show (l ++ [k] ++ varint (zz n)).length = l.length + ((varint (zz n)).length + 1) by simp] at hd3
        exact hd3.out
    · have g1 : ((k : Int) == 1) = false := by rw [h2]; rfl
      have g5 : ((k : Int) == 5) = false := by rw [h2]; rfl
      have g2 : ((k : Int) == 2) = true := by rw [h2]; rfl
      have hn : n = 0 ∨ n = 1 := by
        rcases hrt with ⟨_, h⟩ | ⟨h, _⟩
        · obtain ⟨_, h3⟩ := lf_cases h
          omega
        · omega
      have HE : Hid (l ++ enc (L + 1) (.mk k n s p) = l ++ [k] ++ [n.toNat]) := by
        show _ = _
        rcases hn with rfl | rfl <;> simp [enc, h2]
      clear h2
      rcases hn with rfl | rfl
      · go_enter Tryd.func38, Tryd.ntmps38
        go_wp2_with (first
          | (at_builtin
             refine wpList_app rfl (.tmp 6) (.tmp 9) rfl rfl ((hown0.alloc _).alloc _) rfl (At.one' _ _ _ k _ rfl (by simp)) rfl (by simp; omega) (by simp; omega) ?_
             intro v1 w1 hown1 hb1 hg1 _
             obtain ⟨A1, cp1, rfl, hcp1, _, _, _, _⟩ := hown1.form
             have hd := hd_mk hbw hba hv0 hown0 hown1 hb1 hg1
             rw [show (l ++ [k]).length = l.length + 1 by simp] at hd
             have k1 : w1.heap[ba]? = some (.cells #[v0] 32 (0, 0)) := ba_grown (heap_old (heap_old hv0 _) _) ((hown0.alloc _).alloc _) hg1
             have k2 := cell_of_one k1
             have k3 := free_of_one k1
             have k5 := cell_of_one hd.hv
             have k6 := lt_heap k1
             obtain ⟨d0, d1, d2, d3⟩ := box4 hd.box)
          | (at_builtin
             refine wpList_app rfl (.tmp 23) (.tmp 27) rfl rfl (hd.own.alloc _) rfl (At.one' _ _ _ 0 _ rfl (by simp)) rfl (by simp; omega) (by have := hd.bel.size; simp at this ⊢; omega) ?_
             intro v3 w3 hown3 hb3 hg3 _
             obtain ⟨A3, cp3, rfl, hcp3, _, _, _, _⟩ := hown3.form
             obtain ⟨hd3, e0, e00⟩ := hd.next hnb hba hbw ((Below.refl _ _).alloc (Nat.le_refl _) _) (hd.own.alloc _) hown3 hb3 hg3
             have e1 := cell_of_one e0
             have e2 := free_of_one e0))
        go_end0
        rw [HE.out]
        rw [show (l ++ [k] ++ [0] : List Nat).length = l.length + 1 + 1 by simp] at hd3
        exact hd3.out
      · go_enter Tryd.func38, Tryd.ntmps38
        go_wp2_with (first
          | (at_builtin
             refine wpList_app rfl (.tmp 6) (.tmp 9) rfl rfl ((hown0.alloc _).alloc _) rfl (At.one' _ _ _ k _ rfl (by simp)) rfl (by simp; omega) (by simp; omega) ?_
             intro v1 w1 hown1 hb1 hg1 _
             obtain ⟨A1, cp1, rfl, hcp1, _, _, _, _⟩ := hown1.form
             have hd := hd_mk hbw hba hv0 hown0 hown1 hb1 hg1
             rw [show (l ++ [k]).length = l.length + 1 by simp] at hd
             have k1 : w1.heap[ba]? = some (.cells #[v0] 32 (0, 0)) := ba_grown (heap_old (heap_old hv0 _) _) ((hown0.alloc _).alloc _) hg1
             have k2 := cell_of_one k1
             have k3 := free_of_one k1
             have k5 := cell_of_one hd.hv
             have k6 := lt_heap k1
             obtain ⟨d0, d1, d2, d3⟩ := box4 hd.box)
          | (at_builtin
             refine wpList_app rfl (.tmp 23) (.tmp 27) rfl rfl (hd.own.alloc _) rfl (At.one' _ _ _ 1 _ rfl (by simp)) rfl (by simp; omega) (by have := hd.bel.size; simp at this ⊢; omega) ?_
             intro v3 w3 hown3 hb3 hg3 _
             obtain ⟨A3, cp3, rfl, hcp3, _, _, _, _⟩ := hown3.form
             obtain ⟨hd3, e0, e00⟩ := hd.next hnb hba hbw ((Below.refl _ _).alloc (Nat.le_refl _) _) (hd.own.alloc _) hown3 hb3 hg3
             have e1 := cell_of_one e0
             have e2 := free_of_one e0))
        go_end0
        rw [HE.out]
        rw [show (l ++ [k] ++ [1] : List Nat).length = l.length + 1 + 1 by simp] at hd3
        exact hd3.out
    · have g1 : ((k : Int) == 1) = false := by rw [h3]; rfl
      have g5 : ((k : Int) == 5) = false := by rw [h3]; rfl
      have g2 : ((k : Int) == 2) = false := by rw [h3]; rfl
      have g3 : ((k : Int) == 3) = true := by rw [h3]; rfl
      have hsl4 : s.length ≤ 4096 := by
        rcases hrt with ⟨_, h⟩ | ⟨h, _⟩
        · obtain ⟨_, h3⟩ := lf_cases h
          omega
        · omega
      have HE : Hid (l ++ enc (L + 1) (.mk k n s p) = l ++ [k] ++ (varint s.length ++ s)) := by
        show _ = _
        simp [enc, h3]
      clear h3
      go_enter Tryd.func38, Tryd.ntmps38
      go_wp2_with (at_builtin
                   refine wpList_app rfl (.tmp 6) (.tmp 9) rfl rfl ((hown0.alloc _).alloc _) rfl (At.one' _ _ _ k _ rfl (by simp)) rfl (by simp; omega) (by simp; omega) ?_
                   intro v1 w1 hown1 hb1 hg1 _
                   obtain ⟨A1, cp1, rfl, hcp1, _, _, _, _⟩ := hown1.form
                   have hd := hd_mk hbw hba hv0 hown0 hown1 hb1 hg1
                   rw [show (l ++ [k]).length = l.length + 1 by simp] at hd
                   have k1 : w1.heap[ba]? = some (.cells #[v0] 32 (0, 0)) := ba_grown (heap_old (heap_old hv0 _) _) ((hown0.alloc _).alloc _) hg1
                   have k2 := cell_of_one k1
                   have k3 := free_of_one k1
                   obtain ⟨d0, d1, d2, d3⟩ := box4 hd.box)
      generalize hW1 : w1.setCell ⟨ba, 0, none⟩ (.slice A1 (l.length + 1) cp1) = W1 at *
      clear hW1 k1 k2 k3 hown1 hb1 hg1 c1
      have c1 := cell_of_one hd.hv
      have c2 := free_of_one hd.hv
      have hz2 : w.heap.size < W1.heap.size := lt_heap hd.box
      have hz1 : ba < W1.heap.size := lt_heap hd.hv
      have hvl := (varint_length s.length).2
      have kc := conv_any s
      have HS8 := Lib.hid hs8
      clear hs8
      go_region_law
        (first
          | (refine step_app2 rfl (.tmp 31) (.tmp 35) rfl rfl hd2 rfl ha2 (by simp) (by simp; omega) (by have := hb2.size; omega) ?_
             intro v3 w3 hown3 hb3 hg3
             obtain ⟨A3, cp3, rfl, hcp3, _, _, _, _⟩ := hown3.form
             obtain ⟨hd3, e0, e00⟩ := hd.next hnb hba hbw hb2 hd2 hown3 hb3 hg3
             have e1 := cell_of_one e0
             have e2 := free_of_one e0
             obtain ⟨f0, f1, f2, f3⟩ := box4 e00)
          | (go_simp
             go_at_call 40
             refine (blob_bs _ [] _ s ((W1.alloc (convO W1.drew s)).drew.drew) (Bs.nil _) ((conv_bs s HS8.out W1 _ _ W1.drew rfl rfl).drew.drew) (by simp) (by omega)).mono ?_
             rintro e w2 ⟨v2, rfl, ho2, hv2, hb2'⟩
             have hb2 : Below W1.heap.size W1 w2 := nxt ((Below.refl W1.heap.size W1).alloc (Nat.le_refl _) _).drew.drew hb2'
             rw [List.nil_append] at ho2
             have hd2 := hd.own.below hb2 (Nat.le_refl _)
             have c3 := (hb2.cell hz1 (p := ⟨ba, 0, none⟩)).trans c1
             have d4 := (hb2.cell hz2 (p := ⟨w.heap.size, 2, none⟩)).trans d2
             obtain ⟨A2, cp2, rfl, hcp2, _, ha2, _, _⟩ := ho2.form))
      all_goals
        go_wp2_with fail
        go_end0
        rw [HE.out]
        rw [show (l ++ [k] ++ (varint s.length ++ s)).length = l.length + ((varint s.length).length + s.length + 1) by simp] at hd3
        exact hd3.out
    · have g1 : ((k : Int) == 1) = false := by rw [h4]; rfl
      have g5 : ((k : Int) == 5) = false := by rw [h4]; rfl
      have g2 : ((k : Int) == 2) = false := by rw [h4]; rfl
      have g3 : ((k : Int) == 3) = false := by rw [h4]; rfl
      have g4 : ((k : Int) == 4) = true := by rw [h4]; rfl
      have hparts : ∀ t ∈ p, Rt L t := by
        rcases hrt with ⟨h, _⟩ | ⟨_, _, _, h⟩
        · exact absurd h4 h
        · exact h
      have HE : Hid (l ++ enc (L + 1) (.mk k n s p) = l ++ [k] ++ varint p.length ++ p.flatMap (enc L)) := by
        show _ = _
        simp [enc, h4]
      clear h4
      go_enter Tryd.func38, Tryd.ntmps38
      go_wp2_with (at_builtin
                   refine wpList_app rfl (.tmp 6) (.tmp 9) rfl rfl ((hown0.alloc _).alloc _) rfl (At.one' _ _ _ k _ rfl (by simp)) rfl (by simp; omega) (by simp; omega) ?_
                   intro v1 w1 hown1 hb1 hg1 _
                   obtain ⟨A1, cp1, rfl, hcp1, _, _, _, _⟩ := hown1.form
                   have hd := hd_mk hbw hba hv0 hown0 hown1 hb1 hg1
                   rw [show (l ++ [k]).length = l.length + 1 by simp] at hd
                   have k1 : w1.heap[ba]? = some (.cells #[v0] 32 (0, 0)) := ba_grown (heap_old (heap_old hv0 _) _) ((hown0.alloc _).alloc _) hg1
                   have k2 := cell_of_one k1
                   have k3 := free_of_one k1
                   obtain ⟨d0, d1, d2, d3⟩ := box4 hd.box)
      generalize hW1 : w1.setCell ⟨ba, 0, none⟩ (.slice A1 (l.length + 1) cp1) = W1 at *
      clear hW1 k1 k2 k3 hown1 hb1 hg1 c1
      have c1 := cell_of_one hd.hv
      have c2 := free_of_one hd.hv
      have hz2 : w.heap.size < W1.heap.size := lt_heap hd.box
      have hz1 : ba < W1.heap.size := lt_heap hd.hv
      have hvl := (varint_length p.length).2
      have hpl : p.length ≤ 4398046511104 := by
        have h := HLEN.out
        have h2 := congrArg List.length HE.out
        have h3 := flat_ge (L := L) p hparts
        simp only [List.length_append] at h2
        omega
      have p1 : IntKind.u64.wrap (p.length : Int) = (p.length : Int) := by rw [IntKind.wrap_u64]; omega
      go_cut [45] (fun _ wx => ∃ v3 : Value, Hd w wx base ba v3 (l ++ [k] ++ varint p.length) #[.int .u8 (k : Int), .int .i64 n, .string (strOf s), .slice A p.length c])
      case first =>
        go_region_law
          (first
            | (refine step_app2 rfl (.tmp 39) (.tmp 44) rfl rfl hd2 rfl ha2 rfl (by simp; omega) (by have := hb2.size; omega) ?_
               intro v3 w3 hown3 hb3 hg3
               obtain ⟨A3, cp3, rfl, hcp3, _, _, _, _⟩ := hown3.form
               obtain ⟨hd3, e0, e00⟩ := hd.next hnb hba hbw hb2 hd2 hown3 hb3 hg3
               have e1 := cell_of_one e0
               have e2 := free_of_one e0
               obtain ⟨f0, f1, f2, f3⟩ := box4 e00)
            | (go_simp
               go_at_call 41
               refine (uint_bs _ [] p.length _ (Bs.nil _) (by simp) (by omega)).mono ?_
               rintro e w2 ⟨v2, rfl, ho2, hv2, hb2'⟩
               have hb2 := of_drew hb2'
               rw [List.nil_append] at ho2
               have hd2 := hd.own.below hb2 (Nat.le_refl _)
               have c3 := (hb2.cell hz1 (p := ⟨ba, 0, none⟩)).trans c1
               have d4 := (hb2.cell hz2 (p := ⟨w.heap.size, 3, none⟩)).trans d3
               obtain ⟨A2, cp2, rfl, hcp2, _, ha2, _, _⟩ := ho2.form))
        all_goals
          go_wp2_with fail
          go_meet
          rw [show (l ++ [k] ++ varint p.length).length = l.length + ((varint p.length).length + 1) by simp] at hd3
          exact ⟨.slice A3 (l.length + ((varint p.length).length + 1)) cp3, hd3⟩
      case rest =>
        obtain ⟨v3, hd3⟩ := hcut
        clear hd c1 c2 d0 d1 d2 d3 hz1 hz2 p1
        obtain ⟨d0, d1, d2, d3⟩ := box4 hd3.box
        go_wp2_with fail
        go_loopw [49] (fun i wr => ∃ (j : Nat) (vv : Value), j ≤ p.length ∧ i = .int .i64 (j : Int) ∧ Hd w wr base ba vv (l ++ [k] ++ varint p.length ++ (p.take j).flatMap (enc L)) #[.int .u8 (k : Int), .int .i64 n, .string (strOf s), .slice A p.length c]) (fun i _ => p.length - (intOf i).toNat)
        case atStart => exact ⟨0, v3, Nat.zero_le _, rfl, by simpa using hd3⟩
        case round =>
          obtain ⟨j, vv, hj, rfl, hdj⟩ := hrel
          have hbj : B ≤ wr.heap.size := Nat.le_trans hBb (Nat.le_trans hbw hdj.bel.size)
          by_cases hlt2 : j < p.length
          · obtain ⟨b, o, y0, y1, y2, y3, rfl, hbB, hrange, hrepj⟩ := hl.at j hlt2
            have hbel : Below B w wr := hdj.bel.mono hBb
            have HJ := Lib.hid (flat_take (f := enc L) p j hlt2)
            have HL := Lib.hid (flat_le (f := enc L) p (j + 1))
            have hrt' := hparts p[j] (List.getElem_mem hlt2)
            have hok' := hok.2.2.2.2 p[j] (List.getElem_mem hlt2)
            have hrepj' := hrepj.under hbel
            generalize p[j] = tj at *
            obtain ⟨kj, nj, sj, lj⟩ := tj
            obtain ⟨Aj, cj, rfl, rfl, rfl, rfl, -⟩ := hrepj.parts
            have m0 : wr.cell? ⟨b, o + j * 4, none⟩ = some _ := (hbel.cell hbB).trans (hrange 0 _ rfl)
            have m1 : wr.cell? ⟨b, o + j * 4 + 1, none⟩ = some _ := (hbel.cell hbB).trans (hrange 1 _ rfl)
            have m2 : wr.cell? ⟨b, o + j * 4 + 2, none⟩ = some _ := (hbel.cell hbB).trans (hrange 2 _ rfl)
            have m3 : wr.cell? ⟨b, o + j * 4 + 3, none⟩ = some _ := (hbel.cell hbB).trans (hrange 3 _ rfl)
            have hfr : Fun1 wr bp 69 (putF ba bp) := hdj.ot.heap hf hne (by decide)
            have hfc : wr.cell? ⟨bp, 0, none⟩ = some (putF ba bp) := hfr.cell
            unfold putF at hfc
            have hltf := lt_heap hfr
            have hlen' : (l ++ [k] ++ varint p.length ++ (p.take j).flatMap (enc L)).length + (enc L (.mk kj nj sj lj)).length ≤ 4398046511104 := by
              have h := HLEN.out
              have h2 := congrArg List.length HE.out
              have h3 := HL.out
              rw [HJ.out] at h3
              simp only [List.length_append] at h2 h3 ⊢
              omega
            have HLEN' := Lib.hid hlen'
            clear hrange hrepj hlen'
            go_wp2_with fail
            refine (ih _ _ _ _ B base ba bp hrt' hok' (hrepj'.under ((Below.refl _ _).alloc hbj _)) hBb hba (by have := hdj.bel.size; simp; omega) hne ⟨vv, heap_old hdj.hv _, hdj.own.alloc _⟩ (heap_old hfr _) HLEN'.out).mono ?_
            rintro e w4 ⟨rfl, ⟨v4, hv4, hown4⟩, hb4, ho4⟩
            have hd4 : Hd w w4 base ba v4 (l ++ [k] ++ varint p.length ++ (p.take (j + 1)).flatMap (enc L)) #[.int .u8 (k : Int), .int .i64 n, .string (strOf s), .slice (some ⟨b, o, none⟩) p.length c] := by
              refine ⟨hv4, ?_, ho4.heap (heap_old hdj.box _) hnb (by decide), (hdj.bel.alloc (Nat.le_trans hbw hdj.bel.size) _).trans hb4, (hdj.ot.alloc _).trans ho4⟩
              rw [HJ.out, ← List.append_assoc]
              exact hown4
            clear hv4 hown4 hb4 ho4 m0 m1 m2 m3 hfc hrepj'
            go_wp2_with fail
            go_roundw
            case rel => exact ⟨j + 1, v4, by omega, by go_num, hd4⟩
            case measure => simp [intOf]; omega
          · obtain rfl : j = p.length := by omega
            rw [List.take_length] at hdj
            go_wp2_with fail
            go_end0
            rw [HE.out]
            exact hdj.out
    · have g1 : ((k : Int) == 1) = false := by rw [h5]; rfl
      have g5 : ((k : Int) == 5) = true := by rw [h5]; rfl
      have HE : Hid (l ++ enc (L + 1) (.mk k n s p) = l ++ [k] ++ varint (zz n)) := by
        show _ = _
        simp [enc, h5]
      clear h5
      go_enter Tryd.func38, Tryd.ntmps38
      go_wp2_with (at_builtin
                   refine wpList_app rfl (.tmp 6) (.tmp 9) rfl rfl ((hown0.alloc _).alloc _) rfl (At.one' _ _ _ k _ rfl (by simp)) rfl (by simp; omega) (by simp; omega) ?_
                   intro v1 w1 hown1 hb1 hg1 _
                   obtain ⟨A1, cp1, rfl, hcp1, _, _, _, _⟩ := hown1.form
                   have hd := hd_mk hbw hba hv0 hown0 hown1 hb1 hg1
                   rw [show (l ++ [k]).length = l.length + 1 by simp] at hd
                   have k1 : w1.heap[ba]? = some (.cells #[v0] 32 (0, 0)) := ba_grown (heap_old (heap_old hv0 _) _) ((hown0.alloc _).alloc _) hg1
                   have k2 := cell_of_one k1
                   have k3 := free_of_one k1
                   obtain ⟨d0, d1, d2, d3⟩ := box4 hd.box)
      generalize hW1 : w1.setCell ⟨ba, 0, none⟩ (.slice A1 (l.length + 1) cp1) = W1 at *
      clear hW1 k1 k2 k3 hown1 hb1 hg1 c1
      have c1 := cell_of_one hd.hv
      have c2 := free_of_one hd.hv
      have hz2 : w.heap.size < W1.heap.size := lt_heap hd.box
      have hz1 : ba < W1.heap.size := lt_heap hd.hv
      have hvl := (varint_length (zz n)).2
      go_region_law
        (first
          | (refine step_app2 rfl (.tmp 16) (.tmp 19) rfl rfl hd2 rfl ha2 rfl (by simp; omega) (by have := hb2.size; omega) ?_
             intro v3 w3 hown3 hb3 hg3
             obtain ⟨A3, cp3, rfl, hcp3, _, _, _, _⟩ := hown3.form
             obtain ⟨hd3, e0, e00⟩ := hd.next hnb hba hbw hb2 hd2 hown3 hb3 hg3
             have e1 := cell_of_one e0
             have e2 := free_of_one e0
             obtain ⟨f0, f1, f2, f3⟩ := box4 e00)
          | (go_simp
             go_at_call 39
             refine (int_bs _ [] n _ (Bs.nil _) (by simp) hn0 hn1).mono ?_
             rintro e w2 ⟨v2, rfl, ho2, hv2, hb2'⟩
             have hb2 := of_drew hb2'
             rw [List.nil_append] at ho2
             have hd2 := hd.own.below hb2 (Nat.le_refl _)
             have c3 := (hb2.cell hz1 (p := ⟨ba, 0, none⟩)).trans c1
             have d4 := (hb2.cell hz2 (p := ⟨w.heap.size, 1, none⟩)).trans d1
             obtain ⟨A2, cp2, rfl, hcp2, _, ha2, _, _⟩ := ho2.form))
      all_goals
        go_wp2_with fail
        go_end0
        rw [HE.out]
        rw [show (l ++ [k] ++ varint (zz n)).length = l.length + ((varint (zz n)).length + 1) by simp] at hd3
        exact hd3.out
end Go.Proofs.YtfobmlicmbelnaaDoor
