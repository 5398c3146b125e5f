/- Texts Put1, Getv, GetLeaf, GetMem, GetSt, Get1, Quote, Bound, Put, GetAll, Small, Alike, Law02 of this seat in one: see each part. -/
import Derived.Deep.RegionLaw
import Derived.Laws.EntriesVeiled
import Derived.WalkSpells
import Derived.StillTailTactics
import Derived.BigQuiet
import Derived.Test.YtjcefnlidophoaaGc
import Derived.Test.YtjcefnlidophoaaGe
import Derived.Test.YtjcefnlidophoaaGb
import Derived.Test.YtjcefnlidophoaaGa
namespace Go.Proofs.Ytjcefnlidophoaa
open Go.RowKit

def putF (ba bp : Nat) : Value := .func (.func 177) #[] #[.pointer (some ⟨ba, 0, none⟩), .pointer (some ⟨bp, 0, none⟩)]
def OutP (base ba : Nat) (l : List Nat) (w : World) (e : Ending) (w' : World) : Prop := e = .returned (.tuple #[]) ∧ Buf w' base ba l ∧ Below base w w' ∧ Ot ba w w'

/-- Behind the kind's byte. -/
structure Hd (w W : World) (base ba : Nat) (v : Value) (l : List Nat) (box : Array Value) : Prop where
  hv : W.heap[ba]? = some (.cells #[v] 27 (0, 0))
  own : Own W base v l
  box : W.heap[w.heap.size]? = some (.cells box 43 (0, 0))
  bel : Below base w W
  ot : Ot ba w W
theorem hd_mk {w w1 : World} {base ba : Nat} {v0 v1 : Value} {l m : List Nat} {box : Array Value} {o : Obj} (hbw : base ≤ w.heap.size) (hba : base ≤ ba) (hv0 : w.heap[ba]? = some (.cells #[v0] 27 (0, 0))) (hown0 : Own w base v0 l)
    (h1 : Own w1 base v1 m) (hb1 : Below base ((w.alloc (.cells box 43)).alloc o) w1) (hg1 : ((w.alloc (.cells box 43)).alloc o).grownBy w1 v0.ownBlock) : Hd w (w1.setCell ⟨ba, 0, none⟩ v1) base ba v1 m box := by
  have hown1 : Own ((w.alloc (.cells box 43)).alloc o) base v0 l := (hown0.alloc _).alloc _
  have h2 : w1.heap[ba]? = some (.cells #[v0] 27 (0, 0)) := ba_grown (heap_old (heap_old hv0 _) _) hown1 hg1
  have hot : Ot ba w w1 := (((Ot.refl ba w).alloc _).alloc _).grown hown1 hg1
  have hlt := lt_heap hv0
  have hbox : ((w.alloc (.cells box 43)).alloc o).heap[w.heap.size]? = some (.cells box 43 (0, 0)) := heap_old (heap_new _ _) _
  have hbox1 : w1.heap[w.heap.size]? = some (.cells box 43 (0, 0)) := by
    refine (hg1.block _ (lt_heap hbox) ?_).trans hbox
    intro e
    rcases hown1.2 with ⟨rfl, _⟩ | ⟨g, cap, cur, rfl, hg, hh, _⟩
    · cases e
    · have := Option.some.inj (show some w.heap.size = some g from e)
      subst this
      rw [hbox] at hh
      simp at hh
  obtain ⟨v, e1, e2⟩ := buf_store (v := v1) h2 (l := m) h1
  have : v = v1 := by
    rw [one_setCell h2] at e1
    simp at e1
    exact e1.symm
  subst this
  refine ⟨e1, e2, ?_, ?_, hot.set _⟩
  · exact (Below.heap_setCell _ _ _ _ (by show w.heap.size ≠ ba; omega)).trans hbox1
  · exact ((((Below.refl _ _).alloc hbw _).alloc (by simp; omega) _).trans hb1).setCell hba _
theorem At.one' (w : World) (z : Int) (t : TypeId) (k g : Nat) (h : z = (k : Int)) (hg : g = w.heap.size) : At (w.alloc (.cells #[.int .u8 z] t)) (w.heap.size + 1) (some ⟨g, 0, none⟩) (bv [k]) := by
  subst hg
  exact At.one w z t k h
theorem Hd.next {w W w2 w3 : World} {base ba : Nat} {v v3 : Value} {l m : List Nat} {box : Array Value} (hd : Hd w W base ba v l box) (hnb : ¬ w.heap.size = ba) (hba : base ≤ ba) (hbw : base ≤ w.heap.size) (hb2 : Below W.heap.size W w2)
    (hd2 : Own w2 base v l) (h3 : Own w3 base v3 m) (hb3 : Below base w2 w3) (hg3 : w2.grownBy w3 v.ownBlock) :
    Hd w (w3.setCell ⟨ba, 0, none⟩ v3) base ba v3 m box ∧ w3.heap[ba]? = some (.cells #[v] 27 (0, 0)) ∧ w3.heap[w.heap.size]? = some (.cells box 43 (0, 0)) := by
  have e1 := ba_grown (heap_below hd.hv hb2) hd2 hg3
  have ot : Ot ba W w3 := (Ot.below hb2).grown hd2 hg3
  have e2 := ot.heap hd.box hnb (by decide)
  refine ⟨⟨one_setCell e1, ?_, (Below.heap_setCell _ _ _ _ hnb).trans e2, ?_, (hd.ot.trans ot).set _⟩, e1, e2⟩
  · obtain ⟨v, f1, f2⟩ := buf_store (v := v3) e1 (l := m) h3
    have : v = v3 := by
      rw [one_setCell e1] at f1
      simp at f1
      exact f1.symm
    subst this
    exact f2
  · exact ((hd.bel.trans (hb2.mono (Nat.le_trans hbw hd.bel.size))).trans hb3).setCell hba _
theorem flat_take {f : Va → List Nat} (p : List Va) (j : Nat) (h : j < p.length) : (p.take (j + 1)).flatMap f = (p.take j).flatMap f ++ f p[j] := by
  rw [List.take_succ_eq_append_getElem h, List.flatMap_append]
  simp
theorem flat_le {f : Va → List Nat} (p : List Va) (j : Nat) : ((p.take j).flatMap f).length ≤ (p.flatMap f).length := by
  have : p.flatMap f = (p.take j).flatMap f ++ (p.drop j).flatMap f := by rw [← List.flatMap_append, List.take_append_drop]
  rw [this, List.length_append]
  omega
theorem flat_ge {L : Nat} : ∀ p : List Va, (∀ t ∈ p, Rt L t) → p.length ≤ (p.flatMap (enc L)).length
  | [], _ => by simp
  | t :: p, h => by
    have ih := flat_ge p (fun t ht => h t (by simp [ht]))
    have h1 := h t (by simp)
    cases L with
    | zero => exact h1.elim
    | succ L =>
      have := enc_pos L t
      have h2 : 0 < (enc (L + 1) t).length := List.length_pos_iff.2 this
      rw [List.flatMap_cons, List.length_append, List.length_cons]
      omega
theorem Hd.out {w W : World} {base ba : Nat} {v : Value} {l : List Nat} {box : Array Value} (hd : Hd w W base ba v l box) : OutP base ba l w (.returned (.tuple #[])) W := ⟨rfl, ⟨v, hd.hv, hd.own⟩, hd.bel, hd.ot⟩
set_option maxRecDepth 100000 in
set_option maxHeartbeats 1600000 in
theorem put1_any : ∀ (L : Nat) (t : Va) (l : List Nat) (v : Value) (w : World) (B base ba bp : Nat), Rt L t → Ok L t → Rep w B v t → B ≤ base → base ≤ ba → base ≤ w.heap.size → bp ≠ ba → Buf w base ba l → Fun1 w bp 208 (putF ba bp) →
    l.length + (enc L t).length ≤ 4398046511104 →
    Calls Try.prog 177 #[v, .pointer (some ⟨ba, 0, none⟩), .pointer (some ⟨bp, 0, none⟩)] w (OutP base ba (l ++ enc L t) w) := by
  intro L
  induction L with
  | zero => intro t l v w B base ba bp h; exact h.elim
  | succ L ih =>
    intro t l v w B base ba bp hrt hok hrep hBb hba hbw hne hbuf hf hlen
    obtain ⟨k, n, s, p⟩ := t
    have hrep0 := hrep
    obtain ⟨y0, y1, y2, y3, rfl⟩ := hrep.form
    obtain ⟨A, c, rfl, rfl, rfl, rfl, hk8, hn0, hn1, hs8, hsl, hcl, hcm, hl⟩ := hrep.parts
    obtain ⟨v0, hv0, hown0⟩ := hbuf
    have c1 : w.cell? ⟨ba, 0, none⟩ = some v0 := cell_of_one hv0
    have hlt := lt_heap hv0
    have hnb : ¬ w.heap.size = ba := by omega
    have hnb' : ¬ ba = w.heap.size := by omega
    have HLEN := Lib.hid hlen
    have hl0 : l.length ≤ 4398046511104 := by omega
    clear hlen
    have hkk : k = 1 ∨ k = 2 ∨ k = 3 ∨ k = 4 ∨ k = 5 := by
      rcases hrt with ⟨_, h2⟩ | ⟨h1, _⟩
      · obtain ⟨_, h3⟩ := lf_cases h2
        omega
      · omega
    rcases hkk with h1 | h2 | h3 | h4 | h5
    · have g1 : ((k : Int) == 1) = true := by rw [h1]; rfl
      have HE : Hid (l ++ enc (L + 1) (.mk k n s p) = l ++ [k] ++ varint (zz n)) := by
        show _ = _
        simp [enc, h1]
      clear h1
      go_enter Try.func177, Try.ntmps177
      go_wp2_with (at_builtin
                   refine wpList_app rfl (.tmp 6) (.tmp 9) rfl rfl ((hown0.alloc _).alloc _) rfl (At.one' _ _ _ k _ rfl (by simp)) rfl (by simp; omega) (by simp; omega) ?_
                   intro v1 w1 hown1 hb1 hg1 _
                   obtain ⟨A1, cp1, rfl, hcp1, _, _, _, _⟩ := hown1.form
                   have hd := hd_mk hbw hba hv0 hown0 hown1 hb1 hg1
                   rw [show (l ++ [k]).length = l.length + 1 by simp] at hd
                   have k1 : w1.heap[ba]? = some (.cells #[v0] 27 (0, 0)) := ba_grown (heap_old (heap_old hv0 _) _) ((hown0.alloc _).alloc _) hg1
                   have k2 := cell_of_one k1
                   have k3 := free_of_one k1
                   obtain ⟨d0, d1, d2, d3⟩ := box4 hd.box)
      generalize hW1 : w1.setCell ⟨ba, 0, none⟩ (.slice A1 (l.length + 1) cp1) = W1 at *
      clear hW1 k1 k2 k3 hown1 hb1 hg1 c1
      have c1 := cell_of_one hd.hv
      have c2 := free_of_one hd.hv
      have hz2 : w.heap.size < W1.heap.size := lt_heap hd.box
      have hz1 : ba < W1.heap.size := lt_heap hd.hv
      have hvl := (varint_length (zz n)).2
      go_region_law
        (first
          | (refine step_app2 rfl (.tmp 16) (.tmp 19) rfl rfl hd2 rfl ha2 rfl (by simp; omega) (by have := hb2.size; omega) ?_
             intro v3 w3 hown3 hb3 hg3
             obtain ⟨A3, cp3, rfl, hcp3, _, _, _, _⟩ := hown3.form
             obtain ⟨hd3, e0, e00⟩ := hd.next hnb hba hbw hb2 hd2 hown3 hb3 hg3
             have e1 := cell_of_one e0
             have e2 := free_of_one e0
             obtain ⟨f0, f1, f2, f3⟩ := box4 e00)
          | (go_simp
             go_at_call 147
             refine (int_bs _ [] n _ (Bs.nil _) (by simp) hn0 hn1).mono ?_
             rintro e w2 ⟨v2, rfl, ho2, hv2, hb2'⟩
             have hb2 := of_drew hb2'
             rw [List.nil_append] at ho2
             have hd2 := hd.own.below hb2 (Nat.le_refl _)
             have c3 := (hb2.cell hz1 (p := ⟨ba, 0, none⟩)).trans c1
             have d4 := (hb2.cell hz2 (p := ⟨w.heap.size, 1, none⟩)).trans d1
             obtain ⟨A2, cp2, rfl, hcp2, _, ha2, _, _⟩ := ho2.form))
      all_goals
        go_wp2_with fail
        go_end0
        rw [HE.out]
        rw [show (l ++ [k] ++ varint (zz n)).length = l.length + ((varint (zz n)).length + 1) by simp] at hd3
        exact hd3.out
    · have g1 : ((k : Int) == 1) = false := by rw [h2]; rfl
      have g5 : ((k : Int) == 5) = false := by rw [h2]; rfl
      have g2 : ((k : Int) == 2) = true := by rw [h2]; rfl
      have hn : n = 0 ∨ n = 1 := by
        rcases hrt with ⟨_, h⟩ | ⟨h, _⟩
        · obtain ⟨_, h3⟩ := lf_cases h
          omega
        · omega
      have HE : Hid (l ++ enc (L + 1) (.mk k n s p) = l ++ [k] ++ [n.toNat]) := by
        show _ = _
        rcases hn with rfl | rfl <;> simp [enc, h2]
      clear h2
      rcases hn with rfl | rfl
      · go_enter Try.func177, Try.ntmps177
        go_wp2_with (first
          | (at_builtin
             refine wpList_app rfl (.tmp 6) (.tmp 9) rfl rfl ((hown0.alloc _).alloc _) rfl (At.one' _ _ _ k _ rfl (by simp)) rfl (by simp; omega) (by simp; omega) ?_
             intro v1 w1 hown1 hb1 hg1 _
             obtain ⟨A1, cp1, rfl, hcp1, _, _, _, _⟩ := hown1.form
             have hd := hd_mk hbw hba hv0 hown0 hown1 hb1 hg1
             rw [show (l ++ [k]).length = l.length + 1 by simp] at hd
             have k1 : w1.heap[ba]? = some (.cells #[v0] 27 (0, 0)) := ba_grown (heap_old (heap_old hv0 _) _) ((hown0.alloc _).alloc _) hg1
             have k2 := cell_of_one k1
             have k3 := free_of_one k1
             have k5 := cell_of_one hd.hv
             have k6 := lt_heap k1
             obtain ⟨d0, d1, d2, d3⟩ := box4 hd.box)
          | (at_builtin
             refine wpList_app rfl (.tmp 23) (.tmp 27) rfl rfl (hd.own.alloc _) rfl (At.one' _ _ _ 0 _ rfl (by simp)) rfl (by simp; omega) (by have := hd.bel.size; simp at this ⊢; omega) ?_
             intro v3 w3 hown3 hb3 hg3 _
             obtain ⟨A3, cp3, rfl, hcp3, _, _, _, _⟩ := hown3.form
             obtain ⟨hd3, e0, e00⟩ := hd.next hnb hba hbw ((Below.refl _ _).alloc (Nat.le_refl _) _) (hd.own.alloc _) hown3 hb3 hg3
             have e1 := cell_of_one e0
             have e2 := free_of_one e0))
        go_end0
        rw [HE.out]
        rw [show (l ++ [k] ++ [0] : List Nat).length = l.length + 1 + 1 by simp] at hd3
        exact hd3.out
      · go_enter Try.func177, Try.ntmps177
        go_wp2_with (first
          | (at_builtin
             refine wpList_app rfl (.tmp 6) (.tmp 9) rfl rfl ((hown0.alloc _).alloc _) rfl (At.one' _ _ _ k _ rfl (by simp)) rfl (by simp; omega) (by simp; omega) ?_
             intro v1 w1 hown1 hb1 hg1 _
             obtain ⟨A1, cp1, rfl, hcp1, _, _, _, _⟩ := hown1.form
             have hd := hd_mk hbw hba hv0 hown0 hown1 hb1 hg1
             rw [show (l ++ [k]).length = l.length + 1 by simp] at hd
             have k1 : w1.heap[ba]? = some (.cells #[v0] 27 (0, 0)) := ba_grown (heap_old (heap_old hv0 _) _) ((hown0.alloc _).alloc _) hg1
             have k2 := cell_of_one k1
             have k3 := free_of_one k1
             have k5 := cell_of_one hd.hv
             have k6 := lt_heap k1
             obtain ⟨d0, d1, d2, d3⟩ := box4 hd.box)
          | (at_builtin
             refine wpList_app rfl (.tmp 23) (.tmp 27) rfl rfl (hd.own.alloc _) rfl (At.one' _ _ _ 1 _ rfl (by simp)) rfl (by simp; omega) (by have := hd.bel.size; simp at this ⊢; omega) ?_
             intro v3 w3 hown3 hb3 hg3 _
             obtain ⟨A3, cp3, rfl, hcp3, _, _, _, _⟩ := hown3.form
             obtain ⟨hd3, e0, e00⟩ := hd.next hnb hba hbw ((Below.refl _ _).alloc (Nat.le_refl _) _) (hd.own.alloc _) hown3 hb3 hg3
             have e1 := cell_of_one e0
             have e2 := free_of_one e0))
        go_end0
        rw [HE.out]
        rw [show (l ++ [k] ++ [1] : List Nat).length = l.length + 1 + 1 by simp] at hd3
        exact hd3.out
    · have g1 : ((k : Int) == 1) = false := by rw [h3]; rfl
      have g5 : ((k : Int) == 5) = false := by rw [h3]; rfl
      have g2 : ((k : Int) == 2) = false := by rw [h3]; rfl
      have g3 : ((k : Int) == 3) = true := by rw [h3]; rfl
      have hsl4 : s.length ≤ 4096 := by
        rcases hrt with ⟨_, h⟩ | ⟨h, _⟩
        · obtain ⟨_, h3⟩ := lf_cases h
          omega
        · omega
      have HE : Hid (l ++ enc (L + 1) (.mk k n s p) = l ++ [k] ++ (varint s.length ++ s)) := by
        show _ = _
        simp [enc, h3]
      clear h3
      go_enter Try.func177, Try.ntmps177
      go_wp2_with (at_builtin
                   refine wpList_app rfl (.tmp 6) (.tmp 9) rfl rfl ((hown0.alloc _).alloc _) rfl (At.one' _ _ _ k _ rfl (by simp)) rfl (by simp; omega) (by simp; omega) ?_
                   intro v1 w1 hown1 hb1 hg1 _
                   obtain ⟨A1, cp1, rfl, hcp1, _, _, _, _⟩ := hown1.form
                   have hd := hd_mk hbw hba hv0 hown0 hown1 hb1 hg1
                   rw [show (l ++ [k]).length = l.length + 1 by simp] at hd
                   have k1 : w1.heap[ba]? = some (.cells #[v0] 27 (0, 0)) := ba_grown (heap_old (heap_old hv0 _) _) ((hown0.alloc _).alloc _) hg1
                   have k2 := cell_of_one k1
                   have k3 := free_of_one k1
                   obtain ⟨d0, d1, d2, d3⟩ := box4 hd.box)
      generalize hW1 : w1.setCell ⟨ba, 0, none⟩ (.slice A1 (l.length + 1) cp1) = W1 at *
      clear hW1 k1 k2 k3 hown1 hb1 hg1 c1
      have c1 := cell_of_one hd.hv
      have c2 := free_of_one hd.hv
      have hz2 : w.heap.size < W1.heap.size := lt_heap hd.box
      have hz1 : ba < W1.heap.size := lt_heap hd.hv
      have hvl := (varint_length s.length).2
      have kc := conv_any s
      have HS8 := Lib.hid hs8
      clear hs8
      go_region_law
        (first
          | (refine step_app2 rfl (.tmp 31) (.tmp 35) rfl rfl hd2 rfl ha2 (by simp) (by simp; omega) (by have := hb2.size; omega) ?_
             intro v3 w3 hown3 hb3 hg3
             obtain ⟨A3, cp3, rfl, hcp3, _, _, _, _⟩ := hown3.form
             obtain ⟨hd3, e0, e00⟩ := hd.next hnb hba hbw hb2 hd2 hown3 hb3 hg3
             have e1 := cell_of_one e0
             have e2 := free_of_one e0
             obtain ⟨f0, f1, f2, f3⟩ := box4 e00)
          | (go_simp
             go_at_call 79
             refine (blob_bs _ [] _ s ((W1.alloc (convO W1.drew s)).drew.drew) (Bs.nil _) ((conv_bs s HS8.out W1 _ _ W1.drew rfl rfl).drew.drew) (by simp) (by omega)).mono ?_
             rintro e w2 ⟨v2, rfl, ho2, hv2, hb2'⟩
             have hb2 : Below W1.heap.size W1 w2 := nxt ((Below.refl W1.heap.size W1).alloc (Nat.le_refl _) _).drew.drew hb2'
             rw [List.nil_append] at ho2
             have hd2 := hd.own.below hb2 (Nat.le_refl _)
             have c3 := (hb2.cell hz1 (p := ⟨ba, 0, none⟩)).trans c1
             have d4 := (hb2.cell hz2 (p := ⟨w.heap.size, 2, none⟩)).trans d2
             obtain ⟨A2, cp2, rfl, hcp2, _, ha2, _, _⟩ := ho2.form))
      all_goals
        go_wp2_with fail
        go_end0
        rw [HE.out]
        rw [show (l ++ [k] ++ (varint s.length ++ s)).length = l.length + ((varint s.length).length + s.length + 1) by simp] at hd3
        exact hd3.out
    · have g1 : ((k : Int) == 1) = false := by rw [h4]; rfl
      have g5 : ((k : Int) == 5) = false := by rw [h4]; rfl
      have g2 : ((k : Int) == 2) = false := by rw [h4]; rfl
      have g3 : ((k : Int) == 3) = false := by rw [h4]; rfl
      have g4 : ((k : Int) == 4) = true := by rw [h4]; rfl
      have hparts : ∀ t ∈ p, Rt L t := by
        rcases hrt with ⟨h, _⟩ | ⟨_, _, _, h⟩
        · exact absurd h4 h
        · exact h
      have HE : Hid (l ++ enc (L + 1) (.mk k n s p) = l ++ [k] ++ varint p.length ++ p.flatMap (enc L)) := by
        show _ = _
        simp [enc, h4]
      clear h4
      go_enter Try.func177, Try.ntmps177
      go_wp2_with (at_builtin
                   refine wpList_app rfl (.tmp 6) (.tmp 9) rfl rfl ((hown0.alloc _).alloc _) rfl (At.one' _ _ _ k _ rfl (by simp)) rfl (by simp; omega) (by simp; omega) ?_
                   intro v1 w1 hown1 hb1 hg1 _
                   obtain ⟨A1, cp1, rfl, hcp1, _, _, _, _⟩ := hown1.form
                   have hd := hd_mk hbw hba hv0 hown0 hown1 hb1 hg1
                   rw [show (l ++ [k]).length = l.length + 1 by simp] at hd
                   have k1 : w1.heap[ba]? = some (.cells #[v0] 27 (0, 0)) := ba_grown (heap_old (heap_old hv0 _) _) ((hown0.alloc _).alloc _) hg1
                   have k2 := cell_of_one k1
                   have k3 := free_of_one k1
                   obtain ⟨d0, d1, d2, d3⟩ := box4 hd.box)
      generalize hW1 : w1.setCell ⟨ba, 0, none⟩ (.slice A1 (l.length + 1) cp1) = W1 at *
      clear hW1 k1 k2 k3 hown1 hb1 hg1 c1
      have c1 := cell_of_one hd.hv
      have c2 := free_of_one hd.hv
      have hz2 : w.heap.size < W1.heap.size := lt_heap hd.box
      have hz1 : ba < W1.heap.size := lt_heap hd.hv
      have hvl := (varint_length p.length).2
      have hpl : p.length ≤ 4398046511104 := by
        have h := HLEN.out
        have h2 := congrArg List.length HE.out
        have h3 := flat_ge (L := L) p hparts
        simp only [List.length_append] at h2
        omega
      have p1 : IntKind.u64.wrap (p.length : Int) = (p.length : Int) := by rw [IntKind.wrap_u64]; omega
      go_cut [45] (fun _ wx => ∃ v3 : Value, Hd w wx base ba v3 (l ++ [k] ++ varint p.length) #[.int .u8 (k : Int), .int .i64 n, .string (strOf s), .slice A p.length c])
      case first =>
        go_region_law
          (first
            | (refine step_app2 rfl (.tmp 39) (.tmp 44) rfl rfl hd2 rfl ha2 rfl (by simp; omega) (by have := hb2.size; omega) ?_
               intro v3 w3 hown3 hb3 hg3
               obtain ⟨A3, cp3, rfl, hcp3, _, _, _, _⟩ := hown3.form
               obtain ⟨hd3, e0, e00⟩ := hd.next hnb hba hbw hb2 hd2 hown3 hb3 hg3
               have e1 := cell_of_one e0
               have e2 := free_of_one e0
               obtain ⟨f0, f1, f2, f3⟩ := box4 e00)
            | (go_simp
               go_at_call 78
               refine (uint_bs _ [] p.length _ (Bs.nil _) (by simp) (by omega)).mono ?_
               rintro e w2 ⟨v2, rfl, ho2, hv2, hb2'⟩
               have hb2 := of_drew hb2'
               rw [List.nil_append] at ho2
               have hd2 := hd.own.below hb2 (Nat.le_refl _)
               have c3 := (hb2.cell hz1 (p := ⟨ba, 0, none⟩)).trans c1
               have d4 := (hb2.cell hz2 (p := ⟨w.heap.size, 3, none⟩)).trans d3
               obtain ⟨A2, cp2, rfl, hcp2, _, ha2, _, _⟩ := ho2.form))
        all_goals
          go_wp2_with fail
          go_meet
          rw [show (l ++ [k] ++ varint p.length).length = l.length + ((varint p.length).length + 1) by simp] at hd3
          exact ⟨.slice A3 (l.length + ((varint p.length).length + 1)) cp3, hd3⟩
      case rest =>
        obtain ⟨v3, hd3⟩ := hcut
        clear hd c1 c2 d0 d1 d2 d3 hz1 hz2 p1
        obtain ⟨d0, d1, d2, d3⟩ := box4 hd3.box
        go_wp2_with fail
        go_loopw [49] (fun i wr => ∃ (j : Nat) (vv : Value), j ≤ p.length ∧ i = .int .i64 (j : Int) ∧ Hd w wr base ba vv (l ++ [k] ++ varint p.length ++ (p.take j).flatMap (enc L)) #[.int .u8 (k : Int), .int .i64 n, .string (strOf s), .slice A p.length c]) (fun i _ => p.length - (intOf i).toNat)
        case atStart => exact ⟨0, v3, Nat.zero_le _, rfl, by simpa using hd3⟩
        case round =>
          obtain ⟨j, vv, hj, rfl, hdj⟩ := hrel
          have hbj : B ≤ wr.heap.size := Nat.le_trans hBb (Nat.le_trans hbw hdj.bel.size)
          by_cases hlt2 : j < p.length
          · obtain ⟨b, o, y0, y1, y2, y3, rfl, hbB, hrange, hrepj⟩ := hl.at j hlt2
            have hbel : Below B w wr := hdj.bel.mono hBb
            have HJ := Lib.hid (flat_take (f := enc L) p j hlt2)
            have HL := Lib.hid (flat_le (f := enc L) p (j + 1))
            have hrt' := hparts p[j] (List.getElem_mem hlt2)
            have hok' := hok.2.2.2.2 p[j] (List.getElem_mem hlt2)
            have hrepj' := hrepj.under hbel
            generalize p[j] = tj at *
            obtain ⟨kj, nj, sj, lj⟩ := tj
            obtain ⟨Aj, cj, rfl, rfl, rfl, rfl, -⟩ := hrepj.parts
            have m0 : wr.cell? ⟨b, o + j * 4, none⟩ = some _ := (hbel.cell hbB).trans (hrange 0 _ rfl)
            have m1 : wr.cell? ⟨b, o + j * 4 + 1, none⟩ = some _ := (hbel.cell hbB).trans (hrange 1 _ rfl)
            have m2 : wr.cell? ⟨b, o + j * 4 + 2, none⟩ = some _ := (hbel.cell hbB).trans (hrange 2 _ rfl)
            have m3 : wr.cell? ⟨b, o + j * 4 + 3, none⟩ = some _ := (hbel.cell hbB).trans (hrange 3 _ rfl)
            have hfr : Fun1 wr bp 208 (putF ba bp) := hdj.ot.heap hf hne (by decide)
            have hfc : wr.cell? ⟨bp, 0, none⟩ = some (putF ba bp) := hfr.cell
            unfold putF at hfc
            have hltf := lt_heap hfr
            have hlen' : (l ++ [k] ++ varint p.length ++ (p.take j).flatMap (enc L)).length + (enc L (.mk kj nj sj lj)).length ≤ 4398046511104 := by
              have h := HLEN.out
              have h2 := congrArg List.length HE.out
              have h3 := HL.out
              rw [HJ.out] at h3
              simp only [List.length_append] at h2 h3 ⊢
              omega
            have HLEN' := Lib.hid hlen'
            clear hrange hrepj hlen'
            go_wp2_with fail
            refine (ih _ _ _ _ B base ba bp hrt' hok' (hrepj'.under ((Below.refl _ _).alloc hbj _)) hBb hba (by have := hdj.bel.size; simp; omega) hne ⟨vv, heap_old hdj.hv _, hdj.own.alloc _⟩ (heap_old hfr _) HLEN'.out).mono ?_
            rintro e w4 ⟨rfl, ⟨v4, hv4, hown4⟩, hb4, ho4⟩
            have hd4 : Hd w w4 base ba v4 (l ++ [k] ++ varint p.length ++ (p.take (j + 1)).flatMap (enc L)) #[.int .u8 (k : Int), .int .i64 n, .string (strOf s), .slice (some ⟨b, o, none⟩) p.length c] := by
              refine ⟨hv4, ?_, ho4.heap (heap_old hdj.box _) hnb (by decide), (hdj.bel.alloc (Nat.le_trans hbw hdj.bel.size) _).trans hb4, (hdj.ot.alloc _).trans ho4⟩
              rw [HJ.out, ← List.append_assoc]
              exact hown4
            clear hv4 hown4 hb4 ho4 m0 m1 m2 m3 hfc hrepj'
            go_wp2_with fail
            go_roundw
            case rel => exact ⟨j + 1, v4, by omega, by go_num, hd4⟩
            case measure => simp [intOf]; omega
          · obtain rfl : j = p.length := by omega
            rw [List.take_length] at hdj
            go_wp2_with fail
            go_end0
            rw [HE.out]
            exact hdj.out
    · have g1 : ((k : Int) == 1) = false := by rw [h5]; rfl
      have g5 : ((k : Int) == 5) = true := by rw [h5]; rfl
      have HE : Hid (l ++ enc (L + 1) (.mk k n s p) = l ++ [k] ++ varint (zz n)) := by
        show _ = _
        simp [enc, h5]
      clear h5
      go_enter Try.func177, Try.ntmps177
      go_wp2_with (at_builtin
                   refine wpList_app rfl (.tmp 6) (.tmp 9) rfl rfl ((hown0.alloc _).alloc _) rfl (At.one' _ _ _ k _ rfl (by simp)) rfl (by simp; omega) (by simp; omega) ?_
                   intro v1 w1 hown1 hb1 hg1 _
                   obtain ⟨A1, cp1, rfl, hcp1, _, _, _, _⟩ := hown1.form
                   have hd := hd_mk hbw hba hv0 hown0 hown1 hb1 hg1
                   rw [show (l ++ [k]).length = l.length + 1 by simp] at hd
                   have k1 : w1.heap[ba]? = some (.cells #[v0] 27 (0, 0)) := ba_grown (heap_old (heap_old hv0 _) _) ((hown0.alloc _).alloc _) hg1
                   have k2 := cell_of_one k1
                   have k3 := free_of_one k1
                   obtain ⟨d0, d1, d2, d3⟩ := box4 hd.box)
      generalize hW1 : w1.setCell ⟨ba, 0, none⟩ (.slice A1 (l.length + 1) cp1) = W1 at *
      clear hW1 k1 k2 k3 hown1 hb1 hg1 c1
      have c1 := cell_of_one hd.hv
      have c2 := free_of_one hd.hv
      have hz2 : w.heap.size < W1.heap.size := lt_heap hd.box
      have hz1 : ba < W1.heap.size := lt_heap hd.hv
      have hvl := (varint_length (zz n)).2
      go_region_law
        (first
          | (refine step_app2 rfl (.tmp 16) (.tmp 19) rfl rfl hd2 rfl ha2 rfl (by simp; omega) (by have := hb2.size; omega) ?_
             intro v3 w3 hown3 hb3 hg3
             obtain ⟨A3, cp3, rfl, hcp3, _, _, _, _⟩ := hown3.form
             obtain ⟨hd3, e0, e00⟩ := hd.next hnb hba hbw hb2 hd2 hown3 hb3 hg3
             have e1 := cell_of_one e0
             have e2 := free_of_one e0
             obtain ⟨f0, f1, f2, f3⟩ := box4 e00)
          | (go_simp
             go_at_call 147
             refine (int_bs _ [] n _ (Bs.nil _) (by simp) hn0 hn1).mono ?_
             rintro e w2 ⟨v2, rfl, ho2, hv2, hb2'⟩
             have hb2 := of_drew hb2'
             rw [List.nil_append] at ho2
             have hd2 := hd.own.below hb2 (Nat.le_refl _)
             have c3 := (hb2.cell hz1 (p := ⟨ba, 0, none⟩)).trans c1
             have d4 := (hb2.cell hz2 (p := ⟨w.heap.size, 1, none⟩)).trans d1
             obtain ⟨A2, cp2, rfl, hcp2, _, ha2, _, _⟩ := ho2.form))
      all_goals
        go_wp2_with fail
        go_end0
        rw [HE.out]
        rw [show (l ++ [k] ++ varint (zz n)).length = l.length + ((varint (zz n)).length + 1) by simp] at hd3
        exact hd3.out
end Go.Proofs.Ytjcefnlidophoaa
namespace Go.Proofs.Ytjcefnlidophoaa
open Go.RowKit

def gp (l : List Nat) (at_ : Nat) : Nat × Nat × Nat := if (gu l at_).2.2 ≠ 0 then (0, 0, (gu l at_).2.2) else if 256 < (gu l at_).1 then (0, 0, 13) else ((gu l at_).1, (gu l at_).2.1, 0)
def gt (l : List Nat) (at_ : Nat) : Nat × Nat × Nat := if at_ = l.length then (0, 0, 11) else if 1 < l.getD at_ 0 then (0, 0, 10) else (l.getD at_ 0, at_ + 1, 0)
def ga (l : List Nat) (at_ : Nat) : Int × Nat × Nat := if (gu l at_).2.2 ≠ 0 then (0, 0, (gu l at_).2.2) else if un (gu l at_).1 < 0 then (0, 0, 13) else (un (gu l at_).1, (gu l at_).2.1, 0)
def G3 (x : Int) (k e : Nat) (w : World) (en : Ending) (w' : World) : Prop := en = .returned (.tuple #[.int .i64 x, .int .i64 (k : Int), .int .i64 (e : Int)]) ∧ w = w'
theorem g3 {x : Int} {k e : Nat} {w w' : World} (a b c : Int) (ha : a = x) (hb : b = k) (hc : c = e) (hw : w = w') : G3 x k e w (.returned (.tuple #[.int .i64 a, .int .i64 b, .int .i64 c])) w' := by
  subst ha hb hc hw
  exact ⟨rfl, rfl⟩

set_option maxRecDepth 100000 in
set_option maxHeartbeats 400000 in
theorem getparts_any (v : Value) (l : List Nat) (at_ : Nat) (w : World) (h : Bs w v l) (hn : l.length ≤ 1099511627776) (hat : at_ ≤ l.length) :
    Calls Try.prog 162 #[v, .int .i64 (at_ : Int)] w (G3 ((gp l at_).1 : Nat) (gp l at_).2.1 (gp l at_).2.2 w) := by
  have hc := getuint_bs v l at_ w h hn hat
  obtain ⟨hu, h0, h1⟩ := gu_bounds l at_ hat
  have HP : Hid (gp l at_ = if (gu l at_).2.2 ≠ 0 then (0, 0, (gu l at_).2.2) else if 256 < (gu l at_).1 then (0, 0, 13) else ((gu l at_).1, (gu l at_).2.1, 0)) := rfl
  obtain ⟨⟨A, c, rfl, hc', ha⟩, h8⟩ := h
  generalize gp l at_ = R at *
  generalize gu l at_ = r at *
  obtain ⟨x, k, e⟩ := r
  dsimp only at *
  by_cases he : e = 0
  · subst he
    clear h0 h1
    by_cases hx : 256 < x
    · have HR : Hid (R = (0, 0, 13)) := by rw [HP.out, if_neg (by simp), if_pos hx]; rfl
      have g2 : decide ((256 : Int) < (x : Int)) = true := by simp; omega
      clear HP
      go_enter Try.func162, Try.ntmps162
      go_wp2_with fail
      refine hc.mono ?_
      rintro e w1 ⟨rfl, rfl⟩
      go_wp2_with fail
      go_ret3
      rw [HR.out]
      exact g3 _ _ _ rfl rfl rfl rfl
    · have HR : Hid (R = (x, k, 0)) := by rw [HP.out, if_neg (by simp), if_neg hx]; rfl
      have g2 : decide ((256 : Int) < (x : Int)) = false := by simp; omega
      have hx' : x ≤ 256 := by omega
      clear HP hx
      go_enter Try.func162, Try.ntmps162
      go_wp2_with fail
      refine hc.mono ?_
      rintro e w1 ⟨rfl, rfl⟩
      go_wp2_with fail
      go_ret3
      rw [HR.out]
      exact g3 _ _ _ rfl rfl rfl rfl
  · have HR : Hid (R = (0, 0, e)) := by rw [HP.out, if_pos he]; rfl
    have g1 : ((e : Int) == 0) = false := by simp; omega
    have g2 : ((e : Int) != 0) = true := by simp; omega
    clear HP he h0 h1
    go_enter Try.func162, Try.ntmps162
    go_wp2_with fail
    refine hc.mono ?_
    rintro e w1 ⟨rfl, rfl⟩
    go_wp2_with fail
    go_ret3
    rw [HR.out]
    exact g3 _ _ _ rfl rfl rfl rfl

set_option maxRecDepth 100000 in
set_option maxHeartbeats 400000 in
theorem getactor_any (v : Value) (l : List Nat) (at_ : Nat) (w : World) (h : Bs w v l) (hn : l.length ≤ 1099511627776) (hat : at_ ≤ l.length) :
    Calls Try.prog 179 #[v, .int .i64 (at_ : Int)] w (G3 (ga l at_).1 (ga l at_).2.1 (ga l at_).2.2 w) := by
  have hc := getint_bs v l at_ w h hn hat
  obtain ⟨hu, h0, h1⟩ := gu_bounds l at_ hat
  have HP : Hid (ga l at_ = if (gu l at_).2.2 ≠ 0 then (0, 0, (gu l at_).2.2) else if un (gu l at_).1 < 0 then (0, 0, 13) else (un (gu l at_).1, (gu l at_).2.1, 0)) := rfl
  obtain ⟨⟨A, c, rfl, hc', ha⟩, h8⟩ := h
  generalize ga l at_ = R at *
  generalize gu l at_ = r at *
  obtain ⟨x, k, e⟩ := r
  dsimp only at *
  have hub := un_bounds x hu
  by_cases he : e = 0
  · subst he
    clear h0 h1
    by_cases hx : un x < 0
    · have HR : Hid (R = (0, 0, 13)) := by rw [HP.out, if_neg (by simp), if_pos hx]; rfl
      clear HP
      go_enter Try.func179, Try.ntmps179
      go_wp2_with fail
      refine hc.mono ?_
      rintro e w1 ⟨rfl, rfl⟩
      dsimp only
      generalize un x = u at *
      go_wp2_with fail
      go_ret3
      rw [HR.out]
      exact g3 _ _ _ rfl rfl rfl rfl
    · have HR : Hid (R = (un x, k, 0)) := by rw [HP.out, if_neg (by simp), if_neg hx]; rfl
      clear HP
      go_enter Try.func179, Try.ntmps179
      go_wp2_with fail
      refine hc.mono ?_
      rintro e w1 ⟨rfl, rfl⟩
      dsimp only
      generalize un x = u at *
      go_wp2_with fail
      go_ret3
      rw [HR.out]
      exact g3 _ _ _ rfl rfl rfl rfl
  · have HR : Hid (R = (0, 0, e)) := by rw [HP.out, if_pos he]; rfl
    have g1 : ((e : Int) == 0) = false := by simp; omega
    have g2 : ((e : Int) != 0) = true := by simp; omega
    clear HP he h0 h1
    go_enter Try.func179, Try.ntmps179
    go_wp2_with fail
    refine hc.mono ?_
    rintro e w1 ⟨rfl, rfl⟩
    dsimp only
    generalize un x = u at *
    go_wp2_with fail
    go_ret3
    rw [HR.out]
    exact g3 _ _ _ rfl rfl rfl rfl

set_option maxRecDepth 100000 in
set_option maxHeartbeats 400000 in
theorem gettruth_any (v : Value) (l : List Nat) (at_ : Nat) (w : World) (h : Bs w v l) (hn : l.length ≤ 1099511627776) (hat : at_ ≤ l.length) :
    Calls Try.prog 178 #[v, .int .i64 (at_ : Int)] w (G3 ((gt l at_).1 : Nat) (gt l at_).2.1 (gt l at_).2.2 w) := by
  have HP : Hid (gt l at_ = if at_ = l.length then (0, 0, 11) else if 1 < l.getD at_ 0 then (0, 0, 10) else (l.getD at_ 0, at_ + 1, 0)) := rfl
  obtain ⟨⟨A, c, rfl, hc', ha⟩, h8⟩ := h
  generalize gt l at_ = R at *
  by_cases he : at_ = l.length
  · have HR : Hid (R = (0, 0, 11)) := by rw [HP.out, if_pos he]; rfl
    have g1 : ((at_ : Int) == (l.length : Int)) = true := by rw [he]; simp
    clear HP he
    go_enter Try.func178, Try.ntmps178
    go_wp2_with fail
    go_ret3
    rw [HR.out]
    exact g3 _ _ _ rfl rfl rfl rfl
  · have hlt : at_ < l.length := by omega
    have g1 : ((at_ : Int) == (l.length : Int)) = false := beq_eq_false_iff_ne.2 (by omega)
    obtain ⟨b, o, rfl, hb, hcell⟩ := ha.byte (by intro h0; subst h0; simp at hlt)
    have c0 := hcell at_ hlt
    have hx8 : l.getD at_ 0 < 256 := by
      have := h8 (l[at_]) (List.getElem_mem hlt)
      simpa [hlt] using this
    have H8 := Lib.hid h8
    have HC := Lib.hid hcell
    clear hcell h8
    generalize l.getD at_ 0 = x at *
    by_cases hx : 1 < x
    · have HR : Hid (R = (0, 0, 10)) := by rw [HP.out, if_neg he, if_pos hx]; rfl
      clear HP he
      go_enter Try.func178, Try.ntmps178
      go_wp2_with fail
      go_ret3
      rw [HR.out]
      exact g3 _ _ _ rfl rfl rfl rfl
    · have HR : Hid (R = (x, at_ + 1, 0)) := by rw [HP.out, if_neg he, if_neg hx]; rfl
      have hx' : x ≤ 1 := by omega
      clear HP he hx
      go_enter Try.func178, Try.ntmps178
      go_wp2_with fail
      go_ret3
      rw [HR.out]
      exact g3 _ _ _ rfl rfl rfl rfl
end Go.Proofs.Ytjcefnlidophoaa
namespace Go.Proofs.Ytjcefnlidophoaa
open Go.RowKit

def zeroV : Value := .agg #[.int .u8 0, .int .i64 0, .string ⟨#[]⟩, .slice none 0 0]
def LfPost (r : Except Nat (Va × Nat)) (w : World) (e : Ending) (w' : World) : Prop := match r with
  | .error er => e = .returned (.tuple #[zeroV, .int .i64 0, .int .i64 ((er : Nat) : Int)]) ∧ Below w.heap.size w w'
  | .ok (t, nx) => ∃ x, e = .returned (.tuple #[x, .int .i64 ((nx : Nat) : Int), .int .i64 0]) ∧ (∀ S, RepS w' S x t) ∧ Below w.heap.size w w'
theorem leafRep {k : Nat} {n : Int} {s : List Nat} {w : World} (hk : k < 256) (hn0 : -9223372036854775808 ≤ n) (hn1 : n ≤ 9223372036854775807) (hs : ∀ y ∈ s, y < 256) (hsl : s.length ≤ 9223372036854775807) (S : Nat → Prop) :
    RepS w S (.agg #[.int .u8 (k : Int), .int .i64 n, .string (strOf s), .slice none 0 0]) (.mk k n s []) :=
  (RepsS.nil w S none).mk (l := []) (c := 0) hk hn0 hn1 hs hsl (by simp) (by omega)
theorem strOf_nil : strOf [] = ⟨#[]⟩ := rfl

set_option maxRecDepth 100000 in
set_option maxHeartbeats 800000 in
theorem getleaf_any (v : Value) (l : List Nat) (at_ : Nat) (w : World) (h : Bs w v l) (hn : l.length ≤ 1099511627776) (hat : at_ < l.length) :
    Calls Try.prog 161 #[v, .int .i64 (at_ : Int)] w (LfPost (dlf l at_) w) := by
  have h0 := h
  obtain ⟨⟨A, c, rfl, hc', ha⟩, h8⟩ := h
  obtain ⟨b, o, rfl, hb, hcell⟩ := ha.byte (by intro h0; subst h0; simp at hat)
  have c0 := hcell at_ hat
  have hx8 : l.getD at_ 0 < 256 := by
    have := h8 (l[at_]) (List.getElem_mem hat)
    simpa [hat] using this
  have H8 := Lib.hid h8
  have HC := Lib.hid hcell
  have HD : Hid (dlf l at_ = dlf l at_) := rfl
  clear hcell h8
  have hu := gu_bounds l (at_ + 1) (by omega)
  have two3 : ∀ o o' : Obj, Below w.heap.size w ((w.alloc o).alloc o') := fun o o' => ((Below.refl _ _).alloc (Nat.le_refl _) o).alloc (by simp) o'
  by_cases k1 : l.getD at_ 0 = 1
  · have HR : Hid (dlf l at_ = if (gu l (at_ + 1)).2.2 = 0 then .ok (.mk 1 (un (gu l (at_ + 1)).1) [] [], (gu l (at_ + 1)).2.1) else .error (gu l (at_ + 1)).2.2) := by
      show _ = _
      rw [dlf, if_pos k1]
    rw [k1] at c0
    generalize dlf l at_ = R at *
    have HU := Lib.hid hu
    clear hu
    go_enter Try.func161, Try.ntmps161
    go_wp2_with fail
    refine (getint_bs _ l (at_ + 1) _ (h0.below (two3 _ _)) hn (by omega)).mono ?_
    rintro e w1 ⟨rfl, rfl⟩
    generalize gu l (at_ + 1) = r at *
    obtain ⟨x, k, er⟩ := r
    dsimp only at *
    obtain ⟨hx, he0, hk⟩ := HU.out
    have hub := un_bounds x hx
    by_cases he : er = 0
    · subst he
      have HR2 : Hid (R = .ok (.mk 1 (un x) [] [], k)) := by rw [HR.out, if_pos rfl]; rfl
      clear HR he0 hk HU
      generalize un x = u at *
      go_wp2_with fail
      refine bodyPost_ret (v := .tuple #[.agg #[.int .u8 1, .int .i64 u, .string ⟨#[]⟩, .slice none 0 0], .int .i64 (k : Int), .int .i64 0]) (by simp [results, Try.results161, go_sem]) rfl ?_
      rw [HR2.out]
      exact ⟨_, rfl, fun S => leafRep (k := 1) (s := []) (by omega) hub.1 hub.2 (by simp) (by simp) S, two3 _ _⟩
    · have HR2 : Hid (R = .error er) := by rw [HR.out, if_neg he]; rfl
      have g1 : ((er : Int) == 0) = false := by simp; omega
      have g2 : ((er : Int) != 0) = true := by simp; omega
      clear HR hk HU he he0
      generalize un x = u at *
      go_wp2_with fail
      refine bodyPost_ret (v := .tuple #[.agg #[.int .u8 0, .int .i64 0, .string ⟨#[]⟩, .slice none 0 0], .int .i64 0, .int .i64 (er : Int)]) (by simp [results, Try.results161, go_sem]) rfl ?_
      rw [HR2.out]
      exact ⟨rfl, two3 _ _⟩
  · by_cases k2 : l.getD at_ 0 = 2
    · have HG : Hid (dlf l at_ = if (gt l (at_ + 1)).2.2 = 0 then .ok (.mk 2 ((gt l (at_ + 1)).1 : Nat) [] [], (gt l (at_ + 1)).2.1) else .error (gt l (at_ + 1)).2.2) := by
        show _ = _
        rw [dlf, if_neg k1, if_pos k2, gt]
        by_cases h1 : at_ + 1 = l.length
        · rw [if_pos h1, if_pos h1, if_neg (by simp)]
        · rw [if_neg h1, if_neg h1]
          by_cases h2 : 1 < l.getD (at_ + 1) 0
          · rw [if_pos h2, if_pos h2, if_neg (by simp)]
          · rw [if_neg h2, if_neg h2, if_pos rfl]
      have hle : (gt l (at_ + 1)).1 ≤ 1 := by
        rw [gt]
        split
        · simp
        · split
          · simp
          · dsimp only; omega
      rw [k2] at c0
      generalize dlf l at_ = R at *
      clear hu k1
      go_enter Try.func161, Try.ntmps161
      go_wp2_with fail
      refine (gettruth_any _ l (at_ + 1) _ (h0.below (two3 _ _)) hn (by omega)).mono ?_
      rintro e w1 ⟨rfl, rfl⟩
      generalize gt l (at_ + 1) = r at *
      obtain ⟨x, k, er⟩ := r
      dsimp only at *
      by_cases he : er = 0
      · subst he
        have HR2 : Hid (R = .ok (.mk 2 (x : Int) [] [], k)) := by rw [HG.out, if_pos rfl]; rfl
        clear HG
        go_wp2_with fail
        refine bodyPost_ret (v := .tuple #[.agg #[.int .u8 2, .int .i64 (x : Int), .string ⟨#[]⟩, .slice none 0 0], .int .i64 (k : Int), .int .i64 0]) (by simp [results, Try.results161, go_sem]) rfl ?_
        rw [HR2.out]
        exact ⟨_, rfl, fun S => leafRep (k := 2) (s := []) (by omega) (by omega) (by omega) (by simp) (by simp) S, two3 _ _⟩
      · have HR2 : Hid (R = .error er) := by rw [HG.out, if_neg he]; rfl
        have g1 : ((er : Int) == 0) = false := by simp; omega
        have g2 : ((er : Int) != 0) = true := by simp; omega
        clear HG he
        go_wp2_with fail
        refine bodyPost_ret (v := .tuple #[.agg #[.int .u8 0, .int .i64 0, .string ⟨#[]⟩, .slice none 0 0], .int .i64 0, .int .i64 (er : Int)]) (by simp [results, Try.results161, go_sem]) rfl ?_
        rw [HR2.out]
        exact ⟨rfl, two3 _ _⟩
    · by_cases k3 : l.getD at_ 0 = 3
      · have HG : Hid (dlf l at_ = if (gb l (at_ + 1) 4096).2.2 = 0 then .ok (.mk 3 0 (gb l (at_ + 1) 4096).1 [], (gb l (at_ + 1) 4096).2.1) else .error (gb l (at_ + 1) 4096).2.2) := by
          show _ = _
          rw [dlf, if_neg k1, if_neg k2, if_pos k3]
        have hle : ∀ x ∈ (gb l (at_ + 1) 4096).1, x < 256 := gus_mem _ l (at_ + 1) 4096 H8.out rfl
        have hl4 : (gb l (at_ + 1) 4096).1.length ≤ l.length := by
          unfold gb
          split
          · simp
          · split
            · simp
            · split
              · simp
              · dsimp only
                simp
                omega
        rw [k3] at c0
        generalize dlf l at_ = R at *
        have HLE := Lib.hid hle
        clear hu k1 k2 hle
        go_enter Try.func161, Try.ntmps161
        go_wp2_with fail
        refine (getblob_bs _ l (at_ + 1) 4096 _ (h0.below (two3 _ _)) hn (by omega) (by omega) (by omega)).mono ?_
        rintro e w1 ⟨v1, rfl, _, hv1, hb1⟩
        generalize gb l (at_ + 1) 4096 = r at *
        obtain ⟨x, k, er⟩ := r
        dsimp only at *
        obtain ⟨⟨A1, cp1, rfl, hcp1, ha1⟩, h81⟩ := hv1
        have kc := run_strOf w1 _ A1 cp1 x ha1 h81
        have hb2 : Below w.heap.size w w1 := nxt (two3 _ _) hb1
        have q1 : w1.heap[w.heap.size]? = some (.cells #[.int .u8 0, .int .i64 0, .string ⟨#[]⟩, .slice none 0 0] 43 (0, 0)) := heap_below (heap_old (heap_new _ _) _) hb1
        have q2 : w1.heap[w.heap.size + 1]? = some (.cells #[.int .u8 3, .int .i64 0, .string ⟨#[]⟩, .slice none 0 0] 43 (0, 0)) := heap_below (heap_new' _ _ _ (by simp)) hb1
        obtain ⟨p0, p1, p2, p3⟩ := box4 q1
        obtain ⟨r0, r1, r2, r3⟩ := box4 q2
        have f0 : w1.frozen? ⟨w.heap.size, 0, none⟩ = false := Lib.frozen_of_heap q1 0
        have f1 : w1.frozen? ⟨w.heap.size, 1, none⟩ = false := Lib.frozen_of_heap q1 1
        have f2 : w1.frozen? ⟨w.heap.size, 2, none⟩ = false := Lib.frozen_of_heap q1 2
        have f3 : w1.frozen? ⟨w.heap.size, 3, none⟩ = false := Lib.frozen_of_heap q1 3
        have f4 : w1.frozen? ⟨w.heap.size + 1, 2, none⟩ = false := Lib.frozen_of_heap q2 2
        clear hb1 ha1 h81
        by_cases he : er = 0
        · subst he
          have HR2 : Hid (R = .ok (.mk 3 0 x [], k)) := by rw [HG.out, if_pos rfl]; rfl
          clear HG
          go_wp2_with fail
          refine bodyPost_ret (v := .tuple #[.agg #[.int .u8 3, .int .i64 0, .string (strOf x), .slice none 0 0], .int .i64 (k : Int), .int .i64 0]) (by simp [results, Try.results161, go_sem, p0, p1, p2, p3]) rfl ?_
          rw [HR2.out]
          exact ⟨_, rfl, fun S => leafRep (k := 3) (s := x) (by omega) (by omega) (by omega) HLE.out (by omega) S, ((((hb2.setCell (by simp) _).setCell (by simp) _).setCell (by simp) _).setCell (by simp) _).setCell (by simp) _⟩
        · have HR2 : Hid (R = .error er) := by rw [HG.out, if_neg he]; rfl
          have g1 : ((er : Int) == 0) = false := by simp; omega
          have g2 : ((er : Int) != 0) = true := by simp; omega
          clear HG he
          go_wp2_with fail
          refine bodyPost_ret (v := .tuple #[.agg #[.int .u8 0, .int .i64 0, .string ⟨#[]⟩, .slice none 0 0], .int .i64 0, .int .i64 (er : Int)]) (by simp [results, Try.results161, go_sem, p0, p1, p2, p3]) rfl ?_
          rw [HR2.out]
          exact ⟨rfl, ((((hb2.setCell (by simp) _).setCell (by simp) _).setCell (by simp) _).setCell (by simp) _).setCell (by simp) _⟩
      · by_cases k5 : l.getD at_ 0 = 5
        · have HG : Hid (dlf l at_ = if (ga l (at_ + 1)).2.2 = 0 then .ok (.mk 5 (ga l (at_ + 1)).1 [] [], (ga l (at_ + 1)).2.1) else .error (ga l (at_ + 1)).2.2) := by
            show _ = _
            rw [dlf, if_neg k1, if_neg k2, if_neg k3, if_pos k5, ga]
            by_cases h1 : (gu l (at_ + 1)).2.2 = 0
            · rw [if_pos h1, if_neg (show ¬ (gu l (at_ + 1)).2.2 ≠ 0 from fun h => h h1)]
              by_cases h2 : un (gu l (at_ + 1)).1 < 0
              · rw [if_pos h2, if_pos h2, if_neg (by simp)]
              · rw [if_neg h2, if_neg h2, if_pos rfl]
            · rw [if_neg h1, if_pos h1, if_neg h1]
          have hle : -9223372036854775808 ≤ (ga l (at_ + 1)).1 ∧ (ga l (at_ + 1)).1 ≤ 9223372036854775807 := by
            have hb := un_bounds _ hu.1
            rw [ga]
            split
            · dsimp only; omega
            · split
              · dsimp only; omega
              · exact hb
          rw [k5] at c0
          generalize dlf l at_ = R at *
          clear hu k1 k2 k3
          go_enter Try.func161, Try.ntmps161
          go_wp2_with fail
          refine (getactor_any _ l (at_ + 1) _ (h0.below (two3 _ _)) hn (by omega)).mono ?_
          rintro e w1 ⟨rfl, rfl⟩
          generalize ga l (at_ + 1) = r at *
          obtain ⟨x, k, er⟩ := r
          dsimp only at *
          by_cases he : er = 0
          · subst he
            have HR2 : Hid (R = .ok (.mk 5 x [] [], k)) := by rw [HG.out, if_pos rfl]; rfl
            clear HG
            go_wp2_with fail
            refine bodyPost_ret (v := .tuple #[.agg #[.int .u8 5, .int .i64 x, .string ⟨#[]⟩, .slice none 0 0], .int .i64 (k : Int), .int .i64 0]) (by simp [results, Try.results161, go_sem]) rfl ?_
            rw [HR2.out]
            exact ⟨_, rfl, fun S => leafRep (k := 5) (s := []) (by omega) hle.1 hle.2 (by simp) (by simp) S, two3 _ _⟩
          · have HR2 : Hid (R = .error er) := by rw [HG.out, if_neg he]; rfl
            have g1 : ((er : Int) == 0) = false := by simp; omega
            have g2 : ((er : Int) != 0) = true := by simp; omega
            clear HG he
            go_wp2_with fail
            refine bodyPost_ret (v := .tuple #[.agg #[.int .u8 0, .int .i64 0, .string ⟨#[]⟩, .slice none 0 0], .int .i64 0, .int .i64 (er : Int)]) (by simp [results, Try.results161, go_sem]) rfl ?_
            rw [HR2.out]
            exact ⟨rfl, two3 _ _⟩
        · have HR2 : Hid (dlf l at_ = .error 10) := by
            show _ = _
            rw [dlf, if_neg k1, if_neg k2, if_neg k3, if_neg k5]
          generalize dlf l at_ = R at *
          generalize l.getD at_ 0 = x at *
          have g1 : ((x : Int) == 1) = false := beq_eq_false_iff_ne.2 (by omega)
          have g2 : ((x : Int) == 2) = false := beq_eq_false_iff_ne.2 (by omega)
          have g3 : ((x : Int) == 3) = false := beq_eq_false_iff_ne.2 (by omega)
          have g5 : ((x : Int) == 5) = false := beq_eq_false_iff_ne.2 (by omega)
          clear hu k1 k2 k3 k5
          go_enter Try.func161, Try.ntmps161
          go_wp2_with fail
          refine bodyPost_ret (v := .tuple #[.agg #[.int .u8 0, .int .i64 0, .string ⟨#[]⟩, .slice none 0 0], .int .i64 0, .int .i64 10]) (by simp [results, Try.results161, go_sem]) rfl ?_
          rw [HR2.out]
          exact ⟨rfl, two3 _ _⟩
end Go.Proofs.Ytjcefnlidophoaa
namespace Go.Proofs.Ytjcefnlidophoaa
open Go.RowKit

theorem val_info : (Try.prog.info? 43).map (fun i => (i.zero, i.size, i.bytes)) = some (some zeroV, 4, 56) := by kernel_rfl

/-- Bytes below block B. -/
def BsB (w : World) (B : Nat) (v : Value) (l : List Nat) : Prop := (∃ A c, v = .slice A l.length c ∧ l.length ≤ c ∧ At w B A (bv l)) ∧ (∀ x ∈ l, x < 256)
theorem BsB.bs {w : World} {B : Nat} {v : Value} {l : List Nat} (h : BsB w B v l) (hB : B ≤ w.heap.size) : Bs w v l := by
  obtain ⟨⟨A, c, e, hc, ha⟩, h8⟩ := h
  exact ⟨⟨A, c, e, hc, ha.more hB⟩, h8⟩
theorem BsB.below {w w' : World} {B : Nat} {v : Value} {l : List Nat} (h : BsB w B v l) (hb : Below B w w') : BsB w' B v l := by
  obtain ⟨⟨A, c, e, hc, ha⟩, h8⟩ := h
  exact ⟨⟨A, c, e, hc, ha.below hb⟩, h8⟩

theorem decL_snoc {f : Nat → Nat → Except Nat (Va × Nat × Nat)} : ∀ (j at_ m : Nat) (ts : List Va) (nx m2 : Nat) (t : Va) (nx' m3 : Nat), decL f j at_ m = .ok (ts, nx, m2) → f nx m2 = .ok (t, nx', m3) → decL f (j + 1) at_ m = .ok (ts ++ [t], nx', m3)
  | 0, at_, m, ts, nx, m2, t, nx', m3, h, hf => by
    simp only [decL, Except.ok.injEq, Prod.mk.injEq] at h
    obtain ⟨rfl, rfl, rfl⟩ := h
    rw [decL, hf]
    simp [decL]
  | j + 1, at_, m, ts, nx, m2, t, nx', m3, h, hf => by
    rw [decL] at h
    cases hv : f at_ m with
    | error e => rw [hv] at h; simp at h
    | ok r =>
      obtain ⟨v, n1, m1⟩ := r
      rw [hv] at h
      dsimp only at h
      cases hr : decL f j n1 m1 with
      | error e => rw [hr] at h; simp at h
      | ok r =>
        obtain ⟨l', n2, m2'⟩ := r
        rw [hr] at h
        simp only [Except.ok.injEq, Prod.mk.injEq] at h
        obtain ⟨rfl, rfl, rfl⟩ := h
        have ih := decL_snoc j n1 m1 l' n2 m2' t nx' m3 hr hf
        rw [decL, hv]
        dsimp only
        rw [ih]
        simp
theorem decL_err {f : Nat → Nat → Except Nat (Va × Nat × Nat)} : ∀ (j at_ m c : Nat) (ts : List Va) (nx m2 e : Nat), decL f j at_ m = .ok (ts, nx, m2) → f nx m2 = .error e → j < c → decL f c at_ m = .error e
  | 0, at_, m, c, ts, nx, m2, e, h, hf, hc => by
    obtain ⟨c, rfl⟩ : ∃ c', c = c' + 1 := ⟨c - 1, by omega⟩
    simp only [decL, Except.ok.injEq, Prod.mk.injEq] at h
    obtain ⟨rfl, rfl, rfl⟩ := h
    rw [decL, hf]
  | j + 1, at_, m, c, ts, nx, m2, e, h, hf, hc => by
    obtain ⟨c, rfl⟩ : ∃ c', c = c' + 1 := ⟨c - 1, by omega⟩
    rw [decL] at h
    cases hv : f at_ m with
    | error e => rw [hv] at h; simp at h
    | ok r =>
      obtain ⟨v, n1, m1⟩ := r
      rw [hv] at h
      dsimp only at h
      cases hr : decL f j n1 m1 with
      | error e => rw [hr] at h; simp at h
      | ok r =>
        obtain ⟨l', n2, m2'⟩ := r
        rw [hr] at h
        simp only [Except.ok.injEq, Prod.mk.injEq] at h
        obtain ⟨rfl, rfl, rfl⟩ := h
        rw [decL, hv]
        dsimp only
        rw [decL_err j n1 m1 c l' n2 m2' e hr hf (by omega)]

/-- The cells cs are the values ts, one behind the other. -/
def Prt (w : World) (S : Nat → Prop) (cs : List Value) (ts : List Va) : Prop := cs.length = ts.length * 4 ∧
  ∀ i t, ts[i]? = some t → ∃ y0 y1 y2 y3, cs[i * 4]? = some y0 ∧ cs[i * 4 + 1]? = some y1 ∧ cs[i * 4 + 2]? = some y2 ∧ cs[i * 4 + 3]? = some y3 ∧ RepS w S (.agg #[y0, y1, y2, y3]) t
theorem Prt.nil (w : World) (S : Nat → Prop) : Prt w S [] [] := ⟨rfl, by simp⟩
theorem Prt.keep {w w' : World} {S S' : Nat → Prop} {cs : List Value} {ts : List Va} (h : Prt w S cs ts) (hk : ∀ p : Addr, S p.block → w'.cell? p = w.cell? p) (hS : ∀ b, S b → S' b) : Prt w' S' cs ts := by
  refine ⟨h.1, fun i t ht => ?_⟩
  obtain ⟨y0, y1, y2, y3, h0, h1, h2, h3, hr⟩ := h.2 i t ht
  exact ⟨y0, y1, y2, y3, h0, h1, h2, h3, (hr.keep hk).wider hS⟩
theorem Prt.snoc {w : World} {S : Nat → Prop} {cs : List Value} {ts : List Va} {y0 y1 y2 y3 : Value} {t : Va} (h : Prt w S cs ts) (hr : RepS w S (.agg #[y0, y1, y2, y3]) t) : Prt w S (cs ++ [y0, y1, y2, y3]) (ts ++ [t]) := by
  have hl := h.1
  refine ⟨by simp; omega, fun i u hu => ?_⟩
  by_cases hi : i < ts.length
  · rw [List.getElem?_append_left hi] at hu
    obtain ⟨z0, z1, z2, z3, h0, h1, h2, h3, hr⟩ := h.2 i u hu
    refine ⟨z0, z1, z2, z3, ?_, ?_, ?_, ?_, hr⟩
    · rw [List.getElem?_append_left (by omega)]; exact h0
    · rw [List.getElem?_append_left (by omega)]; exact h1
    · rw [List.getElem?_append_left (by omega)]; exact h2
    · rw [List.getElem?_append_left (by omega)]; exact h3
  · have hi2 : i = ts.length := by
      have := (List.getElem?_eq_some_iff.1 hu).1
      simp at this
      omega
    subst hi2
    rw [List.getElem?_append_right (Nat.le_refl _)] at hu
    simp at hu
    subst hu
    refine ⟨y0, y1, y2, y3, ?_, ?_, ?_, ?_, hr⟩
    · rw [List.getElem?_append_right (by omega), show ts.length * 4 - cs.length = 0 by omega]; rfl
    · rw [List.getElem?_append_right (by omega), show ts.length * 4 + 1 - cs.length = 1 by omega]; rfl
    · rw [List.getElem?_append_right (by omega), show ts.length * 4 + 2 - cs.length = 2 by omega]; rfl
    · rw [List.getElem?_append_right (by omega), show ts.length * 4 + 3 - cs.length = 3 by omega]; rfl
/-- A row of the call's own that holds them is a list of values. -/
theorem Prt.reps {w : World} {S S' : Nat → Prop} {base : Nat} {A : Option Addr} {n c : Nat} {cs : List Value} {ts : List Va} (h : Prt w S cs ts) (ho : w.ownsRow base 43 4 (.slice A n c) n cs) (hn : n = ts.length)
    (hS : ∀ b, S b → S' b) (hg : ∀ g, (Value.slice A n c).ownBlock = some g → S' g) : RepsS w S' A ts := by
  subst hn
  have hA := At.of_own ho
  have hX : ∀ i : Nat, ∃ x : Value, ∀ t, ts[i]? = some t → ∃ y0 y1 y2 y3, x = .agg #[y0, y1, y2, y3] ∧ cs[i * 4]? = some y0 ∧ cs[i * 4 + 1]? = some y1 ∧ cs[i * 4 + 2]? = some y2 ∧ cs[i * 4 + 3]? = some y3 ∧ RepS w S' x t := by
    intro i
    cases hi : ts[i]? with
    | none => exact ⟨.nilIface, by simp⟩
    | some t =>
      obtain ⟨y0, y1, y2, y3, h0, h1, h2, h3, hr⟩ := h.2 i t hi
      refine ⟨.agg #[y0, y1, y2, y3], fun t' ht' => ?_⟩
      obtain rfl := Option.some.inj ht'
      exact ⟨y0, y1, y2, y3, rfl, h0, h1, h2, h3, hr.wider hS⟩
  refine ⟨fun i => (hX i).choose, fun i hi => ?_, fun i t ht => ?_⟩
  · obtain ⟨y0, y1, y2, y3, e, h0, h1, h2, h3, _⟩ := (hX i).choose_spec ts[i] (List.getElem?_eq_getElem hi)
    have hne : cs ≠ [] := by
      intro h0
      have := h.1
      rw [h0, List.length_nil] at this
      omega
    obtain ⟨b, o, hb, _, hc⟩ := hA hne
    refine ⟨b, o, y0, y1, y2, y3, hb, ?_, e, ?_⟩
    · rcases ho.2 with ⟨e1, e2⟩ | ⟨g, cap, cur, e1, _⟩
      · omega
      · injection e1 with e1 _ _
        rw [hb] at e1
        have e2 : b = g := by
          have := Option.some.inj e1
          injection this
        subst e2
        exact hg b (by rw [hb]; injection e1 with e1; injection e1 with _ e4 _; subst e4; rfl)
    · intro j v hj
      match j, hj with
      | 0, hj => simp at hj; subst hj; exact hc _ _ h0
      | 1, hj => simp at hj; subst hj; rw [Nat.add_assoc]; exact hc _ _ h1
      | 2, hj => simp at hj; subst hj; rw [Nat.add_assoc]; exact hc _ _ h2
      | 3, hj => simp at hj; subst hj; rw [Nat.add_assoc]; exact hc _ _ h3
      | j + 4, hj => simp at hj
  · obtain ⟨_, _, _, _, _, _, _, _, _, hr⟩ := (hX i).choose_spec t ht
    exact hr
end Go.Proofs.Ytjcefnlidophoaa
namespace Go.Proofs.Ytjcefnlidophoaa
open Go.RowKit

/-- Four cells stored, one behind the other. -/
def W4 (w : World) (g : Nat) (y0 y1 y2 y3 : Value) : World := (((w.setCell ⟨g, 0, none⟩ y0).setCell ⟨g, 1, none⟩ y1).setCell ⟨g, 2, none⟩ y2).setCell ⟨g, 3, none⟩ y3
section
variable {w w' a : World} {g k b : Nat} {y0 y1 y2 y3 : Value}
theorem W4.size : (W4 w g y0 y1 y2 y3).heap.size = w.heap.size := by simp [W4, World.setCell]
theorem W4.block (hk : k ≠ g) : (W4 w g y0 y1 y2 y3).heap[k]? = w.heap[k]? := by
  unfold W4
  rw [Below.heap_setCell _ _ _ _ hk, Below.heap_setCell _ _ _ _ hk, Below.heap_setCell _ _ _ _ hk, Below.heap_setCell _ _ _ _ hk]
theorem W4.heap {o : Obj} (h : w.heap[k]? = some o) (hk : k ≠ g) : (W4 w g y0 y1 y2 y3).heap[k]? = some o := (W4.block hk).trans h
theorem W4.kp (h : Kp b a w) (hg : a.heap.size ≤ g) : Kp b a (W4 w g y0 y1 y2 y3) := (((h.setNew hg y0).setNew hg y1).setNew hg y2).setNew hg y3
theorem cell_heap {p : Addr} (h : w'.heap[p.block]? = w.heap[p.block]?) : w'.cell? p = w.cell? p := by
  unfold World.cell?
  rw [h]
theorem W4.rep {S : Nat → Prop} {x : Value} {t : Va} (h : RepS w S x t) (hS : ∀ b, S b → b ≠ g) : RepS (W4 w g y0 y1 y2 y3) S x t := h.keep fun _ hp => cell_heap (W4.block (hS _ hp))
theorem W4.grown (w : World) (g : Nat) (y0 y1 y2 y3 : Value) : w.grownBy (W4 w g y0 y1 y2 y3) (some g) :=
  ⟨rfl, rfl, rfl, Nat.le_of_eq W4.size.symm, fun k _ hk => W4.block (fun e => hk (by rw [e]))⟩
end
theorem own_lt {w : World} {base n : Nat} {v : Value} {cs : List Value} (h : w.ownsRow base 43 4 v n cs) {g : Nat} (hg : v.ownBlock = some g) : base ≤ g ∧ g < w.heap.size := World.ownsRow.lt h g hg

/-- Memory at the loop's head: w is the world at the call, N the result's block, N + 1 the tuple's. -/
structure GS (w wr : World) (bl m2 j : Nat) (lv : Value) (ts : List Va) (cs : List Value) : Prop where
  cnt : Cnt wr bl ((m2 : Nat) : Int)
  kp : Kp bl w wr
  res : wr.heap[w.heap.size]? = some (.cells #[.int .u8 0, .int .i64 0, .string ⟨#[]⟩, .slice none 0 0] 43 (0, 0))
  box : wr.heap[w.heap.size + 1]? = some (.cells #[.int .u8 4, .int .i64 0, .string ⟨#[]⟩, lv] 43 (0, 0))
  own : wr.ownsRow (w.heap.size + 2) 43 4 lv j cs
  prt : Prt wr (fun b => w.heap.size + 2 ≤ b ∧ b < wr.heap.size ∧ some b ≠ lv.ownBlock) cs ts
  len : ts.length = j
theorem GS.own5 {w wr w3 : World} {bl m2 j : Nat} {lv : Value} {ts : List Va} {cs : List Value} {z : Obj} {y0 y1 y2 y3 : Value} {o : Obj} (h : GS w wr bl m2 j lv ts cs) (hbl : bl < w.heap.size) (hk : Kp bl (wr.alloc z) w3) :
    ((W4 w3 wr.heap.size y0 y1 y2 y3).alloc o).ownsRow (w.heap.size + 2) 43 4 lv j cs := by
  have h1 : (wr.alloc z).ownsRow (w.heap.size + 2) 43 4 lv j cs := h.own.alloc _
  have h2 : w3.ownsRow (w.heap.size + 2) 43 4 lv j cs := World.ownsRow.kept h1 hk (.inr fun e => by have := (own_lt h1 e).1; omega)
  have h3 := World.ownsRow.kept h2 (W4.grown w3 wr.heap.size y0 y1 y2 y3) (.inr fun e => by have := (own_lt h.own e).2; omega)
  exact h3.alloc _
theorem GS.box5 {w wr w3 : World} {bl m2 j : Nat} {lv : Value} {ts : List Va} {cs : List Value} {z : Obj} {y0 y1 y2 y3 : Value} {o : Obj} (h : GS w wr bl m2 j lv ts cs) (hbl : bl < w.heap.size) (hk : Kp bl (wr.alloc z) w3) :
    ((W4 w3 wr.heap.size y0 y1 y2 y3).alloc o).heap[w.heap.size + 1]? = some (.cells #[.int .u8 4, .int .i64 0, .string ⟨#[]⟩, lv] 43 (0, 0)) :=
  heap_old (W4.heap (hk.heap (heap_old h.box _) (by omega)) (by have := lt_heap h.box; omega)) _
theorem GS.step {w wr w3 w6 : World} {bl m2 m3 j : Nat} {lv lv' : Value} {ts : List Va} {cs : List Value} {z : Obj} {t : Va} {y0 y1 y2 y3 : Value} {T : TypeId} (h : GS w wr bl m2 j lv ts cs) (hbl : bl < w.heap.size) (hk : Kp bl (wr.alloc z) w3)
    (hc3 : Cnt w3 bl ((m3 : Nat) : Int)) (hx : RepS w3 (fun b => (wr.alloc z).heap.size ≤ b ∧ b < w3.heap.size) (.agg #[y0, y1, y2, y3]) t)
    (ho : w6.ownsRow (w.heap.size + 2) 43 4 lv' (j + 1) (cs ++ [y0, y1, y2, y3]))
    (hg : ((W4 w3 wr.heap.size y0 y1 y2 y3).alloc (.cells #[y0, y1, y2, y3] T)).grownBy w6 lv.ownBlock) (hor : lv'.ownBlock = lv.ownBlock ∨ lv'.ownBlock = some ((W4 w3 wr.heap.size y0 y1 y2 y3).alloc (.cells #[y0, y1, y2, y3] T)).heap.size) :
    GS w (w6.setCell ⟨w.heap.size + 1, 3, none⟩ lv') bl m3 (j + 1) lv' (ts ++ [t]) (cs ++ [y0, y1, y2, y3]) := by
  have hN := lt_heap h.res
  have hN1 := lt_heap h.box
  have hsz : (wr.alloc z).heap.size = wr.heap.size + 1 := by simp
  have h3 := hk.size
  have h5 : ((W4 w3 wr.heap.size y0 y1 y2 y3).alloc (.cells #[y0, y1, y2, y3] T)).heap.size = w3.heap.size + 1 := by simp [W4.size]
  have h6 := hg.size
  have hlv : ∀ g, lv.ownBlock = some g → w.heap.size + 2 ≤ g ∧ g < wr.heap.size := fun g e => own_lt h.own e
  have hkeep : ∀ k, k < w3.heap.size → k ≠ wr.heap.size → some k ≠ lv.ownBlock → k ≠ w.heap.size + 1 → (w6.setCell ⟨w.heap.size + 1, 3, none⟩ lv').heap[k]? = w3.heap[k]? := by
    intro k h1 h2 h4 h7
    rw [Below.heap_setCell _ _ _ _ h7, hg.block k (by omega) h4]
    exact (Below.heap_alloc _ _ _ (by rw [W4.size]; exact h1)).trans (W4.block h2)
  have hne : ∀ k, k < w.heap.size + 2 → some k ≠ lv.ownBlock := fun k hk e => by have := hlv k e.symm; omega
  have hbox6 : w6.heap[w.heap.size + 1]? = some (.cells #[.int .u8 4, .int .i64 0, .string ⟨#[]⟩, lv] 43 (0, 0)) := by
    have h1 := h.box5 (y0 := y0) (y1 := y1) (y2 := y2) (y3 := y3) (o := .cells #[y0, y1, y2, y3] T) hbl hk
    exact (hg.block _ (by omega) (hne _ (by omega))).trans h1
  refine ⟨?_, ?_, ?_, ?_, ?_, ?_, by simp [h.len]⟩
  · exact (hkeep bl (lt_heap hc3) (by omega) (hne _ (by omega)) (by omega)).trans hc3
  · refine ⟨?_, ?_, ?_, ?_, fun k h1 h2 => ?_⟩
    · exact (hg.os.trans (show _ = w3.os from rfl)).trans (hk.os.trans h.kp.os)
    · exact (hg.tape.trans (show _ = w3.tape from rfl)).trans (hk.tape.trans h.kp.tape)
    · exact (hg.output.trans (show _ = w3.output from rfl)).trans (hk.output.trans h.kp.output)
    · simp [World.setCell]; omega
    · rw [hkeep k (by omega) (by omega) (hne k (by omega)) (by omega), hk.block k (by omega) h2]
      exact (Below.heap_alloc _ _ _ (by omega)).trans (h.kp.block k h1 h2)
  · exact (hkeep _ (by omega) (by omega) (hne _ (by omega)) (by omega)).trans (hk.heap (heap_old h.res _) (by omega))
  · simp only [World.setCell, Array.getElem?_modify, hbox6]
    simp
  · exact World.ownsRow.kept ho (row := some (w.heap.size + 1)) ⟨rfl, rfl, rfl, by simp [World.setCell], fun k _ hk => Below.heap_setCell _ _ _ _ (fun e => hk (by rw [e]))⟩ (.inr fun e => by have := (own_lt ho e).1; omega)
  · have hlv' : ∀ b, b < wr.heap.size ∨ ((wr.alloc z).heap.size ≤ b ∧ b < w3.heap.size) → some b ≠ lv.ownBlock → some b ≠ lv'.ownBlock := by
      intro b hb h1
      rcases hor with e | e
      · rw [e]; exact h1
      · rw [e]
        intro h2
        have := Option.some.inj h2
        omega
    refine Prt.snoc (h.prt.keep (S' := fun b => w.heap.size + 2 ≤ b ∧ b < (w6.setCell ⟨w.heap.size + 1, 3, none⟩ lv').heap.size ∧ some b ≠ lv'.ownBlock) ?_ ?_) ((hx.keep ?_).wider ?_)
    · intro p hp
      refine cell_heap ?_
      rw [hkeep _ (by omega) (by omega) hp.2.2 (by omega), hk.block _ (by omega) (fun e => by have := Option.some.inj e; omega)]
      exact Below.heap_alloc _ _ _ hp.2.1
    · intro b hb
      exact ⟨hb.1, by simp [World.setCell]; omega, hlv' b (.inl hb.2.1) hb.2.2⟩
    · intro p hp
      refine cell_heap (hkeep _ hp.2 (by omega) (fun e => by have := hlv _ e.symm; omega) (by omega))
    · intro b hb
      exact ⟨by omega, by simp [World.setCell]; omega, hlv' b (.inr hb) (fun e => by have := hlv b e.symm; omega)⟩

theorem GS.box6 {w wr w3 w6 : World} {bl m2 j : Nat} {lv : Value} {ts : List Va} {cs : List Value} {z o : Obj} {y0 y1 y2 y3 : Value} (h : GS w wr bl m2 j lv ts cs) (hbl : bl < w.heap.size) (hk : Kp bl (wr.alloc z) w3)
    (hg : ((W4 w3 wr.heap.size y0 y1 y2 y3).alloc o).grownBy w6 lv.ownBlock) : w6.heap[w.heap.size + 1]? = some (.cells #[.int .u8 4, .int .i64 0, .string ⟨#[]⟩, lv] 43 (0, 0)) := by
  have h1 := h.box5 (y0 := y0) (y1 := y1) (y2 := y2) (y3 := y3) (o := o) hbl hk
  refine (hg.block _ (lt_heap h1) (fun e => ?_)).trans h1
  have := own_lt h.own e.symm
  omega
theorem GS.start {w : World} {bl m1 : Nat} (w0 : World) (hc : Cnt w0 bl ((m1 : Nat) : Int)) (hk : Kp bl w w0) (hs : w0.heap.size = w.heap.size) :
    GS w ((w0.alloc (.cells #[.int .u8 0, .int .i64 0, .string ⟨#[]⟩, .slice none 0 0] 43)).alloc (.cells #[.int .u8 4, .int .i64 0, .string ⟨#[]⟩, .slice none 0 0] 43)) bl m1 0 (.slice none 0 0) [] [] := by
  refine ⟨heap_old (heap_old hc _) _, (hk.alloc _).alloc _, heap_old (heap_new' _ _ _ hs.symm) _, heap_new' _ _ _ (by simp [hs]), World.ownsRow_nil _ _ _ _, Prt.nil _ _, rfl⟩
theorem ownsRow_form {w : World} {base n : Nat} {v : Value} {cs : List Value} (h : w.ownsRow base 43 4 v n cs) : ∃ A c, v = .slice A n c ∧ n ≤ c ∧ c ≤ maxLen := by
  rcases h.2 with ⟨h1, h2⟩ | ⟨g, cap, cur, h1, _, _, h2, h3, _⟩
  · subst h1; subst h2
    exact ⟨none, 0, rfl, Nat.le_refl _, by unfold maxLen; omega⟩
  · exact ⟨_, _, h1, h2, h3⟩
/-- The tuple at the loop's end. -/
theorem GS.done {w wr : World} {bl m2 j cp : Nat} {A : Option Addr} {ts : List Va} {cs : List Value} {y0 y1 y2 y3 : Value} (h : GS w wr bl m2 j (.slice A j cp) ts cs) (hc : j ≤ cp) (hcm : cp ≤ maxLen) :
    RepS (W4 wr w.heap.size y0 y1 y2 y3) (fun b => w.heap.size ≤ b ∧ b < (W4 wr w.heap.size y0 y1 y2 y3).heap.size) (.agg #[.int .u8 4, .int .i64 0, .string ⟨#[]⟩, .slice A j cp]) (.mk 4 0 [] ts) := by
  have hlen := h.len
  subst hlen
  have hr : RepsS wr (fun b => w.heap.size + 2 ≤ b ∧ b < wr.heap.size) A ts := h.prt.reps h.own rfl (fun b hb => ⟨hb.1, hb.2.1⟩) (fun g hg => own_lt h.own hg)
  have h2 := hr.mk (k := 4) (n := 0) (s := []) (c := cp) (by omega) (by omega) (by omega) (by simp) (by simp) hc (by unfold maxLen at hcm; omega)
  exact (W4.rep h2 (fun b hb => by have := hb.1; omega)).wider (fun b hb => ⟨by have := hb.1; omega, by rw [W4.size]; exact hb.2⟩)
theorem At.made' (w : World) (arr : Array Value) (t : TypeId) (g : Nat) (hg : g = w.heap.size) : At (w.alloc (.cells arr t)) (w.heap.size + 1) (some ⟨g, 0, none⟩) arr.toList := by
  subst hg
  exact At.made w arr t
/-! No error is none. -/
theorem dlf_err (l : List Nat) (at_ e : Nat) (h : dlf l at_ = .error e) : e ≠ 0 := by
  unfold dlf at h
  split at h
  · split at h
    · cases h
    · rename_i h1
      injection h with h
      omega
  · split at h
    · split at h
      · injection h with h; omega
      · split at h
        · injection h with h; omega
        · cases h
    · split at h
      · split at h
        · cases h
        · rename_i h1
          injection h with h
          omega
      · split at h
        · split at h
          · split at h
            · injection h with h; omega
            · cases h
          · rename_i h1
            injection h with h
            omega
        · injection h with h; omega
theorem decL_ne {f : Nat → Nat → Except Nat (Va × Nat × Nat)} (hf : ∀ at_ m e, f at_ m = .error e → e ≠ 0) : ∀ (c at_ m e : Nat), decL f c at_ m = .error e → e ≠ 0
  | 0, _, _, _, h => by simp [decL] at h
  | c + 1, at_, m, e, h => by
    rw [decL] at h
    cases hv : f at_ m with
    | error e' =>
      rw [hv] at h
      injection h with h
      subst h
      exact hf at_ m e' hv
    | ok r =>
      obtain ⟨v, n1, m1⟩ := r
      rw [hv] at h
      dsimp only at h
      cases hr : decL f c n1 m1 with
      | error e' =>
        rw [hr] at h
        injection h with h
        subst h
        exact decL_ne hf c n1 m1 e' hr
      | ok r => rw [hr] at h; simp at h
theorem dec_ne (l : List Nat) : ∀ (L at_ m e : Nat), dec l L at_ m = .error e → e ≠ 0
  | 0, _, _, _, h => by simp [dec] at h; omega
  | L + 1, _, 0, _, h => by simp [dec] at h; omega
  | L + 1, at_, m + 1, e, h => by
    unfold dec at h
    split at h
    · injection h with h; omega
    · split at h
      · split at h
        · injection h with h; omega
        · split at h
          · injection h with h; omega
          · cases hr : decL (dec l L) (gu l (at_ + 1)).1 (gu l (at_ + 1)).2.1 m with
            | error e' =>
              rw [hr] at h
              injection h with h
              subst h
              exact decL_ne (dec_ne l L) _ _ _ e' hr
            | ok r => rw [hr] at h; simp at h
      · cases hr : dlf l at_ with
        | error e' =>
          rw [hr] at h
          injection h with h
          subst h
          exact dlf_err l at_ e' hr
        | ok r => rw [hr] at h; simp at h
end Go.Proofs.Ytjcefnlidophoaa
namespace Go.Proofs.Ytjcefnlidophoaa
open Go.RowKit

def getF (bl bb bg : Nat) : Value := .func (.func 160) #[] #[.pointer (some ⟨bl, 0, none⟩), .pointer (some ⟨bb, 0, none⟩), .pointer (some ⟨bg, 0, none⟩)]
def OutG (bl : Nat) (r : Except Nat (Va × Nat × Nat)) (w : World) (e : Ending) (w' : World) : Prop := match r with
  | .error er => ∃ z : Int, e = .returned (.tuple #[zeroV, .int .i64 0, .int .i64 ((er : Nat) : Int)]) ∧ Cnt w' bl z ∧ Kp bl w w'
  | .ok (t, nx, m') => ∃ x, e = .returned (.tuple #[x, .int .i64 ((nx : Nat) : Int), .int .i64 0]) ∧ RepS w' (fun b => w.heap.size ≤ b ∧ b < w'.heap.size) x t ∧ Cnt w' bl ((m' : Nat) : Int) ∧ Kp bl w w'

set_option maxRecDepth 100000 in
set_option maxHeartbeats 1600000 in
theorem get1_any : ∀ (L : Nat) (at_ m : Nat) (l : List Nat) (vb : Value) (lev : Int) (w : World) (B bl bb bg : Nat), lev + L = 17 → L ≤ 16 → m ≤ 256 → at_ ≤ l.length → l.length ≤ 1099511627776 → BsB w B vb l → B ≤ bl → B ≤ w.heap.size → bb ≠ bl → bg ≠ bl →
    Cnt w bl m → w.heap[bb]? = some (.cells #[vb] 27 (0, 0)) → Fun1 w bg 198 (getF bl bb bg) →
    Calls Try.prog 160 #[.int .i64 (at_ : Int), .int .i64 lev, .pointer (some ⟨bl, 0, none⟩), .pointer (some ⟨bb, 0, none⟩), .pointer (some ⟨bg, 0, none⟩)] w (OutG bl (dec l L at_ m) w) := by
  intro L
  induction L with
  | zero =>
    intro at_ m l vb lev w B bl bb bg hlev _ hm hat hn hbs hBl hBw hnb hng hc hvb hf
    have HK : Hid (dec l 0 at_ m = .error 13) := by cases m <;> rfl
    have c1 := hc.cell
    have c2 := hc.free
    have hc2 := hc.set ((m : Int) - 1)
    have c3 := hc2.cell
    have hlt := lt_heap hc
    have hlev' : (16 : Int) < lev := by omega
    clear hlev
    go_enter Try.func160, Try.ntmps160
    go_wp2_with fail
    all_goals
      refine bodyPost_ret (v := .tuple #[zeroV, .int .i64 0, .int .i64 13]) (by simp [results, Try.results160, go_sem, zeroV]) rfl ?_
      rw [HK.out]
      exact ⟨_, rfl, heap_old hc2 _, ((Kp.refl _ _).set rfl _).alloc _⟩
  | succ L ih =>
    intro at_ m l vb lev w B bl bb bg hlev hL hm hat hn hbs hBl hBw hnb hng hc hvb hf
    have c1 := hc.cell
    have c2 := hc.free
    have hc2 := hc.set ((m : Int) - 1)
    have c3 := hc2.cell
    have hlt := lt_heap hc
    by_cases hm0 : m = 0
    · subst hm0
      have HK : Hid (dec l (L + 1) at_ 0 = .error 13) := rfl
      go_enter Try.func160, Try.ntmps160
      go_wp2_with fail
      all_goals
        refine bodyPost_ret (v := .tuple #[zeroV, .int .i64 0, .int .i64 13]) (by simp [results, Try.results160, go_sem, zeroV]) rfl ?_
        rw [HK.out]
        exact ⟨_, rfl, heap_old hc2 _, ((Kp.refl _ _).set rfl _).alloc _⟩
    · obtain ⟨m1, rfl⟩ : ∃ m1, m = m1 + 1 := ⟨m - 1, by omega⟩
      have em : ((m1 + 1 : Nat) : Int) - 1 = (m1 : Int) := by omega
      have hc0 : Cnt (w.setCell ⟨bl, 0, none⟩ (.int .i64 (m1 : Int))) bl (m1 : Int) := by rw [← em]; exact hc2
      have EM := Lib.hid em
      clear em
      have hltb := lt_heap hvb
      have b1 : w.cell? ⟨bb, 0, none⟩ = some vb := cell_of_one hvb
      have b2 : (w.setCell ⟨bl, 0, none⟩ (.int .i64 (m1 : Int))).cell? ⟨bb, 0, none⟩ = some vb := cell_of_one ((Below.heap_setCell _ _ _ _ hnb).trans hvb)
      have hk0 : Kp bl w (w.setCell ⟨bl, 0, none⟩ (.int .i64 (m1 : Int))) := (Kp.refl _ _).set rfl _
      obtain ⟨⟨A, c, rfl, hcc, ha⟩, h8⟩ := id hbs
      have H8 := Lib.hid h8
      clear h8
      by_cases hend : at_ = l.length
      · have HK : Hid (dec l (L + 1) at_ (m1 + 1) = .error 11) := by
          show _ = _
          rw [dec, if_pos hend]
        have g1 : ((at_ : Int) == (l.length : Int)) = true := by rw [hend]; simp
        clear hend
        go_enter Try.func160, Try.ntmps160
        go_wp2_with fail
        refine bodyPost_ret (v := .tuple #[zeroV, .int .i64 0, .int .i64 11]) (by simp [results, Try.results160, go_sem, zeroV]) rfl ?_
        rw [HK.out]
        exact ⟨_, rfl, heap_old hc0 _, hk0.alloc _⟩
      · have hat' : at_ < l.length := by omega
        have g1 : ((at_ : Int) == (l.length : Int)) = false := beq_eq_false_iff_ne.2 (by omega)
        obtain ⟨b, o, rfl, hb, hcell⟩ := ha.byte (by intro h0; subst h0; simp at hat')
        have hbs2 : b < w.heap.size := by omega
        have a0 := hcell at_ hat'
        have a1 : (w.setCell ⟨bl, 0, none⟩ (.int .i64 (m1 : Int))).cell? ⟨b, o + at_, none⟩ = some (.int .u8 ((l.getD at_ 0 : Nat) : Int)) := hk0.cell a0 (by show b ≠ bl; omega)
        have hbW : Below B w ((w.setCell ⟨bl, 0, none⟩ (.int .i64 (m1 : Int))).alloc (.cells #[.int .u8 0, .int .i64 0, .string ⟨#[]⟩, .slice none 0 0] 43)) := (hk0.alloc _).below hBl hBw
        clear hcell
        obtain ⟨x, hx⟩ : ∃ x, l.getD at_ 0 = x := ⟨_, rfl⟩
        rw [hx] at a0 a1
        have HX := Lib.hid hx
        clear hx
        by_cases h4 : x = 4
        · have HK : Hid (dec l (L + 1) at_ (m1 + 1) = if (gp l (at_ + 1)).2.2 ≠ 0 then .error (gp l (at_ + 1)).2.2 else match decL (dec l L) (gp l (at_ + 1)).1 (gp l (at_ + 1)).2.1 m1 with | .error e => .error e | .ok (ts, nx, m') => .ok (.mk 4 0 [] ts, nx, m')) := by
            show _ = _
            rw [dec, if_neg hend, if_pos (by rw [HX.out]; exact h4)]
            unfold gp
            by_cases u1 : (gu l (at_ + 1)).2.2 = 0
            · have u1' : ¬ (gu l (at_ + 1)).2.2 ≠ 0 := fun h => h u1
              rw [if_neg u1', if_neg u1']
              by_cases u2 : 256 < (gu l (at_ + 1)).1
              · rw [if_pos u2, if_pos u2, if_pos (by simp)]
              · rw [if_neg u2, if_neg u2, if_neg (by simp)]
                cases decL (dec l L) (gu l (at_ + 1)).1 (gu l (at_ + 1)).2.1 m1 <;> rfl
            · rw [if_pos u1, if_pos u1, if_pos u1]
          have HB : Hid ((gp l (at_ + 1)).2.2 = 0 → (gp l (at_ + 1)).1 ≤ 256 ∧ (gp l (at_ + 1)).2.1 ≤ l.length) := by
            intro h
            have hb := gu_bounds l (at_ + 1) (by omega)
            unfold gp at h ⊢
            split at h
            · rename_i h1; exact absurd h h1
            · rename_i h1
              rw [if_neg h1]
              split at h
              · simp at h
              · rename_i h2
                rw [if_neg h2]
                exact ⟨by dsimp only; omega, (hb.2.2 (by simpa using h1)).2⟩
          have g4 : ((x : Int) == 4) = true := by rw [h4]; rfl
          have g5 : ((x : Int) != 4) = false := by rw [h4]; rfl
          clear hend h4
          go_enter Try.func160, Try.ntmps160
          go_wp2_with fail
          refine (getparts_any _ l (at_ + 1) _ ((hbs.below hbW).bs ?ca) hn (by omega)).mono ?_
          case ca => exact Nat.le_trans hBw (by have := (hk0.alloc (.cells #[.int .u8 0, .int .i64 0, .string ⟨#[]⟩, .slice none 0 0] 43)).size; exact this)
          rintro e w1 ⟨rfl, rfl⟩
          generalize gp l (at_ + 1) = r at *
          obtain ⟨c0, nx0, er⟩ := r
          dsimp only at *
          by_cases he : er = 0
          · subst he
            obtain ⟨hc0', hnx0⟩ := HB.out rfl
            have HK2 : Hid (dec l (L + 1) at_ (m1 + 1) = match decL (dec l L) c0 nx0 m1 with | .error e => .error e | .ok (ts, nx, m') => .ok (.mk 4 0 [] ts, nx, m')) := by
              show _ = _
              rw [HK.out, if_neg (by simp)]
            clear HK HB
            rw [show (((0 : Nat)) : Int) = 0 from rfl]
            go_wp2_with fail
            obtain ⟨i0, hi0, hz0, hz1, hz2⟩ := info_parts val_info
            go_loopw [11, 12, 57] (fun nxv ev i wr => ∃ (j nx m2 : Nat) (ts : List Va) (cs : List Value) (A' : Option Addr) (cp : Nat), j ≤ c0 ∧ i = .int .i64 (j : Int) ∧ nxv = .int .i64 (nx : Int) ∧ ev = .int .i64 0 ∧ Hid (decL (dec l L) j nx0 m1 = .ok (ts, nx, m2)) ∧ nx ≤ l.length ∧ m2 ≤ 256 ∧ Hid (j ≤ cp ∧ cp ≤ maxLen) ∧ GS w wr bl m2 j (.slice A' j cp) ts cs) (fun _ _ i _ => c0 - (intOf i).toNat)
            case atStart => exact ⟨0, nx0, m1, [], [], none, 0, Nat.zero_le _, rfl, rfl, rfl, rfl, hnx0, by omega, ⟨Nat.le_refl _, by unfold maxLen; omega⟩, GS.start _ hc0 hk0 (by simp [World.setCell])⟩
            case round =>
              obtain ⟨j, nx, m2, ts, cs, A', cp, hj, rfl, rfl, rfl, HF, hnx, hm2, HCP, hgs⟩ := hrel
              have hN1 := lt_heap hgs.box
              have hbel : Below B w wr := hgs.kp.below hBl hBw
              have ne1 : ¬ w.heap.size = wr.heap.size := by omega
              have ne2 : ¬ wr.heap.size = w.heap.size := by omega
              have ne3 : ¬ w.heap.size + 1 = wr.heap.size := by omega
              have ne4 : ¬ wr.heap.size = w.heap.size + 1 := by omega
              by_cases hlt2 : j < c0
              · have hfr : Fun1 wr bg 198 (getF bl bb bg) := hgs.kp.heap hf hng
                have hfc : wr.cell? ⟨bg, 0, none⟩ = some (getF bl bb bg) := hfr.cell
                unfold getF at hfc
                have hltf := lt_heap hfr
                go_wp2_with fail
                refine (ih nx m2 l _ (lev + 1) _ B bl bb bg (by omega) (by omega) hm2 hnx hn ((hbs.below hbel).below ((Below.refl _ _).alloc (by omega) _)) hBl (by simp; omega) hnb hng (heap_old hgs.cnt _) (heap_old (hgs.kp.heap hvb hnb) _) (heap_old hfr _)).mono ?_
                intro e w3 hpost
                have hlf : ∃ r, dec l L nx m2 = r := ⟨_, rfl⟩
                obtain ⟨r, hr⟩ := hlf
                rw [hr] at hpost
                cases r with
                | error er =>
                  obtain ⟨z, rfl, hc3, hk3⟩ := hpost
                  have hk4 : Kp bl w w3 := (hgs.kp.alloc _).trans hk3
                  have q1 : w3.heap[w.heap.size]? = some (.cells #[.int .u8 0, .int .i64 0, .string ⟨#[]⟩, .slice none 0 0] 43 (0, 0)) := hk3.heap (heap_old hgs.res _) (by omega)
                  have q4 : w3.heap[wr.heap.size]? = some (.cells #[.int .u8 0, .int .i64 0, .string ⟨#[]⟩, .slice none 0 0] 43 (0, 0)) := hk3.heap (heap_new _ _) (by omega)
                  obtain ⟨s0, s1, s2, s3⟩ := box4 q4
                  have e0 : w3.frozen? ⟨wr.heap.size, 0, none⟩ = false := Lib.frozen_of_heap q4 0
                  have e1 : w3.frozen? ⟨wr.heap.size, 1, none⟩ = false := Lib.frozen_of_heap q4 1
                  have e2 : w3.frozen? ⟨wr.heap.size, 2, none⟩ = false := Lib.frozen_of_heap q4 2
                  have e3 : w3.frozen? ⟨wr.heap.size, 3, none⟩ = false := Lib.frozen_of_heap q4 3
                  obtain ⟨p0, p1, p2, p3⟩ := box4 q1
                  have f0 : w3.frozen? ⟨w.heap.size, 0, none⟩ = false := Lib.frozen_of_heap q1 0
                  have f1 : w3.frozen? ⟨w.heap.size, 1, none⟩ = false := Lib.frozen_of_heap q1 1
                  have f2 : w3.frozen? ⟨w.heap.size, 2, none⟩ = false := Lib.frozen_of_heap q1 2
                  have f3 : w3.frozen? ⟨w.heap.size, 3, none⟩ = false := Lib.frozen_of_heap q1 3
                  have hne := dec_ne l L nx m2 er hr
                  have g8 : ((er : Int) == 0) = false := beq_eq_false_iff_ne.2 (by omega)
                  have g9 : ((er : Int) != 0) = true := bne_iff_ne.2 (by omega)
                  have HE := Lib.hid (decL_err j nx0 m1 c0 ts nx m2 er HF.out hr hlt2)
                  have HR := Lib.hid hr
                  have hltw : ¬ bl = wr.heap.size := by omega
                  clear hr hk3 hne hfc
                  unfold zeroV
                  go_wp2_with fail
                  refine bodyPost_ret (v := .tuple #[zeroV, .int .i64 0, .int .i64 (er : Int)]) (by simp [results, Try.results160, go_sem, zeroV, p0, p1, p2, p3]) rfl ?_
                  rw [HK2.out, HE.out]
                  exact ⟨z, rfl, W4.heap (W4.heap hc3 hltw) (by omega), W4.kp (W4.kp hk4 (by omega)) (Nat.le_refl _)⟩
                | ok r =>
                  obtain ⟨t, nx', m3⟩ := r
                  obtain ⟨x1, rfl, hx1, hc3, hk3⟩ := hpost
                  obtain ⟨hrg, _, _, hnx', _⟩ := dec_back l H8.out L nx m2 t nx' m3 hnx hr
                  have hm3 := (rgt_rt L t m2 m3 hrg).2
                  have HS := Lib.hid (decL_snoc j nx0 m1 ts nx m2 t nx' m3 HF.out hr)
                  have HR := Lib.hid hr
                  have q4 : w3.heap[wr.heap.size]? = some (.cells #[.int .u8 0, .int .i64 0, .string ⟨#[]⟩, .slice none 0 0] 43 (0, 0)) := hk3.heap (heap_new _ _) (by omega)
                  obtain ⟨s0, s1, s2, s3⟩ := box4 q4
                  have e0 : w3.frozen? ⟨wr.heap.size, 0, none⟩ = false := Lib.frozen_of_heap q4 0
                  have e1 : w3.frozen? ⟨wr.heap.size, 1, none⟩ = false := Lib.frozen_of_heap q4 1
                  have e2 : w3.frozen? ⟨wr.heap.size, 2, none⟩ = false := Lib.frozen_of_heap q4 2
                  have e3 : w3.frozen? ⟨wr.heap.size, 3, none⟩ = false := Lib.frozen_of_heap q4 3
                  obtain ⟨z0, z1, z2, z3, rfl⟩ := hx1.form
                  have hx2 := hx1
                  obtain ⟨kt, nt, st, lt⟩ := t
                  obtain ⟨At1, ct, rfl, rfl, rfl, rfl, -⟩ := hx1.parts
                  have hown5 := hgs.own5 (z := .cells #[.int .u8 0, .int .i64 0, .string ⟨#[]⟩, .slice none 0 0] 43) (y0 := .int .u8 (kt : Int)) (y1 := .int .i64 nt) (y2 := .string (strOf st)) (y3 := .slice At1 lt.length ct) (o := .cells #[.int .u8 (kt : Int), .int .i64 nt, .string (strOf st), .slice At1 lt.length ct] 43) hlt hk3
                  have hbox3 : w3.heap[w.heap.size + 1]? = some (.cells #[.int .u8 4, .int .i64 0, .string ⟨#[]⟩, .slice A' j cp] 43 (0, 0)) := hk3.heap (heap_old hgs.box _) (by omega)
                  obtain ⟨r0, r1, r2, r3⟩ := box4 hbox3
                  have hsz3 : wr.heap.size + 1 ≤ w3.heap.size := by have := hk3.size; simpa using this
                  clear hr hfc hrg hx1
                  go_wp2_with (at_builtin
                               refine wpList_append_at _ rfl (.tmp 73) (.tmp 75) 23 rfl (w.heap.size + 2) 43 i0 zeroV 4 56 Try.underlying23 hi0 hz0 hz1 hz2 rfl (by omega) (.slice A' j cp) j cs rfl hown5 _ _ 1 _ [.int .u8 (kt : Int), .int .i64 nt, .string (strOf st), .slice At1 lt.length ct] rfl (At.made' _ _ _ _ (by simp [World.setCell])) rfl (by intro u hu; simp at hu; rcases hu with rfl | rfl | rfl | rfl <;> rfl) (by unfold maxLen; omega) (by omega) (by simp [World.setCell]; omega) ?_
                               intro lv' w6 ho6 hg6 hor6
                               obtain ⟨A6, cp6, rfl, hcp6, hcm6⟩ := ownsRow_form ho6
                               have hgs6 := hgs.step hlt hk3 hc3 hx2 ho6 hg6 hor6
                               have hb6 := hgs.box6 hlt hk3 hg6
                               obtain ⟨v0, v1, v2, v3⟩ := box4 hb6
                               have f6 : w6.frozen? ⟨w.heap.size + 1, 3, none⟩ = false := Lib.frozen_of_heap hb6 3)
                  go_roundw
                  case rel => exact ⟨j + 1, nx', m3, ts ++ [.mk kt nt st lt], _, A6, cp6, by omega, by go_num, rfl, rfl, HS, hnx', by omega, ⟨hcp6, hcm6⟩, hgs6⟩
                  case measure => simp [intOf]; omega
              · obtain rfl : j = c0 := by omega
                have hcc0 := HCP.out
                have HD := Lib.hid (hgs.done (y0 := .int .u8 4) (y1 := .int .i64 0) (y2 := .string ⟨#[]⟩) (y3 := .slice A' j cp) hcc0.1 hcc0.2)
                clear hcc0
                obtain ⟨p0, p1, p2, p3⟩ := box4 hgs.res
                obtain ⟨r0, r1, r2, r3⟩ := box4 hgs.box
                have f0 : wr.frozen? ⟨w.heap.size, 0, none⟩ = false := Lib.frozen_of_heap hgs.res 0
                have f1 : wr.frozen? ⟨w.heap.size, 1, none⟩ = false := Lib.frozen_of_heap hgs.res 1
                have f2 : wr.frozen? ⟨w.heap.size, 2, none⟩ = false := Lib.frozen_of_heap hgs.res 2
                have f3 : wr.frozen? ⟨w.heap.size, 3, none⟩ = false := Lib.frozen_of_heap hgs.res 3
                go_wp2_with fail
                refine bodyPost_ret (v := .tuple #[.agg #[.int .u8 4, .int .i64 0, .string ⟨#[]⟩, .slice A' j cp], .int .i64 (nx : Int), .int .i64 0]) (by simp [results, Try.results160, go_sem, p0, p1, p2, p3]) rfl ?_
                rw [HK2.out, HF.out]
                exact ⟨_, rfl, HD.out, W4.heap hgs.cnt (by omega), W4.kp hgs.kp (Nat.le_refl _)⟩
          · have g6 : ((er : Int) == 0) = false := by simp; omega
            have g7 : ((er : Int) != 0) = true := by simp; omega
            have HK2 : Hid (dec l (L + 1) at_ (m1 + 1) = .error er) := by
              show _ = _
              rw [HK.out, if_pos he]
            clear HK HB he
            go_wp2_with fail
            refine bodyPost_ret (v := .tuple #[zeroV, .int .i64 0, .int .i64 (er : Int)]) (by simp [results, Try.results160, go_sem, zeroV]) rfl ?_
            rw [HK2.out]
            exact ⟨_, rfl, heap_old hc0 _, hk0.alloc _⟩
        · have HK : Hid (dec l (L + 1) at_ (m1 + 1) = match dlf l at_ with | .error e => .error e | .ok (v, nx) => .ok (v, nx, m1)) := by
            show _ = _
            rw [dec, if_neg hend, if_neg (by rw [HX.out]; exact h4)]
            cases dlf l at_ <;> rfl
          have g4 : ((x : Int) == 4) = false := beq_eq_false_iff_ne.2 (by omega)
          have g5 : ((x : Int) != 4) = true := bne_iff_ne.2 (by omega)
          clear hend h4
          go_enter Try.func160, Try.ntmps160
          go_wp2_with fail
          refine (getleaf_any _ l at_ _ ((hbs.below hbW).bs ?ca) hn hat').mono ?_
          case ca => exact Nat.le_trans hBw (by have := (hk0.alloc (.cells #[.int .u8 0, .int .i64 0, .string ⟨#[]⟩, .slice none 0 0] 43)).size; exact this)
          intro e w1 hpost
          have hlf : ∃ r, dlf l at_ = r := ⟨_, rfl⟩
          obtain ⟨r, hr⟩ := hlf
          rw [hr] at hpost
          rw [hr] at HK
          cases r with
          | error er =>
            obtain ⟨rfl, hb1⟩ := hpost
            have hk1 : Kp bl w w1 := (hk0.alloc _).trans (Kp.of_below hb1)
            have q0 := heap_below (heap_old hc0 _) hb1
            have q1 := heap_below (heap_new _ _) hb1
            rw [show (w.setCell ⟨bl, 0, none⟩ (.int .i64 (m1 : Int))).heap.size = w.heap.size by simp [World.setCell]] at q1
            obtain ⟨p0, p1, p2, p3⟩ := box4 q1
            have f0 : w1.frozen? ⟨w.heap.size, 0, none⟩ = false := Lib.frozen_of_heap q1 0
            have f1 : w1.frozen? ⟨w.heap.size, 1, none⟩ = false := Lib.frozen_of_heap q1 1
            have f2 : w1.frozen? ⟨w.heap.size, 2, none⟩ = false := Lib.frozen_of_heap q1 2
            have f3 : w1.frozen? ⟨w.heap.size, 3, none⟩ = false := Lib.frozen_of_heap q1 3
            have HR := Lib.hid hr
            clear hr hb1
            unfold zeroV
            go_wp2_with fail
            refine bodyPost_ret (v := .tuple #[zeroV, .int .i64 0, .int .i64 (er : Int)]) (by simp [results, Try.results160, go_sem, zeroV, p0, p1, p2, p3]) rfl ?_
            rw [HK.out]
            exact ⟨_, rfl, W4.heap q0 (by omega), W4.kp hk1 (Nat.le_refl _)⟩
          | ok r =>
            obtain ⟨t, nx⟩ := r
            obtain ⟨x1, rfl, hx1, hb1⟩ := hpost
            have hk1 : Kp bl w w1 := (hk0.alloc _).trans (Kp.of_below hb1)
            have q0 := heap_below (heap_old hc0 _) hb1
            have q1 := heap_below (heap_new _ _) hb1
            rw [show (w.setCell ⟨bl, 0, none⟩ (.int .i64 (m1 : Int))).heap.size = w.heap.size by simp [World.setCell]] at q1
            obtain ⟨p0, p1, p2, p3⟩ := box4 q1
            have f0 : w1.frozen? ⟨w.heap.size, 0, none⟩ = false := Lib.frozen_of_heap q1 0
            have f1 : w1.frozen? ⟨w.heap.size, 1, none⟩ = false := Lib.frozen_of_heap q1 1
            have f2 : w1.frozen? ⟨w.heap.size, 2, none⟩ = false := Lib.frozen_of_heap q1 2
            have f3 : w1.frozen? ⟨w.heap.size, 3, none⟩ = false := Lib.frozen_of_heap q1 3
            have hxF := hx1 (fun _ => False)
            obtain ⟨kt, nt, st, lt⟩ := t
            obtain ⟨z0, z1, z2, z3, rfl⟩ := hxF.form
            obtain ⟨At1, ct, rfl, rfl, rfl, rfl, -⟩ := hxF.parts
            have HR := Lib.hid hr
            clear hr hb1 hx1
            go_wp2_with fail
            refine bodyPost_ret (v := .tuple #[.agg #[.int .u8 (kt : Int), .int .i64 nt, .string (strOf st), .slice At1 lt.length ct], .int .i64 (nx : Int), .int .i64 0]) (by simp [results, Try.results160, go_sem, p0, p1, p2, p3]) rfl ?_
            rw [HK.out]
            exact ⟨_, rfl, (W4.rep hxF (fun _ h => h.elim)).wider (fun _ h => h.elim), W4.heap q0 (by omega), W4.kp hk1 (Nat.le_refl _)⟩
end Go.Proofs.Ytjcefnlidophoaa
namespace Go.Proofs.Ytjcefnlidophoaa
open Go.RowKit

theorem own_new (w : World) (l : List Nat) (n g : Nat) (arr : Array Value) (hn : l.length = n) (ha : arr.toList = bv l) (hs : arr.size = n) (hg : g = w.heap.size) (hm : l.length ≤ maxLen := by decide) : Own (w.alloc (.cells arr 5)) w.heap.size (.slice (some ⟨g, 0, none⟩) n n) l := by
  subst hg
  subst hn
  refine ⟨by simp [bv], .inr ⟨w.heap.size, l.length, arr, rfl, Nat.le_refl _, heap_alloc_new w _, Nat.le_refl _, hm, by omega, ?_⟩⟩
  rw [ha, Nat.mul_one]
  exact List.take_of_length_le (by simp [bv])
theorem At.three (w : World) (a b c : Int) (t : TypeId) (x y z g : Nat) (ha : a = (x : Int)) (hb : b = (y : Int)) (hc : c = (z : Int)) (hg : g = w.heap.size) : At (w.alloc (.cells #[.int .u8 a, .int .u8 b, .int .u8 c] t)) (w.heap.size + 1) (some ⟨g, 0, none⟩) (bv [x, y, z]) := by
  subst ha hb hc hg
  exact At.made w #[.int .u8 (x : Int), .int .u8 (y : Int), .int .u8 (z : Int)] t
theorem run_own_str (l : List Nat) (w : World) (base : Nat) (v : Value) (h : Own w base v l) (h8 : ∀ x ∈ l, x < 256) : (convert 27 9 v).run Try.prog w = .ok (.string (strOf l)) w := by
  obtain ⟨A, c, rfl, _, _, ha, _, _⟩ := h.form
  exact run_strOf w _ A c l ha h8
theorem hexAt : ∀ d (h : d < 16), ((ByteArray.mk #[48, 49, 50, 51, 52, 53, 54, 55, 56, 57, 97, 98, 99, 100, 101, 102])[d]'h).toNat = hx d := by decide
theorem and15 (x : Nat) (h : x < 256) : bits BinOp.and IntKind.u8 (x : Int) 15 = ((x % 16 : Nat) : Int) := by
  have := u8_and_nat x 15 h (by omega)
  rw [show x &&& 15 = x % 16 from Nat.and_two_pow_sub_one_eq_mod x 4] at this
  exact this
end Go.Proofs.Ytjcefnlidophoaa
namespace Go.Proofs.Ytjcefnlidophoaa

theorem foldlM_bound {f : Nat → Va → Option Nat} {g : Va → Nat} {c : Nat} (hf : ∀ v m m', f m v = some m' → g v + c * m' ≤ c * m) : ∀ (l : List Va) (m m' : Nat), l.foldlM f m = some m' → (l.map g).sum + c * m' ≤ c * m
  | [], m, m', h => by
    simp [List.foldlM] at h
    subst h
    simp
  | v :: l, m, m', h => by
    rw [List.foldlM_cons] at h
    cases hv : f m v with
    | none => rw [hv] at h; simp at h
    | some m1 =>
      rw [hv] at h
      have h' : l.foldlM f m1 = some m' := h
      have h1 := foldlM_bound hf l m1 m' h'
      have h2 := hf v m m1 hv
      rw [List.map_cons, List.sum_cons]
      omega
theorem flat_sum (f : Va → List Nat) : ∀ l : List Va, (l.flatMap f).length = (l.map fun v => (f v).length).sum
  | [] => rfl
  | v :: l => by rw [List.flatMap_cons, List.length_append, flat_sum f l, List.map_cons, List.sum_cons]
theorem enc_len : ∀ (L : Nat) (v : Va) (m m' : Nat), rgt L v m = some m' → (enc L v).length + 4110 * m' ≤ 4110 * m
  | 0, _, _, _, h => by simp [rgt] at h
  | L + 1, .mk k n s l, m, m', h => by
    obtain ⟨m1, rfl, hc⟩ := rgt_cases h
    rcases hc with ⟨h1, h2, rfl⟩ | ⟨rfl, rfl, rfl, h4⟩
    · have hle : (enc (L + 1) (.mk k n s l)).length ≤ 4110 := by
        obtain ⟨rfl, hc⟩ := lf_cases h2
        have v1 := (varint_length (zz n)).2
        have v2 := (varint_length s.length).2
        rcases hc with ⟨rfl, rfl⟩ | ⟨rfl, rfl, _⟩ | ⟨rfl, _, hs⟩ | ⟨rfl, rfl, _⟩ <;> simp [enc] <;> omega
      omega
    · have hs := foldlM_bound (f := fun m v => rgt L v m) (g := fun v => (enc L v).length) (fun v m m' h => enc_len L v m m' h) l m1 m' h4
      have v2 := (varint_length l.length).2
      rw [enc_tuple, List.length_cons, List.length_append, flat_sum]
      omega
theorem jn_sum : ∀ l : List (List Nat), (jn l).length ≤ (l.map fun x => x.length + 2).sum
  | [] => by simp [jn]
  | x :: r => by
    have h : ∀ r : List (List Nat), (r.flatMap fun y => 44 :: 32 :: y).length = (r.map fun x => x.length + 2).sum := by
      intro r
      induction r with
      | nil => rfl
      | cons y r ih => rw [List.flatMap_cons, List.length_append, ih, List.map_cons, List.sum_cons, List.length_cons, List.length_cons]
    rw [jn, List.length_append, h, List.map_cons, List.sum_cons]
    omega
theorem shw_len : ∀ (L : Nat) (v : Va) (m m' : Nat), rgt L v m = some m' → Ok L v → (shw L v).length + 2 + 12300 * m' ≤ 12300 * m
  | 0, _, _, _, h, _ => by simp [rgt] at h
  | L + 1, .mk k n s l, m, m', h, ok => by
    obtain ⟨m1, rfl, hc⟩ := rgt_cases h
    rcases hc with ⟨h1, h2, rfl⟩ | ⟨rfl, rfl, rfl, h4⟩
    · have hle : (shw (L + 1) (.mk k n s l)).length ≤ 12292 := by
        obtain ⟨rfl, hc⟩ := lf_cases h2
        have v1 := itoaN_len n ok.2.1 ok.2.2.1
        have v2 := quo_len s
        rcases hc with ⟨rfl, rfl⟩ | ⟨rfl, rfl, _⟩ | ⟨rfl, _, hs⟩ | ⟨rfl, rfl, _⟩
        · simp [shw]; omega
        · by_cases h1 : n = 1 <;> simp [shw, h1]
        · simp [shw]; omega
        · simp [shw]; omega
      omega
    · have hall : ∀ (l : List Va) (m m' : Nat), (∀ t ∈ l, Ok L t) → l.foldlM (fun m v => rgt L v m) m = some m' → (l.map fun v => (shw L v).length + 2).sum + 12300 * m' ≤ 12300 * m := by
        intro l
        induction l with
        | nil =>
          intro m m' _ h
          simp [List.foldlM] at h
          subst h
          simp
        | cons v l ih =>
          intro m m' hok h
          rw [List.foldlM_cons] at h
          cases hv : rgt L v m with
          | none => rw [hv] at h; simp at h
          | some m1 =>
            rw [hv] at h
            have h' : l.foldlM (fun m v => rgt L v m) m1 = some m' := h
            have h1 := ih m1 m' (fun t ht => hok t (by simp [ht])) h'
            have h2 := shw_len L v m m1 hv (hok v (by simp))
            rw [List.map_cons, List.sum_cons]
            omega
      have hs := hall l m1 m' ok.2.2.2.2 h4
      have hj := jn_sum (l.map (shw L))
      rw [List.map_map] at hj
      have e : (shw (L + 1) (.mk 4 0 [] l)).length ≤ (jn (l.map (shw L))).length + 3 := by
        have e0 : shw (L + 1) (.mk 4 0 [] l) = 40 :: shT (l.map (shw L)) := by simp [shw]
        rw [e0, shT_jn]
        simp only [List.length_cons, List.length_append, List.length_nil]
        split <;> simp <;> omega
      have hj' : (jn (l.map (shw L))).length ≤ (l.map fun v => (shw L v).length + 2).sum := hj
      omega
theorem enc_short {v : Va} (h : right v = true) : (enc 16 v).length ≤ 1052160 := by
  obtain ⟨m, hm⟩ : ∃ m, rgt 16 v 256 = some m := Option.isSome_iff_exists.1 h
  have := enc_len 16 v 256 m hm
  omega
theorem shw_short {v : Va} (h : right v = true) (ok : Ok 16 v) : (shw 16 v).length ≤ 3148800 := by
  obtain ⟨m, hm⟩ : ∃ m, rgt 16 v 256 = some m := Option.isSome_iff_exists.1 h
  have := shw_len 16 v 256 m hm ok
  omega
end Go.Proofs.Ytjcefnlidophoaa
namespace Go.Proofs.Ytjcefnlidophoaa
open Go.RowKit

set_option maxHeartbeats 400000 in
set_option maxRecDepth 100000 in
theorem clone_any (v : Value) (l : List Nat) (w : World) (h : Bs w v l) (hn : l.length ≤ 1099511627776) :
    Calls Try.prog 170 #[v] w fun e w' => ∃ u, e = .returned u ∧ Own w' w.heap.size u l ∧ Below w.heap.size w w' := by
  obtain ⟨⟨A, c, rfl, hc, ha⟩, h8⟩ := h
  cases A with
  | none =>
    have hl : l = [] := by
      cases l with
      | nil => rfl
      | cons x r => obtain ⟨b, o, e, _⟩ := ha (by simp [bv]); cases e
    subst hl
    have hnil := Lib.run_eql_slice_nil (P := Try.prog) w 27 5 none 0 c 0 0 Try.underlying27
    go_enter Try.func170, Try.ntmps170
    go_wp2_with fail
    go_ret
    exact ⟨_, rfl, Own.nil _ _, Below.refl _ _⟩
  | some a =>
    have hnil := Lib.run_eql_slice_nil (P := Try.prog) w 27 5 (some a) l.length c 0 0 Try.underlying27
    go_enter Try.func170, Try.ntmps170
    go_wp2_with (at_builtin
                 refine wpList_app rfl (.tmp 5) (.tmp 6) rfl rfl (own_new w [] 0 _ _ rfl rfl rfl rfl) rfl (ha.alloc (Nat.le_refl _) _) rfl (by simp; omega) (by simp) ?_
                 intro v2 w2 hown2 hb2 _ _)
    go_ret
    exact ⟨_, rfl, hown2, ((Below.refl _ _).alloc (Nat.le_refl _) _).trans hb2⟩

def OutPut (v : Va) (l : List Nat) (w : World) (e : Ending) (w' : World) : Prop := Below w.heap.size w w' ∧
  (right v = false → e = .returned (.tuple #[.slice none 0 0, .int .i64 13])) ∧
  (right v = true → ∃ u, e = .returned (.tuple #[u, .int .i64 0]) ∧ Own w' w.heap.size u (l ++ enc 16 v))
theorem right_rgt {v : Va} (h : right v = true) : ∃ m, rgt 16 v 256 = some m := Option.isSome_iff_exists.1 h
set_option maxRecDepth 100000 in
set_option maxHeartbeats 800000 in
theorem put_any (t : Va) (v vo : Value) (l : List Nat) (w : World) (B : Nat) (h : Rep w B v t) (hB : B ≤ w.heap.size) (ho : Bs w vo l) (hn : l.length ≤ 549755813888) :
    Calls Try.prog 150 #[vo, v] w (OutPut t l w) := by
  have h0 := h
  have hok := h.ok 16
  obtain ⟨⟨A, c, rfl, hc, ha⟩, h8⟩ := id ho
  obtain ⟨k, n, s, p⟩ := t
  obtain ⟨y0, y1, y2, y3, rfl⟩ := h.form
  obtain ⟨A', c', rfl, rfl, rfl, rfl, -⟩ := h.parts
  have H8 := Lib.hid h8
  clear h h8
  have HR : ∀ b, right (.mk k n s p) = b → Hid (right (.mk k n s p) = b) := fun _ h => h
  cases hr : right (.mk k n s p) with
  | false =>
    have HR := Lib.hid hr
    go_enter Try.func150, Try.ntmps150
    go_wp2_with fail
    refine (right_any _ _ _ B (h0.under ((Below.refl _ _).alloc hB _)) (by simp; omega)).mono ?_
    rintro e w1 ⟨rfl, hb1⟩
    rw [HR.out]
    have hb2 := nxt ((Below.refl w.heap.size w).alloc (Nat.le_refl _) _) hb1
    clear hr hb1
    go_wp2_with fail
    go_ret2
    exact ⟨hb2, fun _ => rfl, fun h => by rw [HR.out] at h; cases h⟩
  | true =>
    have HR := Lib.hid hr
    obtain ⟨m, hm⟩ := right_rgt hr
    have hrt := (rgt_rt 16 _ 256 m hm).1
    clear hm hr
    go_enter Try.func150, Try.ntmps150
    go_wp2_with fail
    refine (right_any _ _ _ B (h0.under ((Below.refl _ _).alloc hB _)) (by simp; omega)).mono ?_
    rintro e w1 ⟨rfl, hb1⟩
    rw [HR.out]
    have hb2 := nxt ((Below.refl w.heap.size w).alloc (Nat.le_refl _) _) hb1
    have hbox := heap_below (heap_new _ _) hb1
    obtain ⟨d0, d1, d2, d3⟩ := box4 hbox
    have hsz := lt_heap hbox
    clear hb1
    go_wp2_with fail
    refine (clone_any _ l _ (ho.below hb2) (by omega)).mono ?_
    rintro e w2 ⟨u, rfl, hown, hb3⟩
    have hb4 := nxt hb2 hb3
    have hbox2 := heap_below hbox hb3
    obtain ⟨d0, d1, d2, d3⟩ := box4 hbox2
    have hsz2 := lt_heap hbox2
    obtain ⟨Au, cu, rfl, hcu, _, _, _, _⟩ := hown.form
    go_wp2_with fail
    have hsz1 := hb2.size
    have hsz3 := hb3.size
    have hbt : Below w2.heap.size w2 ((w2.alloc (.cells #[.slice Au l.length cu] 27)).alloc (.cells #[.func (.func 177) #[] #[.pointer (some ⟨w2.heap.size, 0, none⟩), .pointer (some ⟨w2.heap.size + 1, 0, none⟩)]] 208)) := two _ _ _
    refine (put1_any 16 _ l _ _ B w.heap.size w2.heap.size (w2.heap.size + 1) hrt hok (h0.under ((hb4.mono hB).trans (hbt.mono (by omega)))) hB (by omega) (by have := hbt.size; omega) (by omega) ⟨_, heap_old (heap_new _ _) _, ((hown.alloc _).alloc _).mono (by omega)⟩ (heap_new' _ _ _ (by simp)) (by have := enc_short HR.out; omega)).mono ?_
    rintro e w3 ⟨rfl, ⟨v3, hv3, hown3⟩, hb5, hot5⟩
    have hb6 : Below w.heap.size w w3 := hb4.trans ((hbt.mono (by omega)).trans hb5)
    have c9 := cell_of_one hv3
    obtain ⟨A3, cp3, rfl, hcp3, _, _, _, _⟩ := id hown3.form
    clear hbt hb5 hot5 d0 d1 d2 d3 hbox hbox2
    go_wp2_with fail
    go_ret2
    rw [show (l ++ enc 16 (.mk k n s p)).length = l.length + (enc 16 (.mk k n s p)).length by simp] at hown3
    exact ⟨hb6, (fun h => by rw [HR.out] at h; cases h), fun _ => ⟨_, rfl, hown3⟩⟩
end Go.Proofs.Ytjcefnlidophoaa
namespace Go.Proofs.Ytjcefnlidophoaa
open Go.RowKit

def OutGet (r : Except Nat (Va × Nat × Nat)) (w : World) (e : Ending) (w' : World) : Prop := Below w.heap.size w w' ∧ match r with
  | .error er => e = .returned (.tuple #[zeroV, .int .i64 0, .int .i64 ((er : Nat) : Int)])
  | .ok (t, nx, _) => ∃ x, e = .returned (.tuple #[x, .int .i64 ((nx : Nat) : Int), .int .i64 0]) ∧ RepS w' (fun b => w.heap.size ≤ b ∧ b < w'.heap.size) x t
def getR (l : List Nat) (at_ : Int) : Except Nat (Va × Nat × Nat) := if at_ < 0 ∨ (l.length : Int) < at_ then .error 2 else dec l 16 at_.toNat 256

set_option maxRecDepth 100000 in
set_option maxHeartbeats 800000 in
theorem get_any (v : Value) (l : List Nat) (at_ : Int) (w : World) (h : Bs w v l) (hn : l.length ≤ 1099511627776) :
    Calls Try.prog 86 #[v, .int .i64 at_] w (OutGet (getR l at_) w) := by
  obtain ⟨⟨A, c, rfl, hc, ha⟩, h8⟩ := h
  have H8 := Lib.hid h8
  clear h8
  by_cases hbad : at_ < 0 ∨ (l.length : Int) < at_
  · have HR : Hid (getR l at_ = .error 2) := by show _ = _; rw [getR, if_pos hbad]
    rcases hbad with hb | hb
    · go_enter Try.func86, Try.ntmps86
      go_wp2_with fail
      refine bodyPost_ret (v := .tuple #[zeroV, .int .i64 0, .int .i64 2]) (by simp [results, Try.results86, go_sem, zeroV]) rfl ?_
      rw [HR.out]
      exact ⟨two _ _ _, rfl⟩
    · have h0 : ¬ at_ < 0 := by omega
      have h0' : decide (at_ < 0) = false := by simp; omega
      go_enter Try.func86, Try.ntmps86
      go_wp2_with fail
      refine bodyPost_ret (v := .tuple #[zeroV, .int .i64 0, .int .i64 2]) (by simp [results, Try.results86, go_sem, zeroV]) rfl ?_
      rw [HR.out]
      exact ⟨two _ _ _, rfl⟩
  · obtain ⟨n, rfl⟩ : ∃ n : Nat, at_ = (n : Int) := ⟨at_.toNat, by omega⟩
    have hnl : n ≤ l.length := by omega
    have HR : Hid (getR l (n : Int) = dec l 16 n 256) := by show _ = _; rw [getR, if_neg hbad]; simp
    have h0 : ¬ (n : Int) < 0 := by omega
    have h0' : decide ((n : Int) < 0) = false := by simp
    have h1' : decide ((l.length : Int) < (n : Int)) = false := by simp; omega
    have h1 : ¬ (l.length : Int) < (n : Int) := by omega
    clear hbad
    go_enter Try.func86, Try.ntmps86
    go_wp2_with fail
    have hb : ∀ (o o' o'' o3 : Obj), Below w.heap.size w ((((w.alloc o).alloc o').alloc o'').alloc o3) := fun o o' o'' o3 => ((two w o o').alloc (by simp; omega) o'').alloc (by simp; omega) o3
    have hbs : BsB w w.heap.size (.slice A l.length c) l := ⟨⟨A, c, rfl, hc, ha⟩, H8.out⟩
    refine (get1_any 16 n 256 l _ 1 _ w.heap.size (w.heap.size + 1 + 1) w.heap.size (w.heap.size + 1 + 1 + 1) (by omega) (by omega) (by omega) hnl hn (hbs.below (hb _ _ _ _)) (by omega) (hb _ _ _ _).size (by omega) (by omega) ?cc ?cb ?cf).mono ?ce
    case cc => exact heap_old (heap_new' _ _ _ (by simp)) _
    case cb => exact heap_old (heap_old (heap_old (heap_new _ _) _) _) _
    case cf => exact heap_new' _ _ _ (by simp)
    intro e w1 hpost
    obtain ⟨r, hr⟩ : ∃ r, dec l 16 n 256 = r := ⟨_, rfl⟩
    rw [hr] at hpost
    have HK : Hid (getR l (n : Int) = r) := by show _ = _; rw [HR.out, hr]
    clear hr HR
    have hres : ∀ (o o'' o3 : Obj), ((((w.alloc o).alloc (.cells #[.int .u8 0, .int .i64 0, .string ⟨#[]⟩, .slice none 0 0] 43)).alloc o'').alloc o3).heap[w.heap.size + 1]? = some (.cells #[.int .u8 0, .int .i64 0, .string ⟨#[]⟩, .slice none 0 0] 43 (0, 0)) := fun o o'' o3 => heap_old (heap_old (heap_new' _ _ _ (by simp)) _) _
    cases r with
    | error er =>
      obtain ⟨z, rfl, hc3, hk3⟩ := hpost
      have hb3 : Below w.heap.size w w1 := (hb _ _ _ _).trans (hk3.below (by omega) (hb _ _ _ _).size)
      have q1 := hk3.heap (hres _ _ _) (by omega)
      obtain ⟨p0, p1, p2, p3⟩ := box4 q1
      have f0 : w1.frozen? ⟨w.heap.size + 1, 0, none⟩ = false := Lib.frozen_of_heap q1 0
      have f1 : w1.frozen? ⟨w.heap.size + 1, 1, none⟩ = false := Lib.frozen_of_heap q1 1
      have f2 : w1.frozen? ⟨w.heap.size + 1, 2, none⟩ = false := Lib.frozen_of_heap q1 2
      have f3 : w1.frozen? ⟨w.heap.size + 1, 3, none⟩ = false := Lib.frozen_of_heap q1 3
      clear hk3 hb hres
      unfold zeroV
      go_wp2_with fail
      refine bodyPost_ret (v := .tuple #[zeroV, .int .i64 0, .int .i64 (er : Int)]) (by simp [results, Try.results86, go_sem, zeroV, p0, p1, p2, p3]) rfl ?_
      rw [HK.out]
      exact ⟨(((hb3.setCell (by simp) _).setCell (by simp) _).setCell (by simp) _).setCell (by simp) _, rfl⟩
    | ok r =>
      obtain ⟨t, nx, m3⟩ := r
      obtain ⟨x1, rfl, hx1, hc3, hk3⟩ := hpost
      have hb3 : Below w.heap.size w w1 := (hb _ _ _ _).trans (hk3.below (by omega) (hb _ _ _ _).size)
      have q1 := hk3.heap (hres _ _ _) (by omega)
      obtain ⟨p0, p1, p2, p3⟩ := box4 q1
      have f0 : w1.frozen? ⟨w.heap.size + 1, 0, none⟩ = false := Lib.frozen_of_heap q1 0
      have f1 : w1.frozen? ⟨w.heap.size + 1, 1, none⟩ = false := Lib.frozen_of_heap q1 1
      have f2 : w1.frozen? ⟨w.heap.size + 1, 2, none⟩ = false := Lib.frozen_of_heap q1 2
      have f3 : w1.frozen? ⟨w.heap.size + 1, 3, none⟩ = false := Lib.frozen_of_heap q1 3
      have hx2 : RepS w1 (fun b => w.heap.size + 4 ≤ b ∧ b < w1.heap.size) x1 t := hx1.wider fun b h => ⟨by have := h.1; simp at this; omega, h.2⟩
      obtain ⟨kt, nt, st, lt⟩ := t
      obtain ⟨z0, z1, z2, z3, rfl⟩ := hx1.form
      obtain ⟨At1, ct, rfl, rfl, rfl, rfl, -⟩ := hx1.parts
      clear hk3 hb hres hx1
      go_wp2_with fail
      refine bodyPost_ret (v := .tuple #[.agg #[.int .u8 (kt : Int), .int .i64 nt, .string (strOf st), .slice At1 lt.length ct], .int .i64 (nx : Int), .int .i64 0]) (by simp [results, Try.results86, go_sem, p0, p1, p2, p3]) rfl ?_
      rw [HK.out]
      refine ⟨(((hb3.setCell (by simp) _).setCell (by simp) _).setCell (by simp) _).setCell (by simp) _, _, rfl, ?_⟩
      exact (W4.rep (g := w.heap.size + 1) hx2 (fun b h => by have := h.1; omega)).wider fun b h => ⟨by have := h.1; omega, by have h4 := h.2; show b < (W4 w1 (w.heap.size + 1) _ _ _ _).heap.size; rw [W4.size]; exact h4⟩
end Go.Proofs.Ytjcefnlidophoaa
namespace Go.Proofs.Ytjcefnlidophoaa
open Go.RowKit

/-- A value that is looked at: so many levels, so many parts of each. -/
def smallV (many : Nat) : Nat → Va → Bool
  | 0, _ => false
  | L + 1, .mk _ _ s l => decide (l.length ≤ many) && decide (s.length ≤ 5000) && l.all (smallV many L)

set_option maxRecDepth 100000 in
set_option maxHeartbeats 1600000 in
theorem small_any (many : Nat) (hmany : many ≤ 1000) : ∀ (L : Nat) (t : Va) (v : Value) (w : World) (B : Nat), L ≤ 1000 → Rep w B v t → B ≤ w.heap.size →
    Calls Try.prog 73 #[v, .int .i64 (L : Int), .int .i64 (many : Int)] w fun e w' => e = .returned (.bool (smallV many L t)) ∧ Below w.heap.size w w' := by
  intro L
  induction L with
  | zero =>
    intro t v w B _ hrep hB
    obtain ⟨k, n, s, l⟩ := t
    obtain ⟨y0, y1, y2, y3, rfl⟩ := hrep.form
    obtain ⟨A, c, rfl, rfl, rfl, rfl, -⟩ := hrep.parts
    go_enter Try.func73, Try.ntmps73
    go_wp2_with fail
    go_ret
    exact ⟨rfl, (Below.refl _ _).alloc (Nat.le_refl _) _⟩
  | succ L ih =>
    intro t v w B hL hrep hB
    obtain ⟨k, n, s, l⟩ := t
    obtain ⟨y0, y1, y2, y3, rfl⟩ := hrep.form
    obtain ⟨A, c, rfl, rfl, rfl, rfl, hk8, hn0, hn1, hs8, hsl, hcl, hcm, hl⟩ := hrep.parts
    have HZ := strOf_size s
    have g0 : decide (((L + 1 : Nat) : Int) < 1) = false := by simp; omega
    clear hs8 hk8 hn0 hn1 hrep
    have E : smallV many (L + 1) (.mk k n s l) = (decide (l.length ≤ many) && decide (s.length ≤ 5000) && l.all (smallV many L)) := rfl
    by_cases h1 : l.length ≤ many
    · by_cases h2 : s.length ≤ 5000
      · have HE : Hid (smallV many (L + 1) (.mk k n s l) = l.all (smallV many L)) := by
          show _ = _
          rw [E, decide_eq_true h1, decide_eq_true h2]
          rfl
        have g1 : decide ((many : Int) < (l.length : Int)) = false := by simp; omega
        have g1' : decide (many < l.length) = false := by simp; omega
        have g2 : decide ((5000 : Int) < ((strOf s).size : Int)) = false := by simp; omega
        have g2' : decide (5000 < (strOf s).size) = false := by simp; omega
        have HZ' := Lib.hid HZ
        clear E HZ
        obtain ⟨W2, hW2⟩ : ∃ W2 : World, W2 = w.alloc (.cells #[.int .u8 (k : Int), .int .i64 n, .string (strOf s), .slice A l.length c] 43) := ⟨_, rfl⟩
        have q1 : W2.heap[w.heap.size]? = some (.cells #[.int .u8 (k : Int), .int .i64 n, .string (strOf s), .slice A l.length c] 43 (0, 0)) := by rw [hW2]; exact heap_new _ _
        have q3 : Below w.heap.size w W2 := by rw [hW2]; exact (Below.refl _ _).alloc (Nat.le_refl _) _
        have HW := Lib.hid hW2
        clear hW2
        go_enter Try.func73, Try.ntmps73
        go_wp2_with fail
        rw [← HW.out]
        go_loopw [7] (fun i wr => ∃ j : Nat, j ≤ l.length ∧ i = .int .i64 (j : Int) ∧ Hid ((l.take j).all (smallV many L) = true) ∧ Below W2.heap.size W2 wr) (fun i _ => l.length - (intOf i).toNat)
        case atStart => exact ⟨0, Nat.zero_le _, rfl, rfl, Below.refl _ _⟩
        case round =>
          obtain ⟨j, hj, rfl, HF, hbr⟩ := hrel
          obtain ⟨p0, p1, p2, p3⟩ := box4 (heap_below q1 hbr)
          have hb5 : Below w.heap.size w wr := q3.trans (hbr.mono q3.size)
          have hbel : Below B w wr := hb5.mono hB
          by_cases hlt : j < l.length
          · obtain ⟨b, o, y0, y1, y2, y3, rfl, hbB, hrange, hrepj⟩ := hl.at j hlt
            have HJ : Hid ((l.take (j + 1)).all (smallV many L) = smallV many L l[j]) := by
              show _ = _
              rw [List.take_succ_eq_append_getElem hlt, List.all_append, HF.out]
              simp
            have HA : Hid (l.all (smallV many L) = true → smallV many L l[j] = true) := fun h => List.all_eq_true.1 h _ (List.getElem_mem hlt)
            have hrepj' := hrepj.under hbel
            generalize l[j] = tj at *
            obtain ⟨kj, nj, sj, lj⟩ := tj
            obtain ⟨Aj, cj, rfl, rfl, rfl, rfl, -⟩ := hrepj.parts
            have d0 : wr.cell? ⟨b, o + j * 4, none⟩ = some _ := (hbel.cell hbB).trans (hrange 0 _ rfl)
            have d1 : wr.cell? ⟨b, o + j * 4 + 1, none⟩ = some _ := (hbel.cell hbB).trans (hrange 1 _ rfl)
            have d2 : wr.cell? ⟨b, o + j * 4 + 2, none⟩ = some _ := (hbel.cell hbB).trans (hrange 2 _ rfl)
            have d3 : wr.cell? ⟨b, o + j * 4 + 3, none⟩ = some _ := (hbel.cell hbB).trans (hrange 3 _ rfl)
            have p5 : IntKind.i64.wrap (((L + 1 : Nat) : Int) - 1) = (L : Int) := by rw [IntKind.wrap_i64]; omega
            clear hrange hrepj
            go_wp2_with fail
            refine (ih _ _ _ B (by omega) hrepj' (Nat.le_trans hB hb5.size)).mono ?_
            rintro e w3 ⟨rfl, hb3⟩
            have hb4 : Below W2.heap.size W2 w3 := nxt hbr hb3
            clear hb3 hbr hrepj' d0 d1 d2 d3 p0 p1 p2 p3
            cases hres : smallV many L (.mk kj nj sj lj) with
            | false =>
              rw [hres] at HA HJ
              have HN : Hid (l.all (smallV many L) = false) := by
                show _ = _
                cases h : l.all (smallV many L) with
                | false => rfl
                | true => exact absurd (HA.out h) (by simp)
              clear HA HJ hres
              go_wp2_with fail
              go_ret
              exact ⟨ret_bool (by rw [HE.out, HN.out]), q3.trans (hb4.mono q3.size)⟩
            | true =>
              rw [hres] at HJ
              clear HA hres
              go_wp2_with fail
              go_roundw
              case rel => exact ⟨j + 1, by omega, by go_num, HJ, hb4⟩
              case measure => simp [intOf]; omega
          · obtain rfl : j = l.length := by omega
            rw [List.take_length] at HF
            go_wp2_with fail
            go_ret
            exact ⟨ret_bool (by rw [HE.out, HF.out]), hb5⟩
      · have HE : Hid (smallV many (L + 1) (.mk k n s l) = false) := by
          show _ = _
          rw [E, decide_eq_false h2]
          simp
        have g1 : decide ((many : Int) < (l.length : Int)) = false := by simp; omega
        have g1' : decide (many < l.length) = false := by simp; omega
        have g2 : decide ((5000 : Int) < ((strOf s).size : Int)) = true := by simp; omega
        have g2' : decide (5000 < (strOf s).size) = true := by simp; omega
        clear E HZ h2
        go_enter Try.func73, Try.ntmps73
        go_wp2_with fail
        go_ret
        exact ⟨ret_bool HE.out.symm, (Below.refl _ _).alloc (Nat.le_refl _) _⟩
    · have HE : Hid (smallV many (L + 1) (.mk k n s l) = false) := by
        show _ = _
        rw [E, decide_eq_false h1]
        simp
      have g1 : decide ((many : Int) < (l.length : Int)) = true := by simp; omega
      have g1' : decide (many < l.length) = true := by simp; omega
      clear E HZ h1
      go_enter Try.func73, Try.ntmps73
      go_wp2_with fail
      go_ret
      exact ⟨ret_bool HE.out.symm, (Below.refl _ _).alloc (Nat.le_refl _) _⟩
end Go.Proofs.Ytjcefnlidophoaa
namespace Go.Proofs.Ytjcefnlidophoaa
open Go.RowKit

set_option maxRecDepth 100000 in
set_option maxHeartbeats 1600000 in
theorem alike_any : ∀ (L : Nat) (t : Va) (v v' : Value) (w : World) (B : Nat), Rt L t → Rep w B v t → Rep w B v' t → B ≤ w.heap.size →
    Calls Try.prog 77 #[v, v'] w fun e w' => e = .returned (.bool true) ∧ Below w.heap.size w w' := by
  intro L
  induction L with
  | zero => intro t v v' w B h; exact h.elim
  | succ L ih =>
    intro t v v' w B hrt hrep hrep' hB
    obtain ⟨k, n, s, l⟩ := t
    obtain ⟨y0, y1, y2, y3, rfl⟩ := hrep.form
    obtain ⟨z0, z1, z2, z3, rfl⟩ := hrep'.form
    obtain ⟨A, c, rfl, rfl, rfl, rfl, hk8, hn0, hn1, hs8, hsl, hcl, hcm, hl⟩ := hrep.parts
    obtain ⟨A', c', rfl, rfl, rfl, rfl, -, -, -, -, -, hcl', hcm', hl'⟩ := hrep'.parts
    have hparts : ∀ i (h : i < l.length), Rt L l[i] := by
      intro i h
      rcases hrt with ⟨_, h2⟩ | ⟨_, _, _, h4⟩
      · obtain ⟨rfl, _⟩ := lf_cases h2
        simp at h
      · exact h4 _ (List.getElem_mem h)
    have HP := Lib.hid hparts
    clear hparts hs8 hk8 hn0 hn1 hrep hrep' hrt
    obtain ⟨W2, hW2⟩ : ∃ W2 : World, W2 = (w.alloc (.cells #[.int .u8 (k : Int), .int .i64 n, .string (strOf s), .slice A l.length c] 43)).alloc (.cells #[.int .u8 (k : Int), .int .i64 n, .string (strOf s), .slice A' l.length c'] 43) := ⟨_, rfl⟩
    have q1 : W2.heap[w.heap.size]? = some (.cells #[.int .u8 (k : Int), .int .i64 n, .string (strOf s), .slice A l.length c] 43 (0, 0)) := by rw [hW2]; exact heap_old (heap_new _ _) _
    have q2 : W2.heap[w.heap.size + 1]? = some (.cells #[.int .u8 (k : Int), .int .i64 n, .string (strOf s), .slice A' l.length c'] 43 (0, 0)) := by rw [hW2]; exact heap_new' _ _ _ (by simp)
    have q3 : Below w.heap.size w W2 := by rw [hW2]; exact two _ _ _
    have HW := Lib.hid hW2
    clear hW2
    go_enter Try.func77, Try.ntmps77
    go_wp2_with fail
    rw [← HW.out]
    go_loopw [5] (fun i wr => ∃ j : Nat, j ≤ l.length ∧ i = .int .i64 (j : Int) ∧ Below W2.heap.size W2 wr) (fun i _ => l.length - (intOf i).toNat)
    case atStart => exact ⟨0, Nat.zero_le _, rfl, Below.refl _ _⟩
    case round =>
      obtain ⟨j, hj, rfl, hbr⟩ := hrel
      obtain ⟨p0, p1, p2, p3⟩ := box4 (heap_below q1 hbr)
      obtain ⟨r0, r1, r2, r3⟩ := box4 (heap_below q2 hbr)
      have hb5 : Below w.heap.size w wr := q3.trans (hbr.mono q3.size)
      have hbel : Below B w wr := hb5.mono hB
      by_cases hlt : j < l.length
      · obtain ⟨b, o, y0, y1, y2, y3, rfl, hbB, hrange, hrepj⟩ := hl.at j hlt
        obtain ⟨b', o', z0, z1, z2, z3, rfl, hbB', hrange', hrepj'⟩ := hl'.at j hlt
        have hrtj := HP.out j hlt
        have hr1 := hrepj.under hbel
        have hr2 := hrepj'.under hbel
        generalize l[j] = tj at *
        obtain ⟨kj, nj, sj, lj⟩ := tj
        obtain ⟨Aj, cj, rfl, rfl, rfl, rfl, -⟩ := hrepj.parts
        obtain ⟨Aj', cj', rfl, rfl, rfl, rfl, -⟩ := hrepj'.parts
        have d0 : wr.cell? ⟨b, o + j * 4, none⟩ = some _ := (hbel.cell hbB).trans (hrange 0 _ rfl)
        have d1 : wr.cell? ⟨b, o + j * 4 + 1, none⟩ = some _ := (hbel.cell hbB).trans (hrange 1 _ rfl)
        have d2 : wr.cell? ⟨b, o + j * 4 + 2, none⟩ = some _ := (hbel.cell hbB).trans (hrange 2 _ rfl)
        have d3 : wr.cell? ⟨b, o + j * 4 + 3, none⟩ = some _ := (hbel.cell hbB).trans (hrange 3 _ rfl)
        have e0 : wr.cell? ⟨b', o' + j * 4, none⟩ = some _ := (hbel.cell hbB').trans (hrange' 0 _ rfl)
        have e1 : wr.cell? ⟨b', o' + j * 4 + 1, none⟩ = some _ := (hbel.cell hbB').trans (hrange' 1 _ rfl)
        have e2 : wr.cell? ⟨b', o' + j * 4 + 2, none⟩ = some _ := (hbel.cell hbB').trans (hrange' 2 _ rfl)
        have e3 : wr.cell? ⟨b', o' + j * 4 + 3, none⟩ = some _ := (hbel.cell hbB').trans (hrange' 3 _ rfl)
        have x5 : (j : Int) < l.length := by omega
        have x7 : (0 : Int) ≤ j := by omega
        clear hrange hrange' hrepj hrepj'
        go_wp2_with fail
        go_still_tail 10, (by kernel_rfl)
        clear d0 d1 d2 d3 e0 e1 e2 e3 p0 p1 p2 p3 r0 r1 r2 r3
        go_wp2_with fail
        refine (ih _ _ _ wr.drew B hrtj (hr1.keep fun _ _ => rfl) (hr2.keep fun _ _ => rfl) (Nat.le_trans hB hb5.size)).mono ?_
        rintro e w3 ⟨rfl, hb3⟩
        have hb4 : Below W2.heap.size W2 w3 := nxt hbr (of_drew hb3)
        clear hb3 hbr hr1 hr2
        go_wp2_with fail
        go_roundw
        case rel => exact ⟨j + 1, by omega, by go_num, hb4⟩
        case measure => simp [intOf]; omega
      · obtain rfl : j = l.length := by omega
        go_wp2_with fail
        go_ret
        exact ⟨rfl, hb5⟩
end Go.Proofs.Ytjcefnlidophoaa
namespace Go.Proofs.Ytjcefnlidophoaa
open Go.RowKit

theorem dlf_err0 {b : List Nat} {a er : Nat} (h : dlf b a = .error er) : er ≠ 0 := by
  intro h0
  subst h0
  unfold dlf at h
  split at h
  · split at h
    · cases h
    · injection h with h; omega
  · split at h
    · split at h
      · injection h with h; omega
      · split at h
        · injection h with h; omega
        · cases h
    · split at h
      · split at h
        · cases h
        · injection h with h; omega
      · split at h
        · split at h
          · split at h
            · injection h with h; omega
            · cases h
          · injection h with h; omega
        · injection h with h; omega
theorem decL_err0 {f : Nat → Nat → Except Nat (Va × Nat × Nat)} (hf : ∀ a m er, f a m = .error er → er ≠ 0) : ∀ (c a m er : Nat), decL f c a m = .error er → er ≠ 0
  | 0, a, m, er, h => by simp [decL] at h
  | c + 1, a, m, er, h => by
    rw [decL] at h
    split at h
    · rename_i e he
      injection h with h
      exact h ▸ hf _ _ _ he
    · rename_i x he
      split at h
      · rename_i e he2
        injection h with h
        exact h ▸ decL_err0 hf c _ _ _ he2
      · cases h
theorem dec_err (b : List Nat) : ∀ (L a m er : Nat), dec b L a m = .error er → er ≠ 0
  | 0, a, m, er, h => by simp [dec] at h; omega
  | L + 1, a, 0, er, h => by simp [dec] at h; omega
  | L + 1, a, m + 1, er, h => by
    rw [dec] at h
    split at h
    · injection h with h; omega
    · split at h
      · split at h
        · rename_i hne
          injection h with h
          exact h ▸ hne
        · split at h
          · injection h with h; omega
          · split at h
            · rename_i e he
              injection h with h
              exact h ▸ decL_err0 (fun a m er h => dec_err b L a m er h) _ _ _ _ he
            · cases h
      · split at h
        · rename_i e he
          injection h with h
          exact h ▸ dlf_err0 he
        · cases h

theorem getR_err {l : List Nat} {a : Int} {er : Nat} (h : getR l a = .error er) : er ≠ 0 := by
  unfold getR at h
  split at h
  · injection h with h; omega
  · exact dec_err _ _ _ _ _ h
/-- Get's answer: an error and nothing, or a value in new memory. -/
def GetP (r : Except Nat (Va × Nat × Nat)) (w w' : World) (x : Value) (nx er : Nat) : Prop :=
  (er ≠ 0 ∧ r = .error er ∧ nx = 0 ∧ x = zeroV) ∨ (er = 0 ∧ ∃ t m, r = .ok (t, nx, m) ∧ RepS w' (fun b => w.heap.size ≤ b ∧ b < w'.heap.size) x t)
theorem get_all (v : Value) (l : List Nat) (at_ : Int) (w : World) (h : Bs w v l) (hn : l.length ≤ 1099511627776) :
    Calls Try.prog 86 #[v, .int .i64 at_] w fun e w' => ∃ (zk zn : Int) (zs : ByteArray) (zA : Option Addr) (zl zc nx er : Nat), e = .returned (.tuple #[.agg #[.int .u8 zk, .int .i64 zn, .string zs, .slice zA zl zc], .int .i64 ((nx : Nat) : Int), .int .i64 ((er : Nat) : Int)]) ∧ Below w.heap.size w w' ∧ GetP (getR l at_) w w' (.agg #[.int .u8 zk, .int .i64 zn, .string zs, .slice zA zl zc]) nx er := by
  refine (get_any v l at_ w h hn).mono ?_
  intro e w' ho
  cases hr : getR l at_ with
  | error er =>
    rw [hr] at ho
    obtain ⟨hb, rfl⟩ := ho
    exact ⟨_, _, _, _, _, _, 0, er, rfl, hb, .inl ⟨getR_err hr, rfl, rfl, rfl⟩⟩
  | ok r =>
    obtain ⟨t, nx, m⟩ := r
    rw [hr] at ho
    obtain ⟨hb, x, rfl, hx⟩ := ho
    obtain ⟨kt, nt, st, lt⟩ := t
    obtain ⟨z0, z1, z2, z3, rfl⟩ := hx.form
    obtain ⟨A, c, rfl, rfl, rfl, rfl, -⟩ := hx.parts
    exact ⟨_, _, _, _, _, _, nx, 0, rfl, hb, .inr ⟨rfl, _, m, rfl, hx⟩⟩
theorem getR_back {l : List Nat} (h8 : ∀ x ∈ l, x < 256) {t : Va} {nx m : Nat} (h : getR l 0 = .ok (t, nx, m)) : right t = true ∧ Ok 16 t ∧ 1 ≤ nx ∧ nx ≤ l.length ∧ l.take nx = enc 16 t := by
  unfold getR at h
  rw [if_neg (by omega)] at h
  obtain ⟨h1, h2, _, h4, h5⟩ := dec_back l h8 16 0 256 t nx m (Nat.zero_le _) h
  have h6 : l.take nx = enc 16 t := by simpa using h5
  refine ⟨by unfold right; rw [h1]; rfl, h2, ?_, h4, h6⟩
  rcases Nat.eq_zero_or_pos nx with h0 | h0
  · subst h0
    exact absurd h6.symm (by simpa using enc_pos 15 t)
  · exact h0
theorem enc_bytes16 : ∀ (L : Nat) (v : Va) (m m' : Nat), m ≤ 256 → rgt L v m = some m' → Ok L v → ∀ x ∈ enc L v, x < 256
  | 0, _, _, _, _, h, _, _, _ => by simp [rgt] at h
  | L + 1, .mk k n s l, m, m', hm, h, ok, x, hx => by
    obtain ⟨hk8, h0, h1, hs8, hl8⟩ := ok
    obtain ⟨m1, rfl, hc⟩ := rgt_cases h
    rcases hc with ⟨h1', h2, rfl⟩ | ⟨rfl, rfl, rfl, h4⟩
    · obtain ⟨rfl, hc⟩ := lf_cases h2
      rcases hc with ⟨rfl, rfl⟩ | ⟨rfl, rfl, hc⟩ | ⟨rfl, _, hs⟩ | ⟨rfl, rfl, _⟩
      · simp [enc] at hx
        rcases hx with rfl | hx
        · omega
        · exact varint_bytes _ (zz_lt n h0 h1) x hx
      · simp [enc] at hx
        rcases hx with rfl | rfl
        · omega
        · rcases hc with rfl | rfl <;> decide
      · simp [enc] at hx
        rcases hx with rfl | hx | hx
        · omega
        · exact varint_bytes _ (by omega) x hx
        · exact hs8 x hx
      · simp [enc] at hx
        rcases hx with rfl | hx
        · omega
        · exact varint_bytes _ (zz_lt n h0 h1) x hx
    · have hlen := foldlM_len l m1 m' h4
      rw [enc_tuple] at hx
      simp at hx
      rcases hx with rfl | hx | ⟨v, hv, hx⟩
      · omega
      · exact varint_bytes _ (by omega) x hx
      · have hall : ∀ (l : List Va) (m m' : Nat), m ≤ 256 → l.foldlM (fun m v => rgt L v m) m = some m' → ∀ v ∈ l, ∃ a b, a ≤ 256 ∧ rgt L v a = some b := by
          intro l
          induction l with
          | nil => intro _ _ _ _ v hv; simp at hv
          | cons y l ih =>
            intro m m' hm h v hv
            rw [List.foldlM_cons] at h
            cases hy : rgt L y m with
            | none => rw [hy] at h; simp at h
            | some m1 =>
              rw [hy] at h
              rcases List.mem_cons.1 hv with rfl | hv
              · exact ⟨m, m1, hm, hy⟩
              · exact ih m1 m' (by have := (rgt_rt L _ m m1 hy).2; omega) h v hv
        obtain ⟨a, b, ha, hab⟩ := hall l m1 m' (by omega) h4 v hv
        exact enc_bytes16 L v a b ha hab (hl8 v hv) x hx
theorem enc_bytes {t : Va} (hr : right t = true) (ok : Ok 16 t) : ∀ x ∈ enc 16 t, x < 256 := by
  obtain ⟨m, hm⟩ := right_rgt hr
  exact enc_bytes16 16 t 256 m (by omega) hm ok
theorem getR_put (p : List Nat) {t : Va} (q : List Nat) (hr : right t = true) (ok : Ok 16 t) : ∃ m, getR (p ++ enc 16 t ++ q) (p.length : Int) = .ok (t, p.length + (enc 16 t).length, m) := by
  obtain ⟨m, hm⟩ := right_rgt hr
  refine ⟨m, ?_⟩
  unfold getR
  rw [if_neg (by simp; omega)]
  exact dec_enc 16 _ t p q 256 m rfl (by omega) hm ok
end Go.Proofs.Ytjcefnlidophoaa
