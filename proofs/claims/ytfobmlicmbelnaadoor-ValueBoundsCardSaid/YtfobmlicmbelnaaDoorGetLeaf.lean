/- drover/value.getLeaf: the walk. -/
import Derived.Test.YtfobmlicmbelnaaDoorGetv
import Derived.Test.YtfobmlicmbelnaaDoorBuf
namespace Go.Proofs.YtfobmlicmbelnaaDoor
open Go.RowKit

def zeroV : Value := .agg #[.int .u8 0, .int .i64 0, .string ⟨#[]⟩, .slice none 0 0]
def LfPost (r : Except Nat (Va × Nat)) (w : World) (e : Ending) (w' : World) : Prop := match r with
  | .error er => e = .returned (.tuple #[zeroV, .int .i64 0, .int .i64 ((er : Nat) : Int)]) ∧ Below w.heap.size w w'
  | .ok (t, nx) => ∃ x, e = .returned (.tuple #[x, .int .i64 ((nx : Nat) : Int), .int .i64 0]) ∧ (∀ S, RepS w' S x t) ∧ Below w.heap.size w w'
theorem leafRep {k : Nat} {n : Int} {s : List Nat} {w : World} (hk : k < 256) (hn0 : -9223372036854775808 ≤ n) (hn1 : n ≤ 9223372036854775807) (hs : ∀ y ∈ s, y < 256) (hsl : s.length ≤ 9223372036854775807) (S : Nat → Prop) :
    RepS w S (.agg #[.int .u8 (k : Int), .int .i64 n, .string (strOf s), .slice none 0 0]) (.mk k n s []) :=
  (RepsS.nil w S none).mk (l := []) (c := 0) hk hn0 hn1 hs hsl (by simp) (by omega)
theorem strOf_nil : strOf [] = ⟨#[]⟩ := rfl

set_option maxRecDepth 100000 in
set_option maxHeartbeats 800000 in
theorem getleaf_any (v : Value) (l : List Nat) (at_ : Nat) (w : World) (h : Bs w v l) (hn : l.length ≤ 1099511627776) (hat : at_ < l.length) :
    Calls Tryd.prog 50 #[v, .int .i64 (at_ : Int)] w (LfPost (dlf l at_) w) := by
  have h0 := h
  obtain ⟨⟨A, c, rfl, hc', ha⟩, h8⟩ := h
  obtain ⟨b, o, rfl, hb, hcell⟩ := ha.byte (by intro h0; subst h0; simp at hat)
  have c0 := hcell at_ hat
  have hx8 : l.getD at_ 0 < 256 := by
    have := h8 (l[at_]) (List.getElem_mem hat)
    simpa [hat] using this
  have H8 := Lib.hid h8
  have HC := Lib.hid hcell
  have HD : Hid (dlf l at_ = dlf l at_) := rfl
  clear hcell h8
  have hu := gu_bounds l (at_ + 1) (by omega)
  have two3 : ∀ o o' : Obj, Below w.heap.size w ((w.alloc o).alloc o') := fun o o' => ((Below.refl _ _).alloc (Nat.le_refl _) o).alloc (by simp) o'
  by_cases k1 : l.getD at_ 0 = 1
  · have HR : Hid (dlf l at_ = if (gu l (at_ + 1)).2.2 = 0 then .ok (.mk 1 (un (gu l (at_ + 1)).1) [] [], (gu l (at_ + 1)).2.1) else .error (gu l (at_ + 1)).2.2) := by
      show _ = _
      rw [dlf, if_pos k1]
    rw [k1] at c0
    generalize dlf l at_ = R at *
    have HU := Lib.hid hu
    clear hu
    go_enter Tryd.func50, Tryd.ntmps50
    go_wp2_with fail
    refine (getint_bs _ l (at_ + 1) _ (h0.below (two3 _ _)) hn (by omega)).mono ?_
    rintro e w1 ⟨rfl, rfl⟩
    generalize gu l (at_ + 1) = r at *
    obtain ⟨x, k, er⟩ := r
    dsimp only at *
    obtain ⟨hx, he0, hk⟩ := HU.out
    have hub := un_bounds x hx
    by_cases he : er = 0
    · subst he
      have HR2 : Hid (R = .ok (.mk 1 (un x) [] [], k)) := by rw [HR.out, if_pos rfl]; rfl
      clear HR he0 hk HU
      generalize un x = u at *
      go_wp2_with fail
      refine bodyPost_ret (v := .tuple #[.agg #[.int .u8 1, .int .i64 u, .string ⟨#[]⟩, .slice none 0 0], .int .i64 (k : Int), .int .i64 0]) (by simp [results, Tryd.results50, go_sem]) rfl ?_
      rw [HR2.out]
      exact ⟨_, rfl, fun S => leafRep (k := 1) (s := []) (by omega) hub.1 hub.2 (by simp) (by simp) S, two3 _ _⟩
    · have HR2 : Hid (R = .error er) := by rw [HR.out, if_neg he]; rfl
      have g1 : ((er : Int) == 0) = false := by simp; omega
      have g2 : ((er : Int) != 0) = true := by simp; omega
      clear HR hk HU he he0
      generalize un x = u at *
      go_wp2_with fail
      refine bodyPost_ret (v := .tuple #[.agg #[.int .u8 0, .int .i64 0, .string ⟨#[]⟩, .slice none 0 0], .int .i64 0, .int .i64 (er : Int)]) (by simp [results, Tryd.results50, go_sem]) rfl ?_
      rw [HR2.out]
      exact ⟨rfl, two3 _ _⟩
  · by_cases k2 : l.getD at_ 0 = 2
    · have HG : Hid (dlf l at_ = if (gt l (at_ + 1)).2.2 = 0 then .ok (.mk 2 ((gt l (at_ + 1)).1 : Nat) [] [], (gt l (at_ + 1)).2.1) else .error (gt l (at_ + 1)).2.2) := by
        show _ = _
        rw [dlf, if_neg k1, if_pos k2, gt]
        by_cases h1 : at_ + 1 = l.length
        · rw [if_pos h1, if_pos h1, if_neg (by simp)]
        · rw [if_neg h1, if_neg h1]
          by_cases h2 : 1 < l.getD (at_ + 1) 0
          · rw [if_pos h2, if_pos h2, if_neg (by simp)]
          · rw [if_neg h2, if_neg h2, if_pos rfl]
      have hle : (gt l (at_ + 1)).1 ≤ 1 := by
        rw [gt]
        split
        · simp
        · split
          · simp
          · dsimp only; omega
      rw [k2] at c0
      generalize dlf l at_ = R at *
      clear hu k1
      go_enter Tryd.func50, Tryd.ntmps50
      go_wp2_with fail
      refine (gettruth_any _ l (at_ + 1) _ (h0.below (two3 _ _)) hn (by omega)).mono ?_
      rintro e w1 ⟨rfl, rfl⟩
      generalize gt l (at_ + 1) = r at *
      obtain ⟨x, k, er⟩ := r
      dsimp only at *
      by_cases he : er = 0
      · subst he
        have HR2 : Hid (R = .ok (.mk 2 (x : Int) [] [], k)) := by rw [HG.out, if_pos rfl]; rfl
        clear HG
        go_wp2_with fail
        refine bodyPost_ret (v := .tuple #[.agg #[.int .u8 2, .int .i64 (x : Int), .string ⟨#[]⟩, .slice none 0 0], .int .i64 (k : Int), .int .i64 0]) (by simp [results, Tryd.results50, go_sem]) rfl ?_
        rw [HR2.out]
        exact ⟨_, rfl, fun S => leafRep (k := 2) (s := []) (by omega) (by omega) (by omega) (by simp) (by simp) S, two3 _ _⟩
      · have HR2 : Hid (R = .error er) := by rw [HG.out, if_neg he]; rfl
        have g1 : ((er : Int) == 0) = false := by simp; omega
        have g2 : ((er : Int) != 0) = true := by simp; omega
        clear HG he
        go_wp2_with fail
        refine bodyPost_ret (v := .tuple #[.agg #[.int .u8 0, .int .i64 0, .string ⟨#[]⟩, .slice none 0 0], .int .i64 0, .int .i64 (er : Int)]) (by simp [results, Tryd.results50, go_sem]) rfl ?_
        rw [HR2.out]
        exact ⟨rfl, two3 _ _⟩
    · by_cases k3 : l.getD at_ 0 = 3
      · have HG : Hid (dlf l at_ = if (gb l (at_ + 1) 4096).2.2 = 0 then .ok (.mk 3 0 (gb l (at_ + 1) 4096).1 [], (gb l (at_ + 1) 4096).2.1) else .error (gb l (at_ + 1) 4096).2.2) := by
          show _ = _
          rw [dlf, if_neg k1, if_neg k2, if_pos k3]
        have hle : ∀ x ∈ (gb l (at_ + 1) 4096).1, x < 256 := gus_mem _ l (at_ + 1) 4096 H8.out rfl
        have hl4 : (gb l (at_ + 1) 4096).1.length ≤ l.length := by
          unfold gb
          split
          · simp
          · split
            · simp
            · split
              · simp
              · dsimp only
                simp
                omega
        rw [k3] at c0
        generalize dlf l at_ = R at *
        have HLE := Lib.hid hle
        clear hu k1 k2 hle
        go_enter Tryd.func50, Tryd.ntmps50
        go_wp2_with fail
        refine (getblob_bs _ l (at_ + 1) 4096 _ (h0.below (two3 _ _)) hn (by omega) (by omega) (by omega)).mono ?_
        rintro e w1 ⟨v1, rfl, _, hv1, hb1⟩
        generalize gb l (at_ + 1) 4096 = r at *
        obtain ⟨x, k, er⟩ := r
        dsimp only at *
        obtain ⟨⟨A1, cp1, rfl, hcp1, ha1⟩, h81⟩ := hv1
        have kc := run_strOf w1 _ A1 cp1 x ha1 h81
        have hb2 : Below w.heap.size w w1 := nxt (two3 _ _) hb1
        have q1 : w1.heap[w.heap.size]? = some (.cells #[.int .u8 0, .int .i64 0, .string ⟨#[]⟩, .slice none 0 0] 25 (0, 0)) := heap_below (heap_old (heap_new _ _) _) hb1
        have q2 : w1.heap[w.heap.size + 1]? = some (.cells #[.int .u8 3, .int .i64 0, .string ⟨#[]⟩, .slice none 0 0] 25 (0, 0)) := heap_below (heap_new' _ _ _ (by simp)) hb1
        obtain ⟨p0, p1, p2, p3⟩ := box4 q1
        obtain ⟨r0, r1, r2, r3⟩ := box4 q2
        have f0 : w1.frozen? ⟨w.heap.size, 0, none⟩ = false := Lib.frozen_of_heap q1 0
        have f1 : w1.frozen? ⟨w.heap.size, 1, none⟩ = false := Lib.frozen_of_heap q1 1
        have f2 : w1.frozen? ⟨w.heap.size, 2, none⟩ = false := Lib.frozen_of_heap q1 2
        have f3 : w1.frozen? ⟨w.heap.size, 3, none⟩ = false := Lib.frozen_of_heap q1 3
        have f4 : w1.frozen? ⟨w.heap.size + 1, 2, none⟩ = false := Lib.frozen_of_heap q2 2
        clear hb1 ha1 h81
        by_cases he : er = 0
        · subst he
          have HR2 : Hid (R = .ok (.mk 3 0 x [], k)) := by rw [HG.out, if_pos rfl]; rfl
          clear HG
          go_wp2_with fail
          refine bodyPost_ret (v := .tuple #[.agg #[.int .u8 3, .int .i64 0, .string (strOf x), .slice none 0 0], .int .i64 (k : Int), .int .i64 0]) (by simp [results, Tryd.results50, go_sem, p0, p1, p2, p3]) rfl ?_
          rw [HR2.out]
          exact ⟨_, rfl, fun S => leafRep (k := 3) (s := x) (by omega) (by omega) (by omega) HLE.out (by omega) S, ((((hb2.setCell (by simp) _).setCell (by simp) _).setCell (by simp) _).setCell (by simp) _).setCell (by simp) _⟩
        · have HR2 : Hid (R = .error er) := by rw [HG.out, if_neg he]; rfl
          have g1 : ((er : Int) == 0) = false := by simp; omega
          have g2 : ((er : Int) != 0) = true := by simp; omega
          clear HG he
          go_wp2_with fail
          refine bodyPost_ret (v := .tuple #[.agg #[.int .u8 0, .int .i64 0, .string ⟨#[]⟩, .slice none 0 0], .int .i64 0, .int .i64 (er : Int)]) (by simp [results, Tryd.results50, go_sem, p0, p1, p2, p3]) rfl ?_
          rw [HR2.out]
          exact ⟨rfl, ((((hb2.setCell (by simp) _).setCell (by simp) _).setCell (by simp) _).setCell (by simp) _).setCell (by simp) _⟩
      · by_cases k5 : l.getD at_ 0 = 5
        · have HG : Hid (dlf l at_ = if (ga l (at_ + 1)).2.2 = 0 then .ok (.mk 5 (ga l (at_ + 1)).1 [] [], (ga l (at_ + 1)).2.1) else .error (ga l (at_ + 1)).2.2) := by
            show _ = _
            rw [dlf, if_neg k1, if_neg k2, if_neg k3, if_pos k5, ga]
            by_cases h1 : (gu l (at_ + 1)).2.2 = 0
            · rw [if_pos h1, if_neg (show ¬ (gu l (at_ + 1)).2.2 ≠ 0 from fun h => h h1)]
              by_cases h2 : un (gu l (at_ + 1)).1 < 0
              · rw [if_pos h2, if_pos h2, if_neg (by simp)]
              · rw [if_neg h2, if_neg h2, if_pos rfl]
            · rw [if_neg h1, if_pos h1, if_neg h1]
          have hle : -9223372036854775808 ≤ (ga l (at_ + 1)).1 ∧ (ga l (at_ + 1)).1 ≤ 9223372036854775807 := by
            have hb := un_bounds _ hu.1
            rw [ga]
            split
            · dsimp only; omega
            · split
              · dsimp only; omega
              · exact hb
          rw [k5] at c0
          generalize dlf l at_ = R at *
          clear hu k1 k2 k3
          go_enter Tryd.func50, Tryd.ntmps50
          go_wp2_with fail
          refine (getactor_any _ l (at_ + 1) _ (h0.below (two3 _ _)) hn (by omega)).mono ?_
          rintro e w1 ⟨rfl, rfl⟩
          generalize ga l (at_ + 1) = r at *
          obtain ⟨x, k, er⟩ := r
          dsimp only at *
          by_cases he : er = 0
          · subst he
            have HR2 : Hid (R = .ok (.mk 5 x [] [], k)) := by rw [HG.out, if_pos rfl]; rfl
            clear HG
            go_wp2_with fail
            refine bodyPost_ret (v := .tuple #[.agg #[.int .u8 5, .int .i64 x, .string ⟨#[]⟩, .slice none 0 0], .int .i64 (k : Int), .int .i64 0]) (by simp [results, Tryd.results50, go_sem]) rfl ?_
            rw [HR2.out]
            exact ⟨_, rfl, fun S => leafRep (k := 5) (s := []) (by omega) hle.1 hle.2 (by simp) (by simp) S, two3 _ _⟩
          · have HR2 : Hid (R = .error er) := by rw [HG.out, if_neg he]; rfl
            have g1 : ((er : Int) == 0) = false := by simp; omega
            have g2 : ((er : Int) != 0) = true := by simp; omega
            clear HG he
            go_wp2_with fail
            refine bodyPost_ret (v := .tuple #[.agg #[.int .u8 0, .int .i64 0, .string ⟨#[]⟩, .slice none 0 0], .int .i64 0, .int .i64 (er : Int)]) (by simp [results, Tryd.results50, go_sem]) rfl ?_
            rw [HR2.out]
            exact ⟨rfl, two3 _ _⟩
        · have HR2 : Hid (dlf l at_ = .error 10) := by
            show _ = _
            rw [dlf, if_neg k1, if_neg k2, if_neg k3, if_neg k5]
          generalize dlf l at_ = R at *
          generalize l.getD at_ 0 = x at *
          have g1 : ((x : Int) == 1) = false := beq_eq_false_iff_ne.2 (by omega)
          have g2 : ((x : Int) == 2) = false := beq_eq_false_iff_ne.2 (by omega)
          have g3 : ((x : Int) == 3) = false := beq_eq_false_iff_ne.2 (by omega)
          have g5 : ((x : Int) == 5) = false := beq_eq_false_iff_ne.2 (by omega)
          clear hu k1 k2 k3 k5
          go_enter Tryd.func50, Tryd.ntmps50
          go_wp2_with fail
          refine bodyPost_ret (v := .tuple #[.agg #[.int .u8 0, .int .i64 0, .string ⟨#[]⟩, .slice none 0 0], .int .i64 0, .int .i64 10]) (by simp [results, Tryd.results50, go_sem]) rfl ?_
          rw [HR2.out]
          exact ⟨rfl, two3 _ _⟩
end Go.Proofs.YtfobmlicmbelnaaDoor
