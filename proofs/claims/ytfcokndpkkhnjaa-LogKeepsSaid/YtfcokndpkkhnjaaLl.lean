/- droverlaw05.built: the walk. -/
import Derived.Test.YtfcokndpkkhnjaaLk
import Derived.Test.YtfcokndpkkhnjaaBrw
import Derived.Test.YtfcokndpkkhnjaaAwake05
namespace Go.Proofs.Ytfcokndpkkhnjaa
open Go.RowKit

/-- The disk of a log of records, as 'built' leaves it. -/
def dOf (all : List (List Nat)) : Pd := ⟨1048576, lrecs all, (lrecs all).length, false, 0, false⟩
theorem addL_dOf (all : List (List Nat)) (x : List Nat) (hx : 1 ≤ x.length ∧ x.length ≤ 1048576) (h : ¬ 1048576 - (lrecs all).length < (lrec x).length) : addL (plOf all) (dOf all) x = (plOf (all ++ [x]), dOf (all ++ [x]), 0) := by
  rw [addL_ok _ _ _ hx rfl rfl rfl h]
  simp [plOf, dOf, lrecs_snoc]
/-- Which of the records 'built' takes. -/
def lok (x : List Nat) : Bool := decide (1 ≤ x.length ∧ x.length ≤ 100)
def ltake (ll : List (List Nat)) : List (List Nat) := (ll.take 30).filter lok
theorem ltake_snoc (ll : List (List Nat)) (j : Nat) (hj : j < ll.length) : (ll.take (j + 1)).filter lok = (ll.take j).filter lok ++ (if lok (ll.getD j []) = true then [ll.getD j []] else []) := by
  rw [List.take_succ_eq_append_getElem hj, List.filter_append]
  congr 1
  rw [List.filter_cons, List.filter_nil]
  simp [hj]
theorem lrecs_small (ll : List (List Nat)) (h : ∀ x ∈ ll, x.length ≤ 100) : (lrecs ll).length ≤ 108 * ll.length := by
  induction ll with
  | nil => simp [lrecs]
  | cons x l ih =>
    have h1 := h x (by simp)
    have h2 := ih (fun y hy => h y (List.mem_cons_of_mem _ hy))
    rw [lrecs_cons, List.length_append, lrec_length, List.length_cons]
    omega
/-- What is there of a log of records that were added. -/
structure Bt (w : World) (base p q : Nat) (r : Option Nat) (v : Value) (vs : List Value) (all : List (List Nat)) : Prop where
  lg : Lg w base p q r (dOf all) (plOf all)
  row : RowS w base r v vs all
theorem AtS.sxb {w w' : World} {base : Nat} {r : Option Nat} {A : Option Addr} {xs : List Value} (h : AtS w (Sx w base r) A xs) (hb : Below w.heap.size w w') : AtS w' (Sx w' base r) A xs :=
  h.keep (fun _ hz => hb.cell hz.lt) (fun b k => by
    rcases k with ⟨k1, k2⟩ | ⟨k1, k2, cur, fr, k3⟩
    · exact .inl ⟨k1, Nat.lt_of_lt_of_le k2 hb.size⟩
    · exact .inr ⟨k1, k2, cur, fr, heap_below k3 hb⟩)
/-- The piece at place j of an argument, in a later world. -/
theorem BRows.atx {w w' : World} {a : Option Addr} {n c : Nat} {ll : List (List Nat)} (h : BRows w a n c ll) (hb : Below w.heap.size w w') (base : Nat) (hbase : w.heap.size ≤ base) (j : Nat) (hj : j < n) :
    ∃ b o A k, a = some ⟨b, o, none⟩ ∧ w'.cell? ⟨b, o + j, none⟩ = some (.slice A (ll.getD j []).length k) ∧ Bs w' (.slice A (ll.getD j []).length k) (ll.getD j []) ∧ (ll.getD j []).length ≤ k ∧ ∀ r, AtS w' (Sx w' base r) A (bv (ll.getD j [])) := by
  obtain ⟨b, o, e, hlt, hr⟩ := h.row (by omega)
  obtain ⟨A, k, hc, hbs⟩ := hr j hj
  obtain ⟨-, hk, hat, -⟩ := id hbs.parts
  refine ⟨b, o, A, k, e, (hb.cell (p := ⟨b, o + j, none⟩) hlt).trans hc, hbs.below hb, hk, fun r hn => ?_⟩
  obtain ⟨b', o', e', hlt', hcell⟩ := (hat.below hb) hn
  exact ⟨b', o', e', .inl ⟨by omega, by have := hb.size; omega⟩, hcell⟩
set_option maxRecDepth 100000 in
set_option maxHeartbeats 1600000 in
theorem built_any (a0 : Option Addr) (n0 c0 : Nat) (ll : List (List Nat)) (W0 w : World) (hr : BRows W0 a0 n0 c0 ll) (hbw : Below W0.heap.size W0 w) :
    Calls Try.prog 34 #[.slice a0 n0 c0] w fun e w' => ∃ p q r A c vs, e = .returned (.tuple #[.pointer (some ⟨p, 0, none⟩), .pointer (some ⟨q, 0, none⟩), .slice A (ltake ll).length c, .bool true]) ∧ w.heap.size ≤ p ∧ w.heap.size ≤ q ∧
      (∀ g, r = some g → w.heap.size ≤ g) ∧ Bt w' w.heap.size p q r (.slice A (ltake ll).length c) vs (ltake ll) ∧ Below w.heap.size w w' := by
  have hll := hr.len
  have HR := Lib.hid hr
  obtain ⟨i0, hi0, hz0, hz1, hz2⟩ := info_parts blk_info
  have hws := hbw.size
  clear hr
  go_enter Try.func34, Try.ntmps34
  go_wp2_with fail
  refine (new_any 1048576 (by omega) w).mono ?_
  rintro e w1 ⟨rfl, hd1, hb1⟩
  obtain ⟨p, hp⟩ : ∃ p, p = w.heap.size := ⟨_, rfl⟩
  have hd1 : Dk w1 w.heap.size p none (.new 1048576) := by rw [hp]; exact hd1
  rw [← hp]
  have hpw : w.heap.size ≤ p := by omega
  clear hp
  go_wp2_with fail
  refine (open_any hd1).mono ?_
  rintro e w2 ⟨r2, hd2, hk2, hr2, hop⟩
  rw [open_new] at hd2 hop
  obtain ⟨A1, c1, q, m1, rfl, -, hm1, hmq1, -, hq1, -⟩ := hop
  have hb2 := hb1.trans (hd1.low hk2)
  have hg2 : Lg w2 w.heap.size p q r2 (dOf []) (plOf []) := ⟨hd2, hq1, by have := hb1.size; omega⟩
  clear hd1 hb1 hk2 hr2 hd2 hq1 hm1 hmq1
  go_wp2_with fail
  go_loopw [11, 12] (fun v i wr => ∃ (j : Nat) (all : List (List Nat)) (vs : List Value) (r : Option Nat), j ≤ n0 ∧ j ≤ 30 ∧ i = .int .i64 (j : Int) ∧ Hid (all = (ll.take j).filter lok) ∧ all.length ≤ j ∧ (lrecs all).length ≤ 108 * all.length ∧ Lg wr w.heap.size p q r (dOf all) (plOf all) ∧ RowS wr w.heap.size r v vs all ∧ Below w.heap.size w wr) (fun _ i _ => n0 - (intOf i).toNat)
  case atStart => exact ⟨0, [], [], r2, Nat.zero_le _, Nat.zero_le _, rfl, Lib.hid rfl, Nat.le_refl _, by simp [lrecs], hg2, RowS.nil _ _ _, hb2⟩
  case round =>
    clear hg2 hb2
    obtain ⟨j, all, vs, r, hj, hj30, rfl, HALL, hall, hlen, hg, hrow, hbr⟩ := hrel
    have hbW : Below W0.heap.size W0 wr := hbw.trans (hbr.mono hws)
    by_cases hgo : j < n0 ∧ j < 30
    · obtain ⟨hlt, h30⟩ := hgo
      have t1 : decide ((j : Int) < (n0 : Int)) = true := decide_eq_true (by omega)
      have t1' : decide (j < n0) = true := decide_eq_true hlt
      have t2 : decide ((j : Int) < 30) = true := decide_eq_true (by omega)
      have t2' : decide (j < 30) = true := decide_eq_true h30
      have x1 : (j : Int) < (n0 : Int) := by omega
      obtain ⟨b, o, A, c, rfl, cc0, hpc, hck, hax⟩ := HR.out.atx hbW w.heap.size hws j hlt
      have HS := Lib.hid (ltake_snoc ll j (by omega))
      obtain ⟨x, hx⟩ : ∃ x, x = ll.getD j [] := ⟨_, rfl⟩
      have HX := Lib.hid hx
      rw [← hx] at cc0 hpc hck hax HS
      rw [← HALL.out] at HS
      clear hx
      by_cases hlx : 1 ≤ x.length ∧ x.length ≤ 100
      · have hok : lok x = true := decide_eq_true hlx
        rw [hok, if_pos rfl] at HS
        obtain ⟨hl1, hl2⟩ := hlx
        have t3 : ((x.length : Int) == 0) = false := beq_eq_false_iff_ne.2 (by omega)
        have t4 : decide ((100 : Int) < (x.length : Int)) = false := decide_eq_false (by omega)
        have t4' : decide (100 < x.length) = false := decide_eq_false (by omega)
        have hyl := lrec_length x
        have HAdd := Lib.hid (add_any _ x hg hpc (by show all.length ≤ _; omega) (by show (lrecs all).length ≤ _; omega))
        rw [addL_dOf all x ⟨hl1, by omega⟩ (by omega)] at HAdd
        have hlen2 : (lrecs (all ++ [x])).length ≤ 108 * (all ++ [x]).length := by rw [lrecs_snoc, List.length_append, List.length_append, List.length_singleton]; omega
        have hal2 : (all ++ [x]).length ≤ j + 1 := by rw [List.length_append, List.length_singleton]; omega
        have hx8 := Lib.hid hpc.2
        clear hok hyl
        go_wp2_with fail
        refine HAdd.out.mono ?_
        rintro e w4 ⟨rfl, r4, hg4, hk4, hr4⟩
        have hbr4 := hbr.trans (hg.low_of hk4)
        have hbW4 : Below W0.heap.size W0 w4 := hbw.trans (hbr4.mono hws)
        have hrow4 := hrow.kl hg hk4 hr4
        clear HAdd hrow hg hk4 hr4 hbr cc0 hpc hbW hax
        dsimp only at hg4 ⊢
        obtain ⟨b', o', A', c', eb, cc0, hpc, hck, hax⟩ := HR.out.atx hbW4 w.heap.size hws j hlt
        obtain ⟨rfl, rfl⟩ : b = b' ∧ o = o' := by simpa using eb
        rw [← HX.out] at cc0 hpc hck hax
        have hax4 := hax r4
        have hlo4 := hg4.dk.base_le
        have hat4 : At (w4.alloc (.cells #[.slice A' x.length c'] 22)) (w4.heap.size + 1) (some ⟨w4.heap.size, 0, none⟩) [.slice A' x.length c'] := At.made w4 #[.slice A' x.length c'] 22
        have hal4 := (Below.refl w4.heap.size w4).alloc (Nat.le_refl _) (.cells #[.slice A' x.length c'] 22)
        have hrow4' := hrow4.below hal4
        have hax4' : AtS (w4.alloc (.cells #[.slice A' x.length c'] 22)) (Sx (w4.alloc (.cells #[.slice A' x.length c'] 22)) w.heap.size r4) A' (bv x) := hax4.sxb hal4
        go_wp2_with (first
          | (at_builtin
             refine wpList_append_at _ rfl (.tmp 64) (.tmp 69) 30 rfl w.heap.size 22 i0 _ 1 24 Try.underlying30 hi0 hz0 hz1 hz2 rfl (by omega) _ all.length vs rfl hrow4'.own (w4.heap.size + 1) _ 1 1 [.slice A' x.length c'] rfl hat4 rfl (by intro u hu; simp at hu; rw [hu]; rfl) (by unfold maxLen; omega) (by omega) (by simp; omega) ?_
             intro v5 w5 hown5 hg5 _)
          | (fail))
        have hg4' := hg4.below hal4
        have hb4 : Below w.heap.size w (w4.alloc (.cells #[.slice A' x.length c'] 22)) := hbr4.alloc hbr4.size _
        have hrow5 := hrow4'.snoc hown5 hg5 hax4' hck hx8.out
        have hbn : ∀ g, u11.ownBlock = some g → w.heap.size ≤ g := fun g hg => (row_block hrow4'.own hg).1
        have hb5 : Below w.heap.size w w5 := hb4.trans ((Below.refl _ _).grown hg5 (by simp; omega) hbn)
        have hg5' : Lg w5 w.heap.size p q r4 (dOf (all ++ [x])) (plOf (all ++ [x])) := by
          have hat := hg4'.at_
          refine ⟨hg4'.dk.grown hg5 (fun e => ?_) (fun g hg e => ?_), (hg5.block q (lt_heap hat) (fun e => ?_)).trans hat, hg4'.low⟩
          · obtain ⟨_, cur, k⟩ := row_block hrow4'.own e
            obtain ⟨cp, hcp⟩ := hg4'.dk.at_
            rw [hcp] at k
            have := Option.some.inj k
            simp at this
          · obtain ⟨_, cur, k⟩ := row_block hrow4'.own e
            exact hg4'.dk.row_ne k (by decide) hg
          · obtain ⟨_, cur, k⟩ := row_block hrow4'.own e.symm
            unfold LgAt at hat
            rw [hat] at k
            have := Option.some.inj k
            simp at this
        clear hrow4' hrow4 hown5 hg5 hax4 hax4' hat4 hal4 hg4 hg4' hb4 hbr4 hbn hax
        go_wp2_with fail
        go_roundw
        case rel => exact ⟨j + 1, all ++ [x], _, r4, by omega, by omega, by go_num, Lib.hid HS.out.symm, hal2, hlen2, hg5', hrow5, hb5⟩
        case measure => simp [intOf]; omega
      · have hok : lok x = false := decide_eq_false hlx
        rw [hok, if_neg (by decide), List.append_nil] at HS
        have hor : x.length = 0 ∨ 100 < x.length := by omega
        clear hlx hok
        rcases hor with h0 | h1
        · have t3 : ((x.length : Int) == 0) = true := by rw [h0]; rfl
          clear h0
          go_wp2_with fail
          go_roundw
          case rel => exact ⟨j + 1, all, vs, r, by omega, by omega, by go_num, Lib.hid HS.out.symm, by omega, hlen, hg, hrow, hbr⟩
          case measure => simp [intOf]; omega
        · have t3 : ((x.length : Int) == 0) = false := beq_eq_false_iff_ne.2 (by omega)
          have t4 : decide ((100 : Int) < (x.length : Int)) = true := decide_eq_true (by omega)
          have t4' : decide (100 < x.length) = true := decide_eq_true (by omega)
          go_wp2_with fail
          go_roundw
          case rel => exact ⟨j + 1, all, vs, r, by omega, by omega, by go_num, Lib.hid HS.out.symm, by omega, hlen, hg, hrow, hbr⟩
          case measure => simp [intOf]; omega
    · have hend : ltake ll = all := by
        rw [HALL.out]
        unfold ltake
        rcases (show (30 ≤ ll.length ∧ j = 30) ∨ (ll.length < 30 ∧ j = ll.length) ∨ j = ll.length by omega) with ⟨_, h⟩ | ⟨h1, h⟩ | h
        · rw [h]
        · rw [h, List.take_of_length_le (by omega), List.take_of_length_le (by omega)]
        · rw [h, List.take_of_length_le (by omega), List.take_of_length_le (by omega)]
      obtain ⟨A, c, rfl, hc⟩ := hrow.form
      have hql := hg.low
      have hrl : ∀ g, r = some g → w.heap.size ≤ g := fun g e => (hg.dk.row_lt e).1
      have HE := Lib.hid hend
      have hor : (j = n0) ∨ (j < n0 ∧ ¬ j < 30) := by omega
      clear hgo hend
      rcases hor with hjn | ⟨h1, h2⟩
      · have t1 : decide ((j : Int) < (n0 : Int)) = false := decide_eq_false (by omega)
        have t1' : decide (j < n0) = false := decide_eq_false (by omega)
        go_wp2_with fail
        refine bodyPost_ret (v := .tuple #[.pointer (some ⟨p, 0, none⟩), .pointer (some ⟨q, 0, none⟩), .slice A all.length c, .bool true]) (by simp [results, Try.results34, go_sem]) rfl ?_
        rw [HE.out]
        exact ⟨p, q, r, A, c, vs, rfl, hpw, hql, hrl, ⟨hg, hrow⟩, hbr⟩
      · have t1 : decide ((j : Int) < (n0 : Int)) = true := decide_eq_true (by omega)
        have t1' : decide (j < n0) = true := decide_eq_true h1
        have t2 : decide ((j : Int) < 30) = false := decide_eq_false (by omega)
        have t2' : decide (j < 30) = false := decide_eq_false h2
        go_wp2_with fail
        refine bodyPost_ret (v := .tuple #[.pointer (some ⟨p, 0, none⟩), .pointer (some ⟨q, 0, none⟩), .slice A all.length c, .bool true]) (by simp [results, Try.results34, go_sem]) rfl ?_
        rw [HE.out]
        exact ⟨p, q, r, A, c, vs, rfl, hpw, hql, hrl, ⟨hg, hrow⟩, hbr⟩
end Go.Proofs.Ytfcokndpkkhnjaa
