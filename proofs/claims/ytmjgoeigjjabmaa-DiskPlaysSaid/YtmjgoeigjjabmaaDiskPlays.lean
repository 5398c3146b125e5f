/- droverlaw04.DiskPlays returns true whatever its arguments: through any script every answer, the bytes and the power are as the document defines. For every input, without conditions. -/
import Derived.Test.YtmjgoeigjjabmaaRow
import Derived.Test.YtmjgoeigjjabmaaAwake04
import Derived.Test.YtmjgoeigjjabmaaPlayed
import Derived.Test.YtmjgoeigjjabmaaDl
import Derived.Test.YtmjgoeigjjabmaaRef04
import Derived.Deep.CutBlock
namespace Go.Proofs.Ytmjgoeigjjabmaa.diskPlays
open Go.ChangeShapes Go.WideShapes Go.ChangeAt Go.RowKit
set_option linter.unusedVariables false

theorem beside_ref {w w' : World} {base p : Nat} {r : Option Nat} {d d' : Pd} {A : Option Addr} {c : Nat} {v' : Value} (h : Beside w base p r d' (.slice A d.bs.length c) d.bs) (hb : Below w.heap.size w w') (hv : Rv w w' A c d d' v') :
    ∃ A' c', v' = .agg #[.int .i64 (d'.most : Int), .slice A' d'.bs.length c', .int .i64 (d'.syn : Int), .int .i64 d'.num, .bool d'.down] ∧ Beside w' base p r d' (.slice A' d'.bs.length c') d'.bs := by
  obtain ⟨_, A', c', rfl, ⟨rfl, rfl, e⟩ | ho⟩ := hv
  · refine ⟨A', c', rfl, ?_⟩
    rw [e]
    exact h.below hb
  · exact ⟨A', c', rfl, h.new hb ho⟩
theorem beside_far {w w' : World} {base p g : Nat} {r : Option Nat} {d : Pd} {v : Value} {l : List Nat} {cs : Array Value} {T : TypeId} (h : Beside w base p r d v l) (hk : Kr g none w w') (hg : w.heap[g]? = some (.cells cs T (0, 0))) (hT : T ≠ 5) (hne : p ≠ g) : Beside w' base p r d v l :=
  ⟨h.dk.other hk hne (by simp) (h.dk.row_ne hg hT) (by simp), own_kr h.own hk (own_ne h.own hg hT) (by simp), h.sep⟩
abbrev rcells (d : Pd) (A : Option Addr) (c : Nat) : Obj := .cells #[.int .i64 (d.most : Int), .slice A d.bs.length c, .int .i64 (d.syn : Int), .int .i64 d.num, .bool d.down] 38 (0, 0)

set_option maxRecDepth 100000 in
set_option maxHeartbeats 60000000 in
theorem walk (w : World) (a0 : Int) (a1 : Option Addr) (n1 c1 : Nat) (w0 : (Lit.int .i64 a0).wf = true) (w1 : ∃ l, l.length = n1 ∧ n1 ≤ c1 ∧ c1 ≤ maxLen ∧ Ops w w.heap.size a1 l) :
    Calls Try.prog 4 #[.int .i64 a0, .slice a1 n1 c1] w fun e w' => e = .returned (.bool true) ∧ Below w.heap.size w w' := by
  obtain ⟨h00, h01⟩ := wf_i64 w0
  obtain ⟨l, hl, hc, hcm, hops⟩ := w1
  subst hl
  have HO := Lib.hid hops
  clear hops w0
  go_enter Try.func4, Try.ntmps4
  go_upto_if 16 with (fail)
  go_cut [0] (fun s wx => ∃ m : Int, s = .int .i64 m ∧ -9223372036854775808 ≤ m ∧ m ≤ 67108864 ∧ w = wx)
  case first =>
    by_cases hbig : 67108864 < a0
    · have t0 : decide ((67108864 : Int) < a0) = true := decide_eq_true hbig
      go_wp2_with fail
      go_meet
      exact ⟨_, rfl, by omega, by omega, rfl⟩
    · have t0 : decide ((67108864 : Int) < a0) = false := decide_eq_false hbig
      go_wp2_with fail
      go_meet
      exact ⟨_, rfl, by omega, by omega, rfl⟩
  case rest =>
  obtain ⟨m, rfl, hm0, hm1, rfl⟩ := hcut
  by_cases hneg : m < 0
  · go_wp2_with fail
    refine (new_not m (.inl hneg) w).mono ?_
    rintro e w1 ⟨rfl, rfl⟩
    go_wp2_with fail
    refine (refnew_not m (.inl hneg) w).mono ?_
    rintro e w1 ⟨rfl, hb1⟩
    have hb1' := hb1.alloc hb1.size (.cells #[.int .i64 0, .slice none 0 0, .int .i64 0, .int .i64 0, .bool false] 38)
    go_wp2_with fail
    refine (awake_any _).mono ?_
    rintro e w2 ⟨rfl, hb2⟩
    go_wp2_with fail
    go_ret
    exact ⟨rfl, nxt hb1' hb2⟩
  obtain ⟨k, rfl⟩ : ∃ k : Nat, m = (k : Int) := ⟨m.toNat, by omega⟩
  have hk : k ≤ 67108864 := by omega
  clear hm0 hm1 hneg h00 h01
  go_wp2_with fail
  refine (new_any k hk w).mono ?_
  rintro e w1 ⟨rfl, hd1, hb1⟩
  obtain ⟨p, hp⟩ : ∃ p, p = w.heap.size := ⟨_, rfl⟩
  have hd1 : Dk w1 w.heap.size p none (.new k) := by rw [hp]; exact hd1
  rw [← hp]
  have HP := Lib.hid hp
  clear hp
  go_wp2_with fail
  refine (refnew_any k hk w1).mono ?_
  rintro e w2 ⟨v2, rfl, hv2, hb2⟩
  have hbs1 : Beside w1 w.heap.size p none (.new k) (.slice none (Pd.new k).bs.length 0) (Pd.new k).bs := ⟨hd1, Own.nil _ _, fun g e => by cases e⟩
  obtain ⟨A, c, rfl, hbs2⟩ := beside_ref hbs1 hb2 hv2
  have hbw2 := nxt hb1 hb2
  generalize Pd.new k = d at *
  clear hd1 hbs1 hv2 hb1 hb2
  obtain ⟨g, hg⟩ : ∃ g, g = w2.heap.size := ⟨_, rfl⟩
  obtain ⟨X, hX⟩ : ∃ X, X = w2.alloc (rcells d A c) := ⟨_, rfl⟩
  have hbox : X.heap[g]? = some (rcells d A c) := by rw [hX, hg]; exact heap_new _ _
  have hbsX : Beside X w.heap.size p none d (.slice A d.bs.length c) d.bs := by rw [hX]; exact hbs2.below ((Below.refl _ _).alloc (Nat.le_refl _) _)
  have hbX : Below w.heap.size w X := by rw [hX]; exact hbw2.alloc hbw2.size _
  have hgp : p ≠ g := by have := hbs2.dk.lt; omega
  have hgw : w.heap.size ≤ g := by have := hbw2.size; omega
  go_upto_region 5 with fail
  rw [← hX, ← hg]
  clear hX hg hbs2 hbw2
  go_wp2_with fail
  go_loopw [9] (fun i wr => ∃ (j : Nat) (r : Option Nat) (d : Pd) (A : Option Addr) (c : Nat), j ≤ l.length ∧ j ≤ 60 ∧ i = .int .i64 (j : Int) ∧ Beside wr w.heap.size p r d (.slice A d.bs.length c) d.bs ∧ wr.heap[g]? = some (rcells d A c) ∧ Below w.heap.size w wr) (fun i _ => l.length - (intOf i).toNat)
  case atStart => exact ⟨0, none, d, A, c, Nat.zero_le _, Nat.zero_le _, rfl, hbsX, hbox, hbX⟩
  case round =>
    clear hbsX hbox hbX
    obtain ⟨j, r, d, A, c, hj, hj60, rfl, hbs, hbox, hbr⟩ := hrel
    by_cases hgo : j < l.length ∧ j < 60
    · obtain ⟨hlt, h60⟩ := hgo
      have t1 : decide ((j : Int) < (l.length : Int)) = true := decide_eq_true (by omega)
      have t2 : decide ((j : Int) < 60) = true := decide_eq_true (by omega)
      obtain ⟨b, o, Ax, cx, rfl, c0, c1, c2, hop⟩ := HO.out.at hbr j hlt
      generalize l[j] = x at *
      by_cases h200 : 200 < x.b.length
      · have t3 : decide ((200 : Int) < (x.b.length : Int)) = true := decide_eq_true (by omega)
        go_wp2_with fail
        go_roundw
        case rel => exact ⟨j + 1, r, d, A, c, by omega, by omega, by go_num, hbs.below ((Below.refl _ _).alloc (Nat.le_refl _) _), heap_old hbox _, hbr.alloc hbr.size _⟩
        case measure => simp [intOf]; omega
      have t3 : decide ((200 : Int) < (x.b.length : Int)) = false := decide_eq_false (by omega)
      obtain ⟨Q, hQ⟩ : ∃ Q, Q = wr.heap.size := ⟨_, rfl⟩
      obtain ⟨W, hW⟩ : ∃ W, W = wr.alloc (.cells #[.int .i64 x.k, .int .i64 x.n, .slice Ax x.b.length cx] 42) := ⟨_, rfl⟩
      have hrW : Below wr.heap.size wr W := by rw [hW]; exact (Below.refl _ _).alloc (Nat.le_refl _) _
      have qW : W.heap[Q]? = some (.cells #[.int .i64 x.k, .int .i64 x.n, .slice Ax x.b.length cx] 42 (0, 0)) := by rw [hW, hQ]; exact heap_new _ _
      have hQg : Q ≠ g := by have := lt_heap hbox; omega
      have hQp : p ≠ Q := by have := hbs.dk.lt; omega
      have hbsW := hbs.below hrW
      have hboxW := heap_below hbox hrW
      have hbW := nxt hbr hrW
      have HV : Hid (∀ w', Below w.heap.size wr w' → Bs w' (.slice Ax x.b.length cx) x.b) := by
        intro w' hb
        obtain ⟨A', c', e1, e2, e3, e4, e5, e6, -⟩ := hop.under hb
        injection e3 with e7 e8 e9
        subst e7 e9
        exact Bs.of_at (e5.more (Nat.le_trans hbr.size hb.size)) rfl e4 e6
      have hrel2 : Below w.heap.size wr W := hrW.mono hbr.size
      obtain ⟨hn0, hn1⟩ : -9223372036854775808 ≤ x.n ∧ x.n ≤ 9223372036854775807 := by
        obtain ⟨_, _, _, _, _, _, _, _, _, _, h1, h2⟩ := hop
        exact ⟨h1, h2⟩
      go_upto_region 12 with fail
      rw [← hW, ← hQ]
      clear hW hQ hrW hbs hbox c0 c1 c2 hop hbr
      obtain ⟨⟨b0, b1, b2, b3, b4⟩, ⟨f0, f1, f2, f3, f4⟩⟩ := box5 hboxW
      have q0 := cell_block qW 0
      have q1 := cell_block qW 1
      have q2 := cell_block qW 2
      go_upto_block 2 with fail
      go_cut [11, 12] (fun y1 y2 wx => ∃ (z : Nat) (r2 : Option Nat) (d' : Pd) (A' : Option Addr) (c' : Nat), y1 = .int .i64 (z : Int) ∧ y2 = .int .i64 (z : Int) ∧ Beside wx w.heap.size p r2 d' (.slice A' d'.bs.length c') d'.bs ∧ wx.heap[g]? = some (rcells d' A' c') ∧ Below w.heap.size w wx)
      case first =>
        by_cases h1 : x.k = 1
        · have u1 : (x.k == 1) = true := by rw [h1]; rfl
          clear h1
          go_wp2_with fail
          refine (append_any _ x.b hbsW.dk (HV.out W hrel2)).mono ?_
          rintro e w2 ⟨rfl, ha2⟩
          obtain ⟨r2, hbs2, hk2⟩ := hbsW.disk ha2
          have hlow := hbsW.dk.low hk2
          have hb2 := hbW.trans hlow
          have hrel3 := hrel2.trans hlow
          have hbox2 := hk2.heap hboxW (fun e => hgp e.symm) (hbsW.dk.row_ne hboxW (by decide))
          have hq2 := hk2.heap qW (fun e => hQp e.symm) (hbsW.dk.row_ne qW (by decide))
          have hokd := hbsW.dk.ok
          have hvd := Bs.of_own hbs2.own hokd.byte
          have hvx := HV.out w2 hrel3
          clear b0 b1 b2 b3 b4 f0 f1 f2 f3 f4 q0 q1 q2 ha2 hk2 hlow hbsW hbW hrel2 hrel3 hboxW qW
          obtain ⟨⟨b0, b1, b2, b3, b4⟩, -⟩ := box5 hbox2
          have q0 := cell_block hq2 0
          have q1 := cell_block hq2 1
          have q2 := cell_block hq2 2
          go_wp2_with fail
          refine (refapp_any A c _ d x.b w2 hokd hvd hvx (by omega)).mono ?_
          rintro e w3 ⟨v3, rfl, hv3, hb3⟩
          obtain ⟨A', c', rfl, hbs3⟩ := beside_ref hbs2 hb3 hv3
          have hbox3 := heap_below hbox2 hb3
          have hbw3 := nxt hb2 hb3
          clear hvd hvx hv3 hbs2 hb2 hbox2 hq2 hokd b0 b1 b2 b3 b4 q0 q1 q2
          generalize (d.app x.b).1 = d' at *
          generalize (d.app x.b).2 = z at *
          obtain ⟨⟨b0, b1, b2, b3, b4⟩, ⟨f0, f1, f2, f3, f4⟩⟩ := box5 hbox3
          obtain ⟨X, hX⟩ : ∃ X, X = ((((w3.setCell ⟨g, 0, none⟩ (.int .i64 (d'.most : Int))).setCell ⟨g, 1, none⟩ (.slice A' d'.bs.length c')).setCell ⟨g, 2, none⟩ (.int .i64 (d'.syn : Int))).setCell ⟨g, 3, none⟩ (.int .i64 d'.num)).setCell ⟨g, 4, none⟩ (.bool d'.down) := ⟨_, rfl⟩
          have hboxX : X.heap[g]? = some (rcells d' A' c') := by rw [hX]; exact set5 hbox3 _ _ _ _ _
          have hbX : Below w.heap.size w X := by rw [hX]; exact bel5 hbw3 hgw _ _ _ _ _
          have hbsX : Beside X w.heap.size p r2 d' (.slice A' d'.bs.length c') d'.bs := by
            rw [hX]
            exact beside_far hbs3 ((((((Kr.refl g none w3).set 0 _).set 1 _).set 2 _).set 3 _).set 4 _) hbox3 (by decide) hgp
          go_wp2_with fail
          rw [← hX]
          clear hX hbs3 hbox3 hbw3 b0 b1 b2 b3 b4 f0 f1 f2 f3 f4 hb3
          go_meet
          exact ⟨z, r2, d', A', c', rfl, rfl, hbsX, hboxX, hbX⟩
        have u1 : (x.k == 1) = false := beq_eq_false_iff_ne.2 h1
        by_cases h2 : x.k = 2
        · have u2 : (x.k == 2) = true := by rw [h2]; rfl
          clear h2
          go_wp2_with fail
          refine (append_any _ x.b hbsW.dk (HV.out W hrel2)).mono ?_
          rintro e w2 ⟨rfl, ha2⟩
          obtain ⟨r2, hbs2, hk2⟩ := hbsW.disk ha2
          have hlow := hbsW.dk.low hk2
          have hb2 := hbW.trans hlow
          have hrel3 := hrel2.trans hlow
          have hbox2 := hk2.heap hboxW (fun e => hgp e.symm) (hbsW.dk.row_ne hboxW (by decide))
          have hq2 := hk2.heap qW (fun e => hQp e.symm) (hbsW.dk.row_ne qW (by decide))
          have hokd := hbsW.dk.ok
          have hvd := Bs.of_own hbs2.own hokd.byte
          have hvx := HV.out w2 hrel3
          clear b0 b1 b2 b3 b4 f0 f1 f2 f3 f4 q0 q1 q2 ha2 hk2 hlow hbsW hbW hrel2 hrel3 hboxW qW
          obtain ⟨⟨b0, b1, b2, b3, b4⟩, -⟩ := box5 hbox2
          have q0 := cell_block hq2 0
          have q1 := cell_block hq2 1
          have q2 := cell_block hq2 2
          go_wp2_with fail
          refine (refapp_any A c _ d x.b w2 hokd hvd hvx (by omega)).mono ?_
          rintro e w3 ⟨v3, rfl, hv3, hb3⟩
          obtain ⟨A', c', rfl, hbs3⟩ := beside_ref hbs2 hb3 hv3
          have hbox3 := heap_below hbox2 hb3
          have hbw3 := nxt hb2 hb3
          clear hvd hvx hv3 hbs2 hb2 hbox2 hq2 hokd b0 b1 b2 b3 b4 q0 q1 q2
          generalize (d.app x.b).1 = d' at *
          generalize (d.app x.b).2 = z at *
          obtain ⟨⟨b0, b1, b2, b3, b4⟩, ⟨f0, f1, f2, f3, f4⟩⟩ := box5 hbox3
          obtain ⟨X, hX⟩ : ∃ X, X = ((((w3.setCell ⟨g, 0, none⟩ (.int .i64 (d'.most : Int))).setCell ⟨g, 1, none⟩ (.slice A' d'.bs.length c')).setCell ⟨g, 2, none⟩ (.int .i64 (d'.syn : Int))).setCell ⟨g, 3, none⟩ (.int .i64 d'.num)).setCell ⟨g, 4, none⟩ (.bool d'.down) := ⟨_, rfl⟩
          have hboxX : X.heap[g]? = some (rcells d' A' c') := by rw [hX]; exact set5 hbox3 _ _ _ _ _
          have hbX : Below w.heap.size w X := by rw [hX]; exact bel5 hbw3 hgw _ _ _ _ _
          have hbsX : Beside X w.heap.size p r2 d' (.slice A' d'.bs.length c') d'.bs := by
            rw [hX]
            exact beside_far hbs3 ((((((Kr.refl g none w3).set 0 _).set 1 _).set 2 _).set 3 _).set 4 _) hbox3 (by decide) hgp
          go_wp2_with fail
          rw [← hX]
          clear hX hbs3 hbox3 hbw3 b0 b1 b2 b3 b4 f0 f1 f2 f3 f4 hb3
          go_meet
          exact ⟨z, r2, d', A', c', rfl, rfl, hbsX, hboxX, hbX⟩
        have u2 : (x.k == 2) = false := beq_eq_false_iff_ne.2 h2
        by_cases h3 : x.k = 3
        · have u3 : (x.k == 3) = true := by rw [h3]; rfl
          clear h3
          go_wp2_with fail
          refine (sync_any hbsW.dk).mono ?_
          rintro e w2 ⟨rfl, ha2⟩
          obtain ⟨r2, hbs2, hk2⟩ := hbsW.disk ha2
          have hlow := hbsW.dk.low hk2
          have hb2 := hbW.trans hlow
          have hrel3 := hrel2.trans hlow
          have hbox2 := hk2.heap hboxW (fun e => hgp e.symm) (hbsW.dk.row_ne hboxW (by decide))
          have hq2 := hk2.heap qW (fun e => hQp e.symm) (hbsW.dk.row_ne qW (by decide))
          have hokd := hbsW.dk.ok
          have hvd := Bs.of_own hbs2.own hokd.byte
          have hvx := HV.out w2 hrel3
          clear b0 b1 b2 b3 b4 f0 f1 f2 f3 f4 q0 q1 q2 ha2 hk2 hlow hbsW hbW hrel2 hrel3 hboxW qW
          obtain ⟨⟨b0, b1, b2, b3, b4⟩, -⟩ := box5 hbox2
          have q0 := cell_block hq2 0
          have q1 := cell_block hq2 1
          have q2 := cell_block hq2 2
          go_wp2_with fail
          refine (refsync_any A c d w2 hokd).mono ?_
          rintro e w3 ⟨v3, rfl, hv3, hb3⟩
          obtain ⟨A', c', rfl, hbs3⟩ := beside_ref hbs2 hb3 hv3
          have hbox3 := heap_below hbox2 hb3
          have hbw3 := nxt hb2 hb3
          clear hvd hvx hv3 hbs2 hb2 hbox2 hq2 hokd b0 b1 b2 b3 b4 q0 q1 q2
          generalize (d.sync).1 = d' at *
          generalize (d.sync).2 = z at *
          obtain ⟨⟨b0, b1, b2, b3, b4⟩, ⟨f0, f1, f2, f3, f4⟩⟩ := box5 hbox3
          obtain ⟨X, hX⟩ : ∃ X, X = ((((w3.setCell ⟨g, 0, none⟩ (.int .i64 (d'.most : Int))).setCell ⟨g, 1, none⟩ (.slice A' d'.bs.length c')).setCell ⟨g, 2, none⟩ (.int .i64 (d'.syn : Int))).setCell ⟨g, 3, none⟩ (.int .i64 d'.num)).setCell ⟨g, 4, none⟩ (.bool d'.down) := ⟨_, rfl⟩
          have hboxX : X.heap[g]? = some (rcells d' A' c') := by rw [hX]; exact set5 hbox3 _ _ _ _ _
          have hbX : Below w.heap.size w X := by rw [hX]; exact bel5 hbw3 hgw _ _ _ _ _
          have hbsX : Beside X w.heap.size p r2 d' (.slice A' d'.bs.length c') d'.bs := by
            rw [hX]
            exact beside_far hbs3 ((((((Kr.refl g none w3).set 0 _).set 1 _).set 2 _).set 3 _).set 4 _) hbox3 (by decide) hgp
          go_wp2_with fail
          rw [← hX]
          clear hX hbs3 hbox3 hbw3 b0 b1 b2 b3 b4 f0 f1 f2 f3 f4 hb3
          go_meet
          exact ⟨z, r2, d', A', c', rfl, rfl, hbsX, hboxX, hbX⟩
        have u3 : (x.k == 3) = false := beq_eq_false_iff_ne.2 h3
        by_cases h4 : x.k = 4
        · have u4 : (x.k == 4) = true := by rw [h4]; rfl
          clear h4
          go_wp2_with fail
          refine (cut_any x.n hn0 hn1 hbsW.dk).mono ?_
          rintro e w2 ⟨rfl, ha2⟩
          obtain ⟨r2, hbs2, hk2⟩ := hbsW.disk ha2
          have hlow := hbsW.dk.low hk2
          have hb2 := hbW.trans hlow
          have hrel3 := hrel2.trans hlow
          have hbox2 := hk2.heap hboxW (fun e => hgp e.symm) (hbsW.dk.row_ne hboxW (by decide))
          have hq2 := hk2.heap qW (fun e => hQp e.symm) (hbsW.dk.row_ne qW (by decide))
          have hokd := hbsW.dk.ok
          have hvd := Bs.of_own hbs2.own hokd.byte
          have hvx := HV.out w2 hrel3
          clear b0 b1 b2 b3 b4 f0 f1 f2 f3 f4 q0 q1 q2 ha2 hk2 hlow hbsW hbW hrel2 hrel3 hboxW qW
          obtain ⟨⟨b0, b1, b2, b3, b4⟩, -⟩ := box5 hbox2
          have q0 := cell_block hq2 0
          have q1 := cell_block hq2 1
          have q2 := cell_block hq2 2
          go_wp2_with fail
          refine (refcut_any A c d x.n w2 hokd hvd).mono ?_
          rintro e w3 ⟨v3, rfl, hv3, hb3⟩
          obtain ⟨A', c', rfl, hbs3⟩ := beside_ref hbs2 hb3 hv3
          have hbox3 := heap_below hbox2 hb3
          have hbw3 := nxt hb2 hb3
          clear hvd hvx hv3 hbs2 hb2 hbox2 hq2 hokd b0 b1 b2 b3 b4 q0 q1 q2
          generalize (d.cut x.n).1 = d' at *
          generalize (d.cut x.n).2 = z at *
          obtain ⟨⟨b0, b1, b2, b3, b4⟩, ⟨f0, f1, f2, f3, f4⟩⟩ := box5 hbox3
          obtain ⟨X, hX⟩ : ∃ X, X = ((((w3.setCell ⟨g, 0, none⟩ (.int .i64 (d'.most : Int))).setCell ⟨g, 1, none⟩ (.slice A' d'.bs.length c')).setCell ⟨g, 2, none⟩ (.int .i64 (d'.syn : Int))).setCell ⟨g, 3, none⟩ (.int .i64 d'.num)).setCell ⟨g, 4, none⟩ (.bool d'.down) := ⟨_, rfl⟩
          have hboxX : X.heap[g]? = some (rcells d' A' c') := by rw [hX]; exact set5 hbox3 _ _ _ _ _
          have hbX : Below w.heap.size w X := by rw [hX]; exact bel5 hbw3 hgw _ _ _ _ _
          have hbsX : Beside X w.heap.size p r2 d' (.slice A' d'.bs.length c') d'.bs := by
            rw [hX]
            exact beside_far hbs3 ((((((Kr.refl g none w3).set 0 _).set 1 _).set 2 _).set 3 _).set 4 _) hbox3 (by decide) hgp
          go_wp2_with fail
          rw [← hX]
          clear hX hbs3 hbox3 hbw3 b0 b1 b2 b3 b4 f0 f1 f2 f3 f4 hb3
          go_meet
          exact ⟨z, r2, d', A', c', rfl, rfl, hbsX, hboxX, hbX⟩
        have u4 : (x.k == 4) = false := beq_eq_false_iff_ne.2 h4
        by_cases h5 : x.k = 5
        · have u5 : (x.k == 5) = true := by rw [h5]; rfl
          clear h5
          go_wp2_with fail
          refine (arm_any x.n hn1 hbsW.dk).mono ?_
          rintro e w2 ⟨rfl, ha2⟩
          obtain ⟨r2, hbs2, hk2⟩ := hbsW.disk ha2
          have hlow := hbsW.dk.low hk2
          have hb2 := hbW.trans hlow
          have hrel3 := hrel2.trans hlow
          have hbox2 := hk2.heap hboxW (fun e => hgp e.symm) (hbsW.dk.row_ne hboxW (by decide))
          have hq2 := hk2.heap qW (fun e => hQp e.symm) (hbsW.dk.row_ne qW (by decide))
          have hokd := hbsW.dk.ok
          have hvd := Bs.of_own hbs2.own hokd.byte
          have hvx := HV.out w2 hrel3
          clear b0 b1 b2 b3 b4 f0 f1 f2 f3 f4 q0 q1 q2 ha2 hk2 hlow hbsW hbW hrel2 hrel3 hboxW qW
          obtain ⟨⟨b0, b1, b2, b3, b4⟩, -⟩ := box5 hbox2
          have q0 := cell_block hq2 0
          have q1 := cell_block hq2 1
          have q2 := cell_block hq2 2
          go_wp2_with fail
          refine (refarm_any A c d x.n hn1 w2 hokd).mono ?_
          rintro e w3 ⟨v3, rfl, hv3, hb3⟩
          obtain ⟨A', c', rfl, hbs3⟩ := beside_ref hbs2 hb3 hv3
          have hbox3 := heap_below hbox2 hb3
          have hbw3 := nxt hb2 hb3
          clear hvd hvx hv3 hbs2 hb2 hbox2 hq2 hokd b0 b1 b2 b3 b4 q0 q1 q2
          generalize d.arm x.n = d' at *
          obtain ⟨⟨b0, b1, b2, b3, b4⟩, ⟨f0, f1, f2, f3, f4⟩⟩ := box5 hbox3
          obtain ⟨X, hX⟩ : ∃ X, X = ((((w3.setCell ⟨g, 0, none⟩ (.int .i64 (d'.most : Int))).setCell ⟨g, 1, none⟩ (.slice A' d'.bs.length c')).setCell ⟨g, 2, none⟩ (.int .i64 (d'.syn : Int))).setCell ⟨g, 3, none⟩ (.int .i64 d'.num)).setCell ⟨g, 4, none⟩ (.bool d'.down) := ⟨_, rfl⟩
          have hboxX : X.heap[g]? = some (rcells d' A' c') := by rw [hX]; exact set5 hbox3 _ _ _ _ _
          have hbX : Below w.heap.size w X := by rw [hX]; exact bel5 hbw3 hgw _ _ _ _ _
          have hbsX : Beside X w.heap.size p r2 d' (.slice A' d'.bs.length c') d'.bs := by
            rw [hX]
            exact beside_far hbs3 ((((((Kr.refl g none w3).set 0 _).set 1 _).set 2 _).set 3 _).set 4 _) hbox3 (by decide) hgp
          go_wp2_with fail
          rw [← hX]
          clear hX hbs3 hbox3 hbw3 b0 b1 b2 b3 b4 f0 f1 f2 f3 f4 hb3
          go_meet
          exact ⟨0, r2, d', A', c', rfl, rfl, hbsX, hboxX, hbX⟩
        have u5 : (x.k == 5) = false := beq_eq_false_iff_ne.2 h5
        by_cases h6 : x.k = 6
        · have u6 : (x.k == 6) = true := by rw [h6]; rfl
          clear h6
          go_wp2_with fail
          refine (crash_any x.n hn0 hn1 hbsW.dk).mono ?_
          rintro e w2 ⟨rfl, ha2⟩
          obtain ⟨r2, hbs2, hk2⟩ := hbsW.disk ha2
          have hlow := hbsW.dk.low hk2
          have hb2 := hbW.trans hlow
          have hrel3 := hrel2.trans hlow
          have hbox2 := hk2.heap hboxW (fun e => hgp e.symm) (hbsW.dk.row_ne hboxW (by decide))
          have hq2 := hk2.heap qW (fun e => hQp e.symm) (hbsW.dk.row_ne qW (by decide))
          have hokd := hbsW.dk.ok
          have hvd := Bs.of_own hbs2.own hokd.byte
          have hvx := HV.out w2 hrel3
          clear b0 b1 b2 b3 b4 f0 f1 f2 f3 f4 q0 q1 q2 ha2 hk2 hlow hbsW hbW hrel2 hrel3 hboxW qW
          obtain ⟨⟨b0, b1, b2, b3, b4⟩, -⟩ := box5 hbox2
          have q0 := cell_block hq2 0
          have q1 := cell_block hq2 1
          have q2 := cell_block hq2 2
          go_wp2_with fail
          refine (refcrash_any A c d x.n w2 hokd hvd).mono ?_
          rintro e w3 ⟨v3, rfl, hv3, hb3⟩
          obtain ⟨A', c', rfl, hbs3⟩ := beside_ref hbs2 hb3 hv3
          have hbox3 := heap_below hbox2 hb3
          have hbw3 := nxt hb2 hb3
          clear hvd hvx hv3 hbs2 hb2 hbox2 hq2 hokd b0 b1 b2 b3 b4 q0 q1 q2
          generalize d.crash x.n = d' at *
          obtain ⟨⟨b0, b1, b2, b3, b4⟩, ⟨f0, f1, f2, f3, f4⟩⟩ := box5 hbox3
          obtain ⟨X, hX⟩ : ∃ X, X = ((((w3.setCell ⟨g, 0, none⟩ (.int .i64 (d'.most : Int))).setCell ⟨g, 1, none⟩ (.slice A' d'.bs.length c')).setCell ⟨g, 2, none⟩ (.int .i64 (d'.syn : Int))).setCell ⟨g, 3, none⟩ (.int .i64 d'.num)).setCell ⟨g, 4, none⟩ (.bool d'.down) := ⟨_, rfl⟩
          have hboxX : X.heap[g]? = some (rcells d' A' c') := by rw [hX]; exact set5 hbox3 _ _ _ _ _
          have hbX : Below w.heap.size w X := by rw [hX]; exact bel5 hbw3 hgw _ _ _ _ _
          have hbsX : Beside X w.heap.size p r2 d' (.slice A' d'.bs.length c') d'.bs := by
            rw [hX]
            exact beside_far hbs3 ((((((Kr.refl g none w3).set 0 _).set 1 _).set 2 _).set 3 _).set 4 _) hbox3 (by decide) hgp
          go_wp2_with fail
          rw [← hX]
          clear hX hbs3 hbox3 hbw3 b0 b1 b2 b3 b4 f0 f1 f2 f3 f4 hb3
          go_meet
          exact ⟨0, r2, d', A', c', rfl, rfl, hbsX, hboxX, hbX⟩
        have u6 : (x.k == 6) = false := beq_eq_false_iff_ne.2 h6
        go_wp2_with fail
        go_meet
        exact ⟨0, r, d, A, c, rfl, rfl, hbsW, hboxW, hbW⟩
      case rest =>
      obtain ⟨z, r2, d', A', c', rfl, rfl, hbsX, hboxX, hbX⟩ := hcut
      clear hbsW hboxW hbW hrel2 qW b0 b1 b2 b3 b4 f0 f1 f2 f3 f4 q0 q1 q2 HV
      have hd8 := hbsX.dk.ok.byte
      have hvX := Bs.of_own hbsX.own hd8
      have tz : ((z : Int) != (z : Int)) = false := by simp
      cases hdn : d'.down with
      | true =>
        have er : d'.read = ([], 15) := by unfold Pd.read; rw [if_pos hdn]
        have ER := Lib.hid er
        simp only [rcells, hdn] at hboxX
        clear er hd8
        go_wp2_with fail
        refine (read_any hbsX.dk).mono ?_
        rintro e w5 ⟨v5, rfl, -, hv5, hb5⟩
        rw [ER.out] at hv5 ⊢
        have hbs5 := hbsX.below hb5
        have hbox5 := heap_below hboxX hb5
        have hb6 := nxt hbX hb5
        obtain ⟨⟨A5, c5, rfl, -, -⟩, -⟩ := id hv5
        obtain ⟨⟨e0, e1, e2, e3, e4⟩, -⟩ := box5 hbox5
        have DN : Hid (∀ n, Calls Try.prog 27 #[.pointer (some ⟨p, 0, none⟩)] (w5.drewN n) fun e w' => e = .returned (.bool true) ∧ w' = w5.drewN n) := fun n => (down_any (hbs5.dk.drewN n)).mono fun e w' h => ⟨by rw [h.1, hdn], h.2.symm⟩
        have SZ : Hid (∀ n, Calls Try.prog 28 #[.pointer (some ⟨p, 0, none⟩)] (w5.drewN n) fun e w' => e = .returned (.int .i64 (d'.bs.length : Int)) ∧ w' = w5.drewN n) := fun n => (size_any (hbs5.dk.drewN n)).mono fun e w' h => ⟨h.1, h.2.symm⟩
        have SY : Hid (∀ n, Calls Try.prog 16 #[.pointer (some ⟨p, 0, none⟩)] (w5.drewN n) fun e w' => e = .returned (.int .i64 (d'.syn : Int)) ∧ w' = w5.drewN n) := fun n => (synced_any (hbs5.dk.drewN n)).mono fun e w' h => ⟨h.1, h.2.symm⟩
        clear hboxX hbsX hbX hb5 hvX
        go_wp2_with fail
        go_quiet (first | (go_at_call 27; exact Calls.quiet_of_same (DN.out _)) | (go_at_call 28; exact Calls.quiet_of_same (SZ.out _)) | (go_at_call 16; exact Calls.quiet_of_same (SY.out _)) | (fail))
        go_wp2_with fail
        go_roundw
        case rel => exact ⟨j + 1, _, d', _, _, by omega, by omega, by go_num, hbs5.below (bel_drewN (Below.refl _ _) _), by show w5.heap[g]? = _; rw [hbox5]; simp only [rcells, hdn], bel_drewN hb6 _⟩
        case measure => simp [intOf]; omega
      | false =>
        have er : d'.read = (d'.bs, 0) := by unfold Pd.read; rw [if_neg (by rw [hdn]; decide)]
        have ER := Lib.hid er
        simp only [rcells, hdn] at hboxX
        clear er hd8
        go_wp2_with fail
        refine (read_any hbsX.dk).mono ?_
        rintro e w5 ⟨v5, rfl, -, hv5, hb5⟩
        rw [ER.out] at hv5 ⊢
        have hbs5 := hbsX.below hb5
        have hbox5 := heap_below hboxX hb5
        have hb6 := nxt hbX hb5
        have hvX5 := hvX.below hb5
        obtain ⟨⟨A5, c5, rfl, -, -⟩, -⟩ := id hv5
        obtain ⟨⟨e0, e1, e2, e3, e4⟩, -⟩ := box5 hbox5
        have DN : Hid (∀ n, Calls Try.prog 27 #[.pointer (some ⟨p, 0, none⟩)] (w5.drewN n) fun e w' => e = .returned (.bool false) ∧ w' = w5.drewN n) := fun n => (down_any (hbs5.dk.drewN n)).mono fun e w' h => ⟨by rw [h.1, hdn], h.2.symm⟩
        have SZ : Hid (∀ n, Calls Try.prog 28 #[.pointer (some ⟨p, 0, none⟩)] (w5.drewN n) fun e w' => e = .returned (.int .i64 (d'.bs.length : Int)) ∧ w' = w5.drewN n) := fun n => (size_any (hbs5.dk.drewN n)).mono fun e w' h => ⟨h.1, h.2.symm⟩
        have SY : Hid (∀ n, Calls Try.prog 16 #[.pointer (some ⟨p, 0, none⟩)] (w5.drewN n) fun e w' => e = .returned (.int .i64 (d'.syn : Int)) ∧ w' = w5.drewN n) := fun n => (synced_any (hbs5.dk.drewN n)).mono fun e w' h => ⟨h.1, h.2.symm⟩
        have SB : Hid (∀ n, Calls Try.prog 29 #[.slice A5 d'.bs.length c5, .slice A' d'.bs.length c'] (w5.drewN n) fun e w' => e = .returned (.bool true) ∧ w' = w5.drewN n) := fun n => (same_bs _ _ _ _ true _ (hv5.drewN n) (hvX5.drewN n) (by simp)).mono fun e w' h => ⟨h.1, h.2.symm⟩
        clear hboxX hbsX hbX hb5 hvX
        go_wp2_with fail
        go_quiet (first | (go_at_call 27; exact Calls.quiet_of_same (DN.out _)) | (go_at_call 28; exact Calls.quiet_of_same (SZ.out _)) | (go_at_call 16; exact Calls.quiet_of_same (SY.out _)) | (go_at_call 29; exact Calls.quiet_of_same (SB.out _)) | (fail))
        go_wp2_with fail
        go_roundw
        case rel => exact ⟨j + 1, _, d', _, _, by omega, by omega, by go_num, hbs5.below (bel_drewN (Below.refl _ _) _), by show w5.heap[g]? = _; rw [hbox5]; simp only [rcells, hdn], bel_drewN hb6 _⟩
        case measure => simp [intOf]; omega
    · have hex : (¬ j < l.length ∧ decide ((j : Int) < (l.length : Int)) = false) ∨ (j < l.length ∧ decide ((j : Int) < (l.length : Int)) = true ∧ ¬ j < 60 ∧ decide ((j : Int) < 60) = false) := by
        by_cases h1 : j < l.length
        · exact .inr ⟨h1, decide_eq_true (by omega), fun h2 => hgo ⟨h1, h2⟩, decide_eq_false (fun h2 => hgo ⟨h1, by omega⟩)⟩
        · exact .inl ⟨h1, decide_eq_false (by omega)⟩
      clear hgo
      rcases hex with ⟨h1, s1⟩ | ⟨h1, s1, h2, s2⟩
      all_goals
        go_wp2_with fail
        refine (awake_any _).mono ?_
        rintro e w7 ⟨rfl, hb9⟩
        go_wp2_with fail
        go_ret
        exact ⟨rfl, nxt hbr hb9⟩

set_option maxRecDepth 100000 in
theorem lifted (os : Os) (started : os.Started) (H : Type) (enc : TypeId × Value → H) :
    ReturnsInHanded {} Try.checked os 4 .any (Rows.diskPlaysSpec.pre6 enc Try.prog Try.f4 Rows.diskPlaysRow.domain false) (Rows.diskPlaysSpec.post enc Try.prog Try.f4 false true false false) := by
  refine returnsInHanded_of_change (C := Try.checked) knob_own started (by kernel_rfl) Try.func4
    (ChangeSpec.witness6 (enc := enc) (C := Try.checked) false ⟨#[], #[.int .i64 0, .slice none 0 0], []⟩ 8 (by kernel_rfl) (by kernel_rfl) (by kernel_rfl) (by kernel_rfl)) ?_
  intro W base args ds gs before hval0 hW hcnd _
  have hval : ∀ (j : Nat) t v, Try.f4.params[j]? = some t → args[j]? = some v → Value.okWide Try.prog W .any base t v := hval0
  have hW' := hW
  obtain ⟨p, q, hA0, hV, rfl, hfz, hnd⟩ := hW
  have hA : DataW.TrodAll enc Try.prog W 0 (fun _ => true) true Try.f4.params.toList args.toList ds p := hA0
  rw [Try.params4] at hA hval
  obtain ⟨v0, vs0, d0, ds0, p0, q0, hargs, rfl, rfl, h0, r0⟩ := trodAll_cons hA
  obtain ⟨v1, vs1, d1, ds1, p1, q1, rfl, rfl, rfl, h1, r1⟩ := trodAll_cons r0
  obtain ⟨rfl, rfl, rfl⟩ := trodAll_nil r1
  obtain rfl : args = #[v0, v1] := by cases args; simp_all
  obtain ⟨rfl, rfl⟩ := trodVars_none hV
  have lt0 : ∀ x ∈ p0, x.block < W.heap.size := by obtain ⟨m, hm⟩ := h0; exact DataW.trod_lt m _ _ _ hm
  have k0 := h0
  obtain ⟨a0, rfl, _, _, w0⟩ := open_int Try.underlying3 (hval 0 3 v0 rfl rfl) h0
  obtain ⟨a1, n1, c1, rfl⟩ := okWide_slice Try.underlying36 (hval 1 36 v1 rfl rfl)
  have k1 := h1
  have lt1 : ∀ x ∈ p1, x.block < W.heap.size := by obtain ⟨m, hm⟩ := k1; exact DataW.trod_lt m _ _ _ hm
  have w1 := ops_open h1
  clear hA0 hval0
  refine (walk W a0 a1 n1 c1 w0 w1).mono fun e W' ⟨he, bel⟩ => ?_
  subst he
  exact ⟨_, rfl, _, _, _, [], _, [], hW', trodAll_mk1 (shut_bool Try.underlying4 _), (trodAll_cons_mk (Below.trod laid_out (by kernel_rfl) (of_decide_eq_true (by kernel_rfl)) k0 bel lt0) (trodAll_cons_mk (Below.trod laid_out (by kernel_rfl) (of_decide_eq_true (by kernel_rfl)) k1 bel lt1) (trodAll_mk0))), rfl, bel.frame _, fun h => by cases h⟩

theorem over : Rows.diskPlaysRow.holds Try.pinned (OpenSpec.ofChange Rows.diskPlaysSpec) :=
  OpenClaim.holds_of_wide 4 Try.f4 rfl rfl rfl rfl rfl rfl rfl ⟨rfl, rfl, rfl, rfl, rfl⟩ rfl rfl rfl rfl rfl (by kernel_rfl) Try.func4 (by kernel_rfl)
    (of_decide_eq_true (by kernel_rfl)) (by unfold Func.isWrapper; first | (rw [if_pos (by decide +kernel)]; kernel_rfl) | (rw [if_neg (by decide +kernel)]; exact ⟨rfl, rfl⟩))
    (fun os started H enc _ => lifted os started H enc)

theorem proved : Rows.DiskPlaysSaid := over
end Go.Proofs.Ytmjgoeigjjabmaa.diskPlays
