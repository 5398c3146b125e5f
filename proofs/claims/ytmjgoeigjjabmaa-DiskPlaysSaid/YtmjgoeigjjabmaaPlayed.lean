/- droverlaw04.played: the walk. -/
import Derived.Test.YtmjgoeigjjabmaaHelp04
namespace Go.Proofs.Ytmjgoeigjjabmaa
open Go.RowKit

/-- The cells of a script's call, in a later world. -/
theorem Ops.at {w w' : World} {B : Nat} {a : Option Addr} {l : List Po} (h : Ops w B a l) (hb : Below B w w') (j : Nat) (hj : j < l.length) :
    ∃ b o A c, a = some ⟨b, o, none⟩ ∧ w'.cell? ⟨b, o + j * 3, none⟩ = some (.int .i64 l[j].k) ∧ w'.cell? ⟨b, o + j * 3 + 1, none⟩ = some (.int .i64 l[j].n) ∧ w'.cell? ⟨b, o + j * 3 + 2, none⟩ = some (.slice A l[j].b.length c) ∧
      OpIs w' B (.int .i64 l[j].k) (.int .i64 l[j].n) (.slice A l[j].b.length c) l[j] := by
  obtain ⟨b, o, y0, y1, y2, rfl, h1, h2, h3⟩ := h j _ (List.getElem?_eq_getElem hj)
  have h3' := h3.under hb
  obtain ⟨A, c, rfl, rfl, rfl, _⟩ := id h3
  exact ⟨b, o, A, c, rfl, (hb.cell h1).trans (h2 0 _ rfl), (hb.cell h1).trans (h2 1 _ rfl), (hb.cell h1).trans (h2 2 _ rfl), h3'⟩
def PlayP (m : Nat) (l : List Po) (w : World) (e : Ending) (w' : World) : Prop := ∃ p q r r', e = .returned (.tuple #[.pointer (some ⟨p, 0, none⟩), .pointer (some ⟨q, 0, none⟩)]) ∧
  Two w' w.heap.size p r ((Pd.new m).run (l.take 50)) q r' ((Pd.new m).run (l.take 50)) ∧ Below w.heap.size w w'
set_option maxRecDepth 100000 in
set_option maxHeartbeats 1000000 in
theorem played_any (m : Nat) (hm : m ≤ 67108864) (w : World) (B : Nat) (hB : B ≤ w.heap.size) (a : Option Addr) (n c : Nat) (l : List Po) (hl : l.length = n) (hops : Ops w B a l) :
    Calls Try.prog 32 #[.int .i64 (m : Int), .slice a n c] w (PlayP m l w) := by
  subst hl
  have HO := Lib.hid hops
  clear hops
  go_enter Try.func32, Try.ntmps32
  go_wp2_with fail
  refine (new_any m hm w).mono ?_
  rintro e w1 ⟨rfl, hd1, hb1⟩
  obtain ⟨p, hp⟩ : ∃ p, p = w.heap.size := ⟨_, rfl⟩
  have hd1 : Dk w1 w.heap.size p none (.new m) := by rw [hp]; exact hd1
  rw [← hp]
  have HP := Lib.hid hp
  clear hp
  go_wp2_with fail
  refine (new_any m hm w1).mono ?_
  rintro e w2 ⟨rfl, hd2, hb2⟩
  have hd1' := hd1.below hb2
  have hd2' := hd2.mono hb1.size
  have hpq : p ≠ w1.heap.size := by have := hd1.lt; omega
  have h2 : Two w2 w.heap.size p none (.new m) w1.heap.size none (.new m) := ⟨hd1', hd2', hpq, fun g e => by cases e⟩
  have hb : Below w.heap.size w w2 := nxt hb1 hb2
  generalize w1.heap.size = q at *
  clear hd1 hd1' hd2 hd2' hb1 hb2 hpq
  go_wp2_with fail
  go_loopw [10] (fun i wr => ∃ (j : Nat) (r r' : Option Nat), j ≤ l.length ∧ j ≤ 50 ∧ i = .int .i64 (j : Int) ∧ Two wr w.heap.size p r ((Pd.new m).run (l.take j)) q r' ((Pd.new m).run (l.take j)) ∧ Below w.heap.size w wr) (fun i _ => l.length - (intOf i).toNat)
  case atStart => exact ⟨0, none, none, Nat.zero_le _, Nat.zero_le _, rfl, h2, hb⟩
  case round =>
    obtain ⟨j, r, r', hj, hj50, rfl, htw, hbr⟩ := hrel
    by_cases hlt : j < l.length
    · have t1 : decide ((j : Int) < (l.length : Int)) = true := decide_eq_true (by omega)
      by_cases h50 : j < 50
      · have t2 : decide ((j : Int) < 50) = true := decide_eq_true (by omega)
        have hbB := hbr.mono hB
        obtain ⟨b, o, A, c', rfl, c0, c1, c2, hop⟩ := HO.out.at hbB j hlt
        have hbsz : B ≤ wr.heap.size := Nat.le_trans hB hbr.size
        have HS := Lib.hid (Pd.run_step (.new m) l j hlt)
        by_cases h200 : l[j].b.length ≤ 200
        · have t3 : decide ((l[j].b.length : Int) ≤ 200) = true := decide_eq_true (by omega)
          have HS' : Hid ((Pd.new m).run (l.take (j + 1)) = (((Pd.new m).run (l.take j)).step l[j]).1) := HS.out.trans (if_pos h200)
          generalize hx : l[j] = x at *
          go_wp2_with fail
          refine (does_any _ _ _ x B hbsz hop htw.one).mono ?_
          rintro e w3 ⟨rfl, ha3⟩
          obtain ⟨r3, htw3, hk3⟩ := htw.left ha3
          have hb3 := htw.one.low hk3
          have hbr3 := hbr.trans hb3
          obtain ⟨b', o', A', c'', e', c0', c1', c2', hop'⟩ := HO.out.at (hbr3.mono hB) j hlt
          clear c0 c1 c2 hop ha3 hk3 htw hb3
          obtain ⟨rfl, rfl⟩ : b = b' ∧ o = o' := by simpa using e'
          rw [hx] at c0' c1' c2' hop'
          have hbsz3 : B ≤ w3.heap.size := Nat.le_trans hB hbr3.size
          go_wp2_with fail
          refine (does_any _ _ _ x B hbsz3 hop' htw3.two).mono ?_
          rintro e w4 ⟨rfl, ha4⟩
          obtain ⟨r4, htw4, hk4⟩ := htw3.symm.left ha4
          have hbr4 := hbr3.trans (htw3.two.low hk4)
          go_wp2_with fail
          go_roundw
          case rel =>
            refine ⟨j + 1, r3, r4, by omega, by omega, by go_num, ?_, hbr4⟩
            rw [HS'.out]
            exact htw4.symm
          case measure => simp [intOf]; omega
        · have t3 : decide ((l[j].b.length : Int) ≤ 200) = false := decide_eq_false (by omega)
          have HS' : Hid ((Pd.new m).run (l.take (j + 1)) = (Pd.new m).run (l.take j)) := HS.out.trans (if_neg h200)
          generalize l[j] = x at *
          go_wp2_with fail
          go_roundw
          case rel =>
            refine ⟨j + 1, r, r', by omega, by omega, by go_num, ?_, hbr⟩
            rw [HS'.out]
            exact htw
          case measure => simp [intOf]; omega
      · have t2 : decide ((j : Int) < 50) = false := decide_eq_false (by omega)
        obtain rfl : j = 50 := by omega
        go_wp2_with fail
        all_goals
          go_ret2
          exact ⟨p, q, r, r', rfl, htw, hbr⟩
    · have t1 : decide ((j : Int) < (l.length : Int)) = false := decide_eq_false (by omega)
      have e50 : l.take j = l.take 50 := by rw [List.take_of_length_le (by omega), List.take_of_length_le (by omega)]
      rw [e50] at htw
      go_wp2_with fail
      go_ret2
      exact ⟨p, q, r, r', rfl, htw, hbr⟩
end Go.Proofs.Ytmjgoeigjjabmaa
