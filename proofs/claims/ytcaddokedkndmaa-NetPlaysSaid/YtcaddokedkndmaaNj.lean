/- droverlaw06.filled: the walk. -/
import Derived.Test.YtcaddokedkndmaaNi
namespace Go.Proofs.Ytcaddokedkndmaa
open Go.RowKit
set_option linter.unusedVariables false

def pk (x : Gr) : Gr := ⟨x.fr % 3, x.to % 3, x.d⟩
def fl (l : List Gr) : List Gr := (l.filter fun x => decide (x.d.length ≤ 50)).map pk
theorem fl_snoc (l : List Gr) (j : Nat) (x : Gr) (hx : l[j]? = some x) : fl (l.take (j + 1)) = fl (l.take j) ++ (if x.d.length ≤ 50 then [pk x] else []) := by
  have hj := (List.getElem?_eq_some_iff.1 hx).1
  have : l.take (j + 1) = l.take j ++ [x] := by
    rw [List.take_succ_eq_append_getElem hj, (List.getElem?_eq_some_iff.1 hx).2]
  unfold fl
  rw [this, List.filter_append, List.map_append]
  congr 1
  by_cases h : x.d.length ≤ 50 <;> simp [h]
theorem fl_len (l : List Gr) : (fl l).length ≤ l.length := by
  unfold fl
  rw [List.length_map]
  exact List.length_filter_le _ _
theorem fl_mem (l : List Gr) : ∀ x ∈ fl l, (0 ≤ x.fr ∧ x.fr < 3) ∧ (0 ≤ x.to ∧ x.to < 3) ∧ x.d.length ≤ 50 := by
  intro x hx
  unfold fl at hx
  obtain ⟨y, hy, rfl⟩ := List.mem_map.1 hx
  obtain ⟨-, h⟩ := List.mem_filter.1 hy
  simp at h
  unfold pk
  dsimp only
  omega
section
variable {w w' : World} {base q N : Nat} {r r' : Option Nat} {l l' : List Gr} {v : Value}
/-- append of one datagram onto such a row: the source a new block. -/
theorem wpList_gr {ops : Array Oper} {rest : List Oper} {o : Oper} {a : Act} {Q : Exit → Act → World → Prop} (hgd : o.guard = none) (s x : Operand)
    (ho : o.op = .call { callee := .builtin .append, args := #[s, x], argTypes := #[38, 38] })
    (hs : a.eval s = v) (hv : GR w base v l) {A : Option Addr} {m c : Nat} (hx : a.eval x = .slice A m c) {ys : List Value} (hr : At w w.heap.size A ys) (hl : l'.length = m) (hc : Gcs w base ys l') (hy : ys.length = m * 3) (h1 : ∀ u ∈ ys, u.oneCell' = true)
    (hn : l.length + m ≤ 100000) (hbase : base ≤ w.heap.size)
    (h : ∀ v' w', GR w' base v' (l ++ l') → w.grownBy w' v.ownBlock → (∀ g, v.ownBlock = some g → base ≤ g ∧ ∃ cur, w.heap[g]? = some (.cells cur 29 (0, 0))) → (v'.ownBlock = v.ownBlock ∨ v'.ownBlock = some w.heap.size) → wpList Try.prog ops Q rest (a.put o.dst v') w') :
    wpList Try.prog ops Q (o :: rest) a w := by
  obtain ⟨i0, hi0, hz0, hz1, hz2⟩ := info_parts gm_info
  obtain ⟨xs, hown, hcs, hones⟩ := hv
  have hrow : ∀ g, v.ownBlock = some g → base ≤ g ∧ ∃ cur, w.heap[g]? = some (.cells cur 29 (0, 0)) := by
    intro g hg
    rcases hown.2 with ⟨rfl, _⟩ | ⟨k, cap, cur, rfl, h1, h2, _⟩
    · cases hg
    · obtain rfl := Option.some.inj (show some k = some g from hg)
      exact ⟨h1, cur, h2⟩
  refine wpList_append_at w hgd s x 38 ho base 29 i0 _ 3 40 Try.underlying38 hi0 hz0 hz1 hz2 rfl (by omega) v l.length xs hs hown w.heap.size A m c ys hx hr hy h1 (by unfold maxLen; omega) (by omega) hbase ?_
  intro v' w' h2 h3 h4
  refine h v' w' ⟨xs ++ ys, ?_, ?_, ?_⟩ h3 hrow h4
  · rw [List.length_append, hl]
    exact h2
  · have hk : ∀ {u : Value} {d : List Nat}, Bx w base u d → Bx w' base u d := fun hb => hb.keep h3.size
      (fun b k1 k2 => h3.block b k2 (fun e => by have := (hrow b e.symm).1; omega))
      (fun b cur fr k => h3.block b (lt_heap k) (fun e => by
        obtain ⟨_, cur', h4⟩ := hrow b e.symm
        rw [k] at h4
        have := Option.some.inj h4
        simp at this))
    intro i y hy'
    obtain ⟨k1, k2, u, k3, k4⟩ := (hcs.append hc hown.1) i y hy'
    exact ⟨k1, k2, u, k3, hk k4⟩
  · intro u hu
    rcases List.mem_append.1 hu with hu | hu
    · exact hones u hu
    · exact h1 u hu
/-- Behind such an append the net is as it was. -/
theorem NtAt.rowgrown (h : NtAt w base q r N l) {o : Option Nat} (hg : w.grownBy w' o) (hr : ∀ g, o = some g → base ≤ g ∧ ∃ cur, w.heap[g]? = some (.cells cur 29 (0, 0))) : NtAt w' base q r N l := by
  refine h.other (hg.block q h.lt ?_) (fun g e => hg.block g (h.row_lt e).2 ?_)
  · intro e
    obtain ⟨_, cur, h2⟩ := hr q e.symm
    exact h.q_ne h2 (by decide) rfl
  · intro e2
    obtain ⟨_, cur, h2⟩ := hr g e2.symm
    exact h.row_ne h2 (by decide) e
theorem below_row {B : Nat} {a : World} {o : Option Nat} (h : Below B a w) (hg : w.grownBy w' o) (hs : B ≤ w.heap.size) (hr : ∀ g, o = some g → B ≤ g) : Below B a w' := h.grown hg hs hr
def FilledP (w : World) (l : List Gr) (e : Ending) (w' : World) : Prop := ∃ v r, e = .returned (.tuple #[.pointer (some ⟨w.heap.size, 0, none⟩), v, .bool true]) ∧ NtAt w' w.heap.size w.heap.size r 3 (fl (l.take 40)) ∧ GR w' w.heap.size v (fl (l.take 40)) ∧ Below w.heap.size w w'
set_option maxRecDepth 100000 in
set_option maxHeartbeats 3200000 in
theorem filled_any (a : Option Addr) (n c : Nat) (hn : l.length = n) (hc : n ≤ c) (hcm : c ≤ maxLen) (hg : Grams w w.heap.size a l) : Calls Try.prog 27 #[.slice a n c] w fun e w' => FilledP w l e w' := by
  unfold maxLen at hcm
  have HG := Lib.hid hg
  have HL := Lib.hid hn
  clear hg hn
  go_enter Try.func27, Try.ntmps27
  go_wp2_with fail
  refine (new_any 3 w).mono ?_
  rintro e w1 (⟨h, -, -⟩ | ⟨N, hN, -, -, rfl, hn1, hb1⟩)
  · omega
  obtain rfl : N = 3 := by omega
  clear hN
  go_wp2_with fail
  go_loopw [7, 8, 9] (fun v i _ wr => ∃ (j : Nat) (r : Option Nat), j ≤ n ∧ j ≤ 40 ∧ i = .int .i64 (j : Int) ∧ Below w.heap.size w wr ∧ NtAt wr w.heap.size w.heap.size r 3 (fl (l.take j)) ∧ GR wr w.heap.size v (fl (l.take j))) (fun _ i _ _ => n - (intOf i).toNat)
  case atStart => exact ⟨0, none, by omega, by omega, rfl, hb1, by simpa [fl] using hn1, by simpa [fl] using GR.nil _ _⟩
  case round =>
    obtain ⟨j, r, hjn, hj40, rfl, hbr, hnr, hGR⟩ := hrel
    by_cases hlt : j < n ∧ j < 40
    · obtain ⟨hlt, hlt2⟩ := hlt
      have hjl : j < l.length := by have := HL.out; omega
      obtain ⟨x, hx⟩ : ∃ x, Hid (l[j]? = some x) := ⟨l[j], Lib.hid (List.getElem?_eq_getElem hjl)⟩
      obtain ⟨b, o, y0, y1, y2, rfl, hbB, hra, Ad, cd, rfl, rfl, rfl, hcd, hat, h8, hk1, hk2, hk3, hk4⟩ := HG.out j x hx.out
      have t0 := (hbr.cell (p := ⟨b, o + j * 3, none⟩) hbB).trans (hra 0 _ rfl)
      have t1 := (hbr.cell (p := ⟨b, o + j * 3 + 1, none⟩) hbB).trans (hra 1 _ rfl)
      have t2 := (hbr.cell (p := ⟨b, o + j * 3 + 2, none⟩) hbB).trans (hra 2 _ rfl)
      have hbx : Bx w w.heap.size (.slice Ad x.d.length cd) x.d := Bx.of_bs ⟨⟨Ad, cd, rfl, hcd, hat⟩, h8⟩ (Nat.le_refl _)
      have hbxr : Bx wr w.heap.size (.slice Ad x.d.length cd) x.d := hbx.below hbr
      clear hra hat hbx hjl h8
      have hlen := fl_len (l.take j)
      rw [List.length_take] at hlen
      go_upto_region 8 with fail
      go_cut [9] from 17 to 62 (fun s wx => s = .pointer (some ⟨wr.heap.size, 0, none⟩) ∧ wx = (wr.alloc (.cells #[.int .i64 (x.fr % 3), .int .i64 (x.to % 3), .slice Ad x.d.length cd] 29)).drew)
      case first =>
        clear hnr hGR hbxr hlen
        go_region_held3 (fun w' => w'.cell? ⟨b, o + j * 3, none⟩ = some (.int .i64 x.fr) ∧ w'.cell? ⟨b, o + j * 3 + 1, none⟩ = some (.int .i64 x.to) ∧ w'.cell? ⟨b, o + j * 3 + 2, none⟩ = some (.slice Ad x.d.length cd)) (go_keep)
          (first
            | (go_at_call 25
               with_reducible refine (pick_any x.fr 3 _ (by omega) (by omega)).mono ?_
               rintro e wx ⟨rfl, rfl⟩)
            | (go_at_call 25
               with_reducible refine (pick_any x.to 3 _ (by omega) (by omega)).mono ?_
               rintro e wx ⟨rfl, rfl⟩)
            | (fail))
        all_goals
          go_wp2_with fail
          go_meet
          exact ⟨rfl, rfl⟩
      case rest =>
        obtain ⟨rfl, rfl⟩ := hcut
        clear t0 t1 t2
        have hb8 : Below wr.heap.size wr (wr.alloc (.cells #[.int .i64 (x.fr % 3), .int .i64 (x.to % 3), .slice Ad x.d.length cd] 29)).drew := bel_drew ((Below.refl wr.heap.size wr).alloc (Nat.le_refl _) _)
        have hq8 : (wr.alloc (.cells #[.int .i64 (x.fr % 3), .int .i64 (x.to % 3), .slice Ad x.d.length cd] 29)).drew.heap[wr.heap.size]? = _ := heap_new wr (.cells #[.int .i64 (x.fr % 3), .int .i64 (x.to % 3), .slice Ad x.d.length cd] 29)
        have hn8 := hnr.below hb8
        have hG8 := hGR.below hb8
        have hx8 := hbxr.below hb8
        have hb := nxt hbr hb8
        obtain ⟨W, hW⟩ : ∃ W, W = (wr.alloc (.cells #[.int .i64 (x.fr % 3), .int .i64 (x.to % 3), .slice Ad x.d.length cd] 29)).drew := ⟨_, rfl⟩
        rw [← hW] at hq8 hn8 hG8 hx8 hb ⊢
        obtain ⟨B, hB⟩ : ∃ B, B = wr.heap.size := ⟨_, rfl⟩
        rw [← hB] at hq8 ⊢
        clear hW hB hb8 hnr hGR hbxr hbr
        obtain ⟨⟨c0, c1, c2⟩, -⟩ := box3 hq8
        have hsn := fl_snoc l j x hx.out
        by_cases h50 : x.d.length ≤ 50
        · have d1 : decide ((x.d.length : Int) > 50) = false := decide_eq_false (by omega)
          have d2 : decide (50 < x.d.length) = false := decide_eq_false (by omega)
          rw [if_pos h50] at hsn
          clear h50
          go_wp2_with fail
          refine (send_any hn8 (x.fr % 3) (x.to % 3) _ x.d hx8.bs).mono ?_
          rintro e w9 ⟨rfl, ha9⟩
          have hE : sendE 3 (fl (l.take j)) (x.fr % 3) (x.to % 3) x.d = 0 := by
            have h51 := of_decide_eq_false d2
            have h1 : hasB 3 (x.fr % 3) = true := by simp [hasB]; omega
            have h2 : hasB 3 (x.to % 3) = true := by simp [hasB]; omega
            unfold sendE
            rw [h1, h2, if_neg (by simp), if_neg (by simp), if_neg (by omega), if_neg (by omega)]
          have hL : sendL 3 (fl (l.take j)) (x.fr % 3) (x.to % 3) x.d = fl (l.take (j + 1)) := by
            unfold sendL
            rw [if_pos hE, hsn]
            rfl
          rw [hE]
          rw [hL] at ha9
          have hG9 := hG8.aft hn8 ha9
          have hx9 := ha9.bx hn8 hx8
          have hq9 := ha9.keep hn8 hq8 (by decide) (by decide)
          have hb9 := hb.trans (ha9.low hn8)
          obtain ⟨r9, hn9, -, -⟩ := ha9
          clear hE hL hn8 hG8 hx8 hq8 hb c0 c1 c2
          obtain ⟨⟨c0, c1, c2⟩, -⟩ := box3 hq9
          have hbA := (Below.refl w9.heap.size w9).alloc (Nat.le_refl _) (.cells #[.int .i64 (x.fr % 3), .int .i64 (x.to % 3), .slice Ad x.d.length cd] 29)
          have hnA := hn9.below hbA
          have hGA := hG9.below hbA
          have hxA := hx9.below hbA
          have hbwA := hb9.trans (hbA.mono hb9.size)
          have hat : At (w9.alloc (.cells #[.int .i64 (x.fr % 3), .int .i64 (x.to % 3), .slice Ad x.d.length cd] 29)) (w9.alloc (.cells #[.int .i64 (x.fr % 3), .int .i64 (x.to % 3), .slice Ad x.d.length cd] 29)).heap.size (some ⟨w9.heap.size, 0, none⟩) [.int .i64 (x.fr % 3), .int .i64 (x.to % 3), .slice Ad x.d.length cd] := by
            have := At.made w9 #[.int .i64 (x.fr % 3), .int .i64 (x.to % 3), .slice Ad x.d.length cd] 29
            simpa using this
          have HSN := Lib.hid hsn
          have HCS : Hid (Gcs (w9.alloc (.cells #[.int .i64 (x.fr % 3), .int .i64 (x.to % 3), .slice Ad x.d.length cd] 29)) w.heap.size [.int .i64 (x.fr % 3), .int .i64 (x.to % 3), .slice Ad x.d.length cd] [pk x]) := Lib.hid (Gcs.one (x := pk x) hxA)
          have hsz := hb9.size
          clear hsn hx9 hG9 hn9 hxA
          go_wp2_with (at_builtin
                       refine wpList_gr rfl (.tmp 59) (.tmp 61) rfl rfl hGA rfl hat rfl HCS.out rfl (by intro u hu; simp at hu; rcases hu with rfl | rfl | rfl <;> rfl) (by omega) (by simp; omega) ?_
                       intro v10 w10 hG10 hg10 hr10 _)
          have hb10 : Below w.heap.size w w10 := below_row hbwA hg10 (by simp; omega) (fun g hg => (hr10 g hg).1)
          have hn10 := hnA.rowgrown hg10 hr10
          rw [← HSN.out] at hG10
          clear hg10 hr10 hat hGA hnA hbwA hbA hb9 c0 c1 c2 hq9
          go_wp2_with fail
          go_roundw
          case rel => exact ⟨j + 1, r9, by omega, by omega, by go_num, hb10, hn10, hG10⟩
          case measure => simp [intOf]; omega
        · have d1 : decide ((x.d.length : Int) > 50) = true := decide_eq_true (by omega)
          have d2 : decide (50 < x.d.length) = true := decide_eq_true (by omega)
          rw [if_neg h50, List.append_nil] at hsn
          clear h50
          go_wp2_with fail
          go_roundw
          case rel => exact ⟨j + 1, r, by omega, by omega, by go_num, hb, by rw [hsn]; exact hn8, by rw [hsn]; exact hG8⟩
          case measure => simp [intOf]; omega
    · have hE : l.take j = l.take 40 := by
        by_cases h : j < n
        · rw [show j = 40 by omega]
        · rw [List.take_of_length_le (by have := HL.out; omega), List.take_of_length_le (by have := HL.out; omega)]
      rw [hE] at hnr hGR
      obtain ⟨b0, hd0⟩ : ∃ b, decide ((j : Int) < (n : Int)) = b := ⟨_, rfl⟩
      have hd1 : decide (j < n) = b0 := by rw [← hd0]; exact decide_eq_decide.2 (by omega)
      clear hE
      cases b0 with
      | false =>
        clear hlt
        go_wp2_with fail
        go_ret3
        exact ⟨_, r, rfl, hnr, hGR, hbr⟩
      | true =>
        have h1 := of_decide_eq_true hd1
        have hd2 : decide ((j : Int) < 40) = false := decide_eq_false (by omega)
        have hd3 : decide (j < 40) = false := decide_eq_false (by omega)
        clear hlt
        go_wp2_with fail
        go_ret3
        exact ⟨_, r, rfl, hnr, hGR, hbr⟩
end
end Go.Proofs.Ytcaddokedkndmaa
