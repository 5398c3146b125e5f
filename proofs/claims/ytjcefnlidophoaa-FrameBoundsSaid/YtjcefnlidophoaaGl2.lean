/- drover/frame.Get's third closure, getMany and getList at []byte: the walks. -/
import Derived.Test.YtjcefnlidophoaaGl1
import Derived.Test.YtjcefnlidophoaaBlk
namespace Go.Proofs.Ytjcefnlidophoaa
open Go.RowKit

theorem gb_err0 (l : List Nat) (a : Nat) (most : Int) (h : (gb l a most).2.2 ≠ 0) : (gb l a most).1 = [] ∧ (gb l a most).2.1 = 0 := by
  unfold gb at h ⊢
  split
  · exact ⟨rfl, rfl⟩
  · split
    · exact ⟨rfl, rfl⟩
    · split
      · exact ⟨rfl, rfl⟩
      · rename_i h1 h2 h3
        rw [if_neg h1, if_neg h2, if_neg h3] at h
        exact absurd rfl h
theorem fB_err (b : List Nat) (a er : Nat) (h : fB b a = .error er) : er ≠ 0 := by
  unfold fB at h
  split at h
  · rename_i h0
    injection h with h
    exact h ▸ h0
  · cases h
def FbPost (r : Except Nat (List Nat × Nat)) (w : World) (e : Ending) (w' : World) : Prop := Below w.heap.size w w' ∧ match r with
  | .error er => ∃ A c, e = .returned (.tuple #[.slice A 0 c, .int .i64 0, .int .i64 ((er : Nat) : Int)])
  | .ok (x, nx) => ∃ A c, e = .returned (.tuple #[.slice A x.length c, .int .i64 ((nx : Nat) : Int), .int .i64 0]) ∧ Own w' w.heap.size (.slice A x.length c) x
set_option maxRecDepth 100000 in
set_option maxHeartbeats 800000 in
theorem get1b_any (bb : Nat) (v : Value) (l : List Nat) (at_ : Nat) (w : World) (hb : w.heap[bb]? = some (.cells #[v] 27 (0, 0))) (hv : Bs w v l) (hn : l.length ≤ 1099511627776) (hat : at_ ≤ l.length) :
    Calls Try.prog 88 #[.int .i64 (at_ : Int), .pointer (some ⟨bb, 0, none⟩)] w (FbPost (fB l at_) w) := by
  have c0 : w.cell? ⟨bb, 0, none⟩ = some v := cell_block hb 0
  have hg := getblob_bs v l at_ 65536 w hv hn hat (by omega) (by omega)
  have HG := Lib.hid hg
  have h0 := gb_err0 l at_ 65536
  have hf : fB l at_ = if (gb l at_ 65536).2.2 ≠ 0 then .error (gb l at_ 65536).2.2 else .ok ((gb l at_ 65536).1, (gb l at_ 65536).2.1) := rfl
  clear hg
  generalize fB l at_ = F at *
  generalize gb l at_ 65536 = g at *
  obtain ⟨x, nx, er⟩ := g
  dsimp only at h0 hf
  by_cases he : er = 0
  · rw [if_neg (by simp [he])] at hf
    subst hf
    subst he
    clear h0
    go_enter Try.func88, Try.ntmps88
    go_wp2_with fail
    refine HG.out.mono ?_
    rintro e w1 ⟨v1, rfl, ho1, hv1, hb1⟩
    obtain ⟨A, c, rfl, -, -, -, -, -⟩ := id ho1.form
    go_wp2_with fail
    refine bodyPost_ret (v := .tuple #[.slice A x.length c, .int .i64 (nx : Int), .int .i64 0]) (by simp [results, Try.results88, go_sem]) rfl ?_
    exact ⟨hb1, A, c, rfl, ho1⟩
  · rw [if_pos he] at hf
    subst hf
    obtain ⟨rfl, rfl⟩ := h0 he
    clear h0
    go_enter Try.func88, Try.ntmps88
    go_wp2_with fail
    refine HG.out.mono ?_
    rintro e w1 ⟨v1, rfl, ho1, hv1, hb1⟩
    obtain ⟨A, c, rfl, -, -, -, -, -⟩ := id ho1.form
    go_wp2_with fail
    refine bodyPost_ret (v := .tuple #[.slice A 0 c, .int .i64 0, .int .i64 (er : Int)]) (by simp [results, Try.results88, go_sem]) rfl ?_
    exact ⟨hb1, A, c, rfl⟩
theorem bytes_info : (Try.prog.info? 27).map (fun i => (i.zero, i.size, i.bytes)) = some (some (.slice none 0 0), 1, 24) := by kernel_rfl
def OutBlobs (r : Except Nat (List (List Nat) × Nat)) (w : World) (e : Ending) (w' : World) : Prop := Below w.heap.size w w' ∧ match r with
  | .error er => e = .returned (.tuple #[.slice none 0 0, .int .i64 0, .int .i64 ((er : Nat) : Int)])
  | .ok (ll, nx) => ∃ u vs, e = .returned (.tuple #[u, .int .i64 ((nx : Nat) : Int), .int .i64 0]) ∧ w'.ownsRow w.heap.size 27 1 u ll.length vs ∧ Blk w' w.heap.size vs ll
set_option maxRecDepth 100000 in
set_option maxHeartbeats 1600000 in
theorem blobs_any (bb : Nat) (v : Value) (l : List Nat) (n at_ : Nat) (w : World) (hb : w.heap[bb]? = some (.cells #[v] 27 (0, 0))) (hv : Bs w v l) (hn : l.length ≤ 1099511627776) (hat : at_ ≤ l.length) (hn1 : n ≤ 1000) :
    Calls Try.prog 163 #[.int .i64 (n : Int), .int .i64 (at_ : Int), .func (.func 88) #[] #[.pointer (some ⟨bb, 0, none⟩)]] w (OutBlobs (many (fB l) n at_) w) := by
  obtain ⟨i0, hi0, hz0, hz1, hz2⟩ := info_parts bytes_info
  have H8 := Lib.hid hv.2
  go_enter Try.func163, Try.ntmps163
  go_wp2_with fail
  go_loopw [1, 9, 14] (fun p q i wr => ∃ (j a : Nat) (ns : List (List Nat)) (vs : List Value), j ≤ n ∧ i = .int .i64 (j : Int) ∧ p = .int .i64 (a : Int) ∧ a ≤ l.length ∧ ns.length = j ∧ wr.ownsRow w.heap.size 27 1 q j vs ∧ Blk wr w.heap.size vs ns ∧
      Hid (many (fB l) n at_ = pre ns (many (fB l) (n - j) a)) ∧ Below w.heap.size w wr) (fun _ _ i _ => n - (intOf i).toNat)
  case atStart =>
    refine ⟨0, at_, [], [], Nat.zero_le _, rfl, rfl, hat, rfl, World.ownsRow_nil _ _ _ _, Blk.nil _ _, ?_, Below.refl _ _⟩
    show _ = _
    rw [Nat.sub_zero]
    cases many (fB l) n at_ with
    | error e => rfl
    | ok r => rfl
  case round =>
    obtain ⟨j, a, ns, vs, hj, rfl, rfl, ha, hns, hown, hblk, HM, hbr⟩ := hrel
    have q1 := heap_below hb hbr
    have hv1 := hv.below hbr
    by_cases hlt : j < n
    · cases hf : fB l a with
      | error er =>
        have hne := fB_err l a er hf
        have g1 : ((er : Int) != 0) = true := bne_iff_ne.2 (by omega)
        have HE := Lib.hid (many_err (fB l) n j at_ a ns er hlt HM.out hf)
        have HF := Lib.hid hf
        clear HM hf
        go_wp2_with fail
        refine (get1b_any bb v l a _ q1 hv1 hn ha).mono ?_
        rw [HF.out]
        rintro e w1 ⟨hb1, A1, c1, rfl⟩
        go_wp2_with fail
        refine bodyPost_ret (v := .tuple #[.slice none 0 0, .int .i64 0, .int .i64 (er : Int)]) (by simp [results, Try.results163, go_sem]) rfl ?_
        refine ⟨nxt hbr hb1, ?_⟩
        rw [HE.out]
      | ok r =>
        obtain ⟨x, nx⟩ := r
        obtain ⟨hx8, -, hnx, -⟩ := fB_back l H8.out a x nx ha hf
        have HG := Lib.hid (many_go (fB l) n j at_ a ns x nx hlt HM.out hf)
        have HF := Lib.hid hf
        clear HM hf
        go_wp2_with (first
          | (go_at_call 88
             refine (get1b_any bb v l a _ q1 hv1 hn ha).mono ?_
             rw [HF.out]
             rintro e w1 ⟨hb1, A1, c1, rfl, ho1⟩
             have hown1 := World.ownsRow.kept (row := none) hown ⟨hb1.os, hb1.tape, hb1.output, hb1.size, fun k hk _ => hb1.block k hk⟩ (by cases hv : Value.ownBlock _ <;> simp)
             have hblk1 := hblk.below hb1
             have hbr1 := nxt hbr hb1
             have hat1 := At.made w1 #[.slice A1 x.length c1] 27)
          | (at_builtin
             refine wpList_append_at _ rfl (.tmp 26) (.tmp 28) 24 rfl w.heap.size 27 i0 _ 1 24 Try.underlying24 hi0 hz0 hz1 hz2 rfl (by omega) _ j vs rfl (hown1.alloc _) (w1.heap.size + 1) _ 1 1 [.slice A1 x.length c1] rfl hat1 rfl (by intro u hu; simp at hu; rw [hu]; rfl) (by unfold maxLen; omega) (by omega) (by have := hbr1.size; simp; omega) ?_
             intro v2 w2 hown2 hg2 _)
          | (fail))
        have hb3 : Below w.heap.size w w2 := (hbr1.alloc hbr1.size _).trans ((Below.refl _ _).grown hg2 (by have := hbr1.size; simp; omega) (fun k hk => (World.ownsRow.lt hown1 k hk).1))
        have ha1 : Below w1.heap.size w1 (w1.alloc (.cells #[.slice A1 x.length c1] 27)) := (Below.refl _ _).alloc (Nat.le_refl _) _
        have hblk2 := ((hblk1.snoc (ho1.mono hbr.size) hx8.2).below ha1).grown (hown1.alloc _) (by decide) hg2
        clear hown hown1 hg2 hat1 hblk hblk1 ho1
        go_roundw
        case rel => exact ⟨j + 1, nx, ns ++ [x], _, by omega, by go_num, rfl, hnx, by simp [hns], hown2, hblk2, HG, hb3⟩
        case measure => simp [intOf]; omega
    · obtain rfl : n = j := by omega
      have HE := Lib.hid (many_end (fB l) n at_ a ns HM.out)
      go_wp2_with fail
      have hform : ∃ A c, u9 = .slice A ns.length c := by
        rcases hown.2 with ⟨h1, h2⟩ | ⟨g, cap, cur, he, _⟩
        · exact ⟨none, 0, by rw [h1, hns, h2]⟩
        · exact ⟨_, cap, by rw [he, hns]⟩
      obtain ⟨A, c, rfl⟩ := hform
      refine bodyPost_ret (v := .tuple #[.slice A ns.length c, .int .i64 (a : Int), .int .i64 0]) (by simp [results, Try.results163, go_sem]) rfl ?_
      refine ⟨hbr, ?_⟩
      rw [HE.out]
      exact ⟨_, vs, rfl, by rw [← hns] at hown; exact hown, hblk⟩

set_option maxRecDepth 100000 in
set_option maxHeartbeats 1600000 in
theorem bloblist_any (bb : Nat) (v : Value) (l : List Nat) (at_ : Nat) (w : World) (hb : w.heap[bb]? = some (.cells #[v] 27 (0, 0))) (hv : Bs w v l) (hn : l.length ≤ 1099511627776) (hat : at_ ≤ l.length) :
    Calls Try.prog 87 #[v, .int .i64 (at_ : Int), .int .i64 16, .func (.func 88) #[] #[.pointer (some ⟨bb, 0, none⟩)]] w (OutBlobs (lst l 16 (fB l) at_) w) := by
  have hgb := gu_bounds l at_ hat
  have hgi := getuint_bs v l at_ w hv hn hat
  have HG := Lib.hid hgi
  have hm : ∀ n nx : Nat, (gu l at_) = (n, nx, 0) → n ≤ 1000 → Calls Try.prog 163 #[.int .i64 (n : Int), .int .i64 (nx : Int), .func (.func 88) #[] #[.pointer (some ⟨bb, 0, none⟩)]] w (OutBlobs (many (fB l) n nx) w) := by
    intro n nx hg h1
    have := hgb.2.2 (by rw [hg])
    rw [hg] at this
    exact blobs_any bb v l n nx w hb hv hn (by dsimp only at this; omega) h1
  have hl : lst l 16 (fB l) at_ = if (gu l at_).2.2 ≠ 0 then .error (gu l at_).2.2 else if 16 < (gu l at_).1 then .error 14 else many (fB l) (gu l at_).1 (gu l at_).2.1 := rfl
  have HM := Lib.hid hm
  clear hgi hm
  have hu := hgb.1
  have hz := hgb.2.1
  clear hgb
  generalize lst l 16 (fB l) at_ = L at *
  generalize gu l at_ = g at *
  obtain ⟨n, nx, er⟩ := g
  dsimp only at hu hz hl
  by_cases he : er = 0
  · rw [if_neg (by simp [he])] at hl
    subst he
    by_cases h64 : 16 < n
    · rw [if_pos h64] at hl
      subst hl
      have k1 : decide ((16 : Int) < (n : Int)) = true := decide_eq_true (by omega)
      have k2 : decide (16 < n) = true := decide_eq_true h64
      go_enter Try.func87, Try.ntmps87
      go_wp2_with fail
      refine HG.out.mono ?_
      rintro e w1 ⟨rfl, rfl⟩
      go_wp2_with fail
      refine bodyPost_ret (v := .tuple #[.slice none 0 0, .int .i64 0, .int .i64 14]) (by simp [results, Try.results87, go_sem]) rfl ?_
      exact ⟨Below.refl _ _, rfl⟩
    · rw [if_neg h64] at hl
      subst hl
      have k1 : decide ((16 : Int) < (n : Int)) = false := decide_eq_false (by omega)
      have k2 : decide (16 < n) = false := decide_eq_false h64
      have s1 : IntKind.i64.wrap (n : Int) = (n : Int) := by rw [IntKind.wrap_i64]; omega
      have hcall := HM.out n nx rfl (by omega)
      generalize many (fB l) n nx = R at *
      have HC := Lib.hid hcall
      clear hcall
      go_enter Try.func87, Try.ntmps87
      go_wp2_with fail
      refine HG.out.mono ?_
      rintro e w1 ⟨rfl, rfl⟩
      go_wp2_with fail
      refine HC.out.mono ?_
      rintro e w2 ⟨hb2, hR⟩
      cases R with
      | error er2 =>
        subst hR
        go_wp2_with fail
        refine bodyPost_ret (v := .tuple #[.slice none 0 0, .int .i64 0, .int .i64 (er2 : Int)]) (by simp [results, Try.results87, go_sem]) rfl ?_
        exact ⟨hb2, rfl⟩
      | ok r =>
        obtain ⟨ns, n2⟩ := r
        obtain ⟨u, vs, rfl, hown, hblk⟩ := hR
        obtain ⟨A, c, rfl⟩ : ∃ A c, u = .slice A ns.length c := by
          rcases hown.2 with ⟨h1, h2⟩ | ⟨g, cap, cur, he, _⟩
          · exact ⟨none, 0, by rw [h1, h2]⟩
          · exact ⟨_, cap, he⟩
        go_wp2_with fail
        refine bodyPost_ret (v := .tuple #[.slice A ns.length c, .int .i64 (n2 : Int), .int .i64 0]) (by simp [results, Try.results87, go_sem]) rfl ?_
        exact ⟨hb2, _, vs, rfl, hown, hblk⟩
  · rw [if_pos he] at hl
    subst hl
    obtain ⟨rfl, rfl⟩ := hz he
    have k1 : ((er : Int) != 0) = true := bne_iff_ne.2 (by omega)
    clear hz he
    go_enter Try.func87, Try.ntmps87
    go_wp2_with fail
    refine HG.out.mono ?_
    rintro e w1 ⟨rfl, rfl⟩
    go_wp2_with fail
    refine bodyPost_ret (v := .tuple #[.slice none 0 0, .int .i64 0, .int .i64 (er : Int)]) (by simp [results, Try.results87, go_sem]) rfl ?_
    exact ⟨Below.refl _ _, rfl⟩
end Go.Proofs.Ytjcefnlidophoaa
