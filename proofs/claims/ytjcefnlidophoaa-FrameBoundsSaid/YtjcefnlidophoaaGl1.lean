/- drover/frame.Get's first closure, getMany and getList at int64: the walks. -/
import Derived.Test.YtjcefnlidophoaaUnpack
import Derived.Test.YtjcefnlidophoaaFa
namespace Go.Proofs.Ytjcefnlidophoaa
open Go.RowKit

def FnPost (r : Except Nat (Int × Nat)) (w : World) (e : Ending) (w' : World) : Prop := w = w' ∧ match r with
  | .error er => e = .returned (.tuple #[.int .i64 0, .int .i64 0, .int .i64 ((er : Nat) : Int)])
  | .ok (n, nx) => e = .returned (.tuple #[.int .i64 n, .int .i64 ((nx : Nat) : Int), .int .i64 0])
theorem fN_err (b : List Nat) (a er : Nat) (h : fN b a = .error er) : er ≠ 0 := by
  unfold fN at h
  split at h
  · rename_i h0
    injection h with h
    exact h ▸ h0
  · cases h
set_option maxRecDepth 100000 in
set_option maxHeartbeats 800000 in
theorem get1n_any (bb : Nat) (v : Value) (l : List Nat) (at_ : Nat) (w : World) (hb : w.heap[bb]? = some (.cells #[v] 27 (0, 0))) (hv : Bs w v l) (hn : l.length ≤ 1099511627776) (hat : at_ ≤ l.length) :
    Calls Try.prog 82 #[.int .i64 (at_ : Int), .pointer (some ⟨bb, 0, none⟩)] w (FnPost (fN l at_) w) := by
  have c0 : w.cell? ⟨bb, 0, none⟩ = some v := cell_block hb 0
  have hb0 := (gu_bounds l at_ hat).2.1
  have hgi := getint_bs v l at_ w hv hn hat
  have HG := Lib.hid hgi
  clear hgi
  have hfn : fN l at_ = if (gu l at_).2.2 ≠ 0 then .error (gu l at_).2.2 else .ok (un (gu l at_).1, (gu l at_).2.1) := rfl
  generalize fN l at_ = F at *
  generalize gu l at_ = g at *
  obtain ⟨n, nx, er⟩ := g
  dsimp only at hb0 hfn
  by_cases he : er = 0
  · rw [if_neg (by simp [he])] at hfn
    subst hfn
    subst he
    clear hb0
    go_enter Try.func82, Try.ntmps82
    go_wp2_with fail
    refine HG.out.mono ?_
    rintro e w1 ⟨rfl, rfl⟩
    go_wp2_with fail
    refine bodyPost_ret (v := .tuple #[.int .i64 (un n), .int .i64 (nx : Int), .int .i64 0]) (by simp [results, Try.results82, go_sem]) rfl ?_
    exact ⟨rfl, rfl⟩
  · rw [if_pos he] at hfn
    subst hfn
    obtain ⟨rfl, rfl⟩ := hb0 he
    clear hb0 he
    go_enter Try.func82, Try.ntmps82
    go_wp2_with fail
    refine HG.out.mono ?_
    rintro e w1 ⟨rfl, rfl⟩
    rw [show un 0 = 0 by decide]
    go_wp2_with fail
    refine bodyPost_ret (v := .tuple #[.int .i64 0, .int .i64 0, .int .i64 (er : Int)]) (by simp [results, Try.results82, go_sem]) rfl ?_
    exact ⟨rfl, rfl⟩

def zv (l : List Int) : List Value := l.map fun n : Int => Value.int .i64 n
theorem i64_info : (Try.prog.info? 2).map (fun i => (i.zero, i.size, i.bytes)) = some (some (.int .i64 0), 1, 8) := by kernel_rfl
def OutNums (r : Except Nat (List Int × Nat)) (w : World) (e : Ending) (w' : World) : Prop := Below w.heap.size w w' ∧ match r with
  | .error er => e = .returned (.tuple #[.slice none 0 0, .int .i64 0, .int .i64 ((er : Nat) : Int)])
  | .ok (ns, nx) => ∃ u, e = .returned (.tuple #[u, .int .i64 ((nx : Nat) : Int), .int .i64 0]) ∧ w'.ownsRow w.heap.size 2 1 u ns.length (zv ns)
set_option maxRecDepth 100000 in
set_option maxHeartbeats 1600000 in
theorem nums_any (bb : Nat) (v : Value) (l : List Nat) (n at_ : Nat) (w : World) (hb : w.heap[bb]? = some (.cells #[v] 27 (0, 0))) (hv : Bs w v l) (hn : l.length ≤ 1099511627776) (hat : at_ ≤ l.length) (hn1 : n ≤ 1000) :
    Calls Try.prog 158 #[.int .i64 (n : Int), .int .i64 (at_ : Int), .func (.func 82) #[] #[.pointer (some ⟨bb, 0, none⟩)]] w (OutNums (many (fN l) n at_) w) := by
  obtain ⟨i0, hi0, hz0, hz1, hz2⟩ := info_parts i64_info
  have H8 := Lib.hid hv.2
  go_enter Try.func158, Try.ntmps158
  go_wp2_with fail
  go_loopw [1, 9, 14] (fun p q i wr => ∃ (j a : Nat) (ns : List Int), j ≤ n ∧ i = .int .i64 (j : Int) ∧ p = .int .i64 (a : Int) ∧ a ≤ l.length ∧ ns.length = j ∧ wr.ownsRow w.heap.size 2 1 q j (zv ns) ∧
      Hid (many (fN l) n at_ = pre ns (many (fN l) (n - j) a)) ∧ Below w.heap.size w wr) (fun _ _ i _ => n - (intOf i).toNat)
  case atStart =>
    refine ⟨0, at_, [], Nat.zero_le _, rfl, rfl, hat, rfl, World.ownsRow_nil _ _ _ _, ?_, Below.refl _ _⟩
    show _ = _
    rw [Nat.sub_zero]
    cases many (fN l) n at_ with
    | error e => rfl
    | ok r => rfl
  case round =>
    obtain ⟨j, a, ns, hj, rfl, rfl, ha, hns, hown, HM, hbr⟩ := hrel
    have q1 := heap_below hb hbr
    have hv1 := hv.below hbr
    by_cases hlt : j < n
    · cases hf : fN l a with
      | error er =>
        have hne := fN_err l a er hf
        have g1 : ((er : Int) != 0) = true := bne_iff_ne.2 (by omega)
        have HE := Lib.hid (many_err (fN l) n j at_ a ns er hlt HM.out hf)
        have HF := Lib.hid hf
        clear HM hf
        go_wp2_with fail
        refine (get1n_any bb v l a _ q1 hv1 hn ha).mono ?_
        rw [HF.out]
        rintro e w1 ⟨rfl, rfl⟩
        go_wp2_with fail
        refine bodyPost_ret (v := .tuple #[.slice none 0 0, .int .i64 0, .int .i64 (er : Int)]) (by simp [results, Try.results158, go_sem]) rfl ?_
        refine ⟨hbr, ?_⟩
        rw [HE.out]
      | ok r =>
        obtain ⟨x, nx⟩ := r
        have hnx := (fN_back l H8.out a x nx ha hf).2.2.1
        have HG := Lib.hid (many_go (fN l) n j at_ a ns x nx hlt HM.out hf)
        have HF := Lib.hid hf
        clear HM hf
        have hat1 : At (wr.alloc (.cells #[.int .i64 x] 2)) (wr.heap.size + 1) (some ⟨wr.heap.size, 0, none⟩) (zv [x]) := by
          have := At.made wr #[.int .i64 x] 2
          simpa [zv] using this
        go_wp2_with (first
          | (go_at_call 82
             refine (get1n_any bb v l a _ q1 hv1 hn ha).mono ?_
             rw [HF.out]
             rintro e w1 ⟨rfl, rfl⟩)
          | (at_builtin
             refine wpList_append_at _ rfl (.tmp 26) (.tmp 28) 22 rfl w.heap.size 2 i0 _ 1 8 Try.underlying22 hi0 hz0 hz1 hz2 rfl (by omega) _ j (zv ns) rfl (hown.alloc _) (wr.heap.size + 1) _ 1 1 (zv [x]) rfl hat1 rfl (by intro u hu; simp [zv] at hu; rw [hu]; rfl) (by unfold maxLen; omega) (by omega) (by have := hbr.size; simp; omega) ?_
             intro v2 w2 hown2 hg2 _)
          | (fail))
        have hown3 : w2.ownsRow w.heap.size 2 1 v2 (j + 1) (zv (ns ++ [x])) := by
          have e : zv (ns ++ [x]) = zv ns ++ zv [x] := by simp [zv]
          rw [e]
          exact hown2
        have hb3 : Below w.heap.size w w2 := (hbr.alloc hbr.size _).trans ((Below.refl _ _).grown hg2 (by have := hbr.size; simp; omega) (fun k hk => (World.ownsRow.lt hown k hk).1))
        clear hown hown2 hg2 hat1
        go_roundw
        case rel => exact ⟨j + 1, nx, ns ++ [x], by omega, by go_num, rfl, hnx, by simp [hns], hown3, HG, hb3⟩
        case measure => simp [intOf]; omega
    · obtain rfl : n = j := by omega
      have HE := Lib.hid (many_end (fN l) n at_ a ns HM.out)
      go_wp2_with fail
      have hform : ∃ A c, u9 = .slice A ns.length c := by
        rcases hown.2 with ⟨h1, h2⟩ | ⟨g, cap, cur, he, _⟩
        · exact ⟨none, 0, by rw [h1, hns, h2]⟩
        · exact ⟨_, cap, by rw [he, hns]⟩
      obtain ⟨A, c, rfl⟩ := hform
      refine bodyPost_ret (v := .tuple #[.slice A ns.length c, .int .i64 (a : Int), .int .i64 0]) (by simp [results, Try.results158, go_sem]) rfl ?_
      refine ⟨hbr, ?_⟩
      rw [HE.out]
      exact ⟨_, rfl, by rw [← hns] at hown; exact hown⟩

set_option maxRecDepth 100000 in
set_option maxHeartbeats 1600000 in
theorem numlist_any (bb : Nat) (v : Value) (l : List Nat) (at_ : Nat) (w : World) (hb : w.heap[bb]? = some (.cells #[v] 27 (0, 0))) (hv : Bs w v l) (hn : l.length ≤ 1099511627776) (hat : at_ ≤ l.length) :
    Calls Try.prog 81 #[v, .int .i64 (at_ : Int), .int .i64 64, .func (.func 82) #[] #[.pointer (some ⟨bb, 0, none⟩)]] w (OutNums (lst l 64 (fN l) at_) w) := by
  have hgb := gu_bounds l at_ hat
  have hgi := getuint_bs v l at_ w hv hn hat
  have HG := Lib.hid hgi
  have hm : ∀ n nx : Nat, (gu l at_) = (n, nx, 0) → n ≤ 1000 → Calls Try.prog 158 #[.int .i64 (n : Int), .int .i64 (nx : Int), .func (.func 82) #[] #[.pointer (some ⟨bb, 0, none⟩)]] w (OutNums (many (fN l) n nx) w) := by
    intro n nx hg h1
    have := hgb.2.2 (by rw [hg])
    rw [hg] at this
    exact nums_any bb v l n nx w hb hv hn (by dsimp only at this; omega) h1
  have hl : lst l 64 (fN l) at_ = if (gu l at_).2.2 ≠ 0 then .error (gu l at_).2.2 else if 64 < (gu l at_).1 then .error 14 else many (fN l) (gu l at_).1 (gu l at_).2.1 := rfl
  have HM := Lib.hid hm
  clear hgi hm
  have hu := hgb.1
  have hz := hgb.2.1
  clear hgb
  generalize lst l 64 (fN l) at_ = L at *
  generalize gu l at_ = g at *
  obtain ⟨n, nx, er⟩ := g
  dsimp only at hu hz hl
  by_cases he : er = 0
  · rw [if_neg (by simp [he])] at hl
    subst he
    by_cases h64 : 64 < n
    · rw [if_pos h64] at hl
      subst hl
      have k1 : decide ((64 : Int) < (n : Int)) = true := decide_eq_true (by omega)
      have k2 : decide (64 < n) = true := decide_eq_true h64
      go_enter Try.func81, Try.ntmps81
      go_wp2_with fail
      refine HG.out.mono ?_
      rintro e w1 ⟨rfl, rfl⟩
      go_wp2_with fail
      refine bodyPost_ret (v := .tuple #[.slice none 0 0, .int .i64 0, .int .i64 14]) (by simp [results, Try.results81, go_sem]) rfl ?_
      exact ⟨Below.refl _ _, rfl⟩
    · rw [if_neg h64] at hl
      subst hl
      have k1 : decide ((64 : Int) < (n : Int)) = false := decide_eq_false (by omega)
      have k2 : decide (64 < n) = false := decide_eq_false h64
      have s1 : IntKind.i64.wrap (n : Int) = (n : Int) := by rw [IntKind.wrap_i64]; omega
      have hcall := HM.out n nx rfl (by omega)
      generalize many (fN l) n nx = R at *
      have HC := Lib.hid hcall
      clear hcall
      go_enter Try.func81, Try.ntmps81
      go_wp2_with fail
      refine HG.out.mono ?_
      rintro e w1 ⟨rfl, rfl⟩
      go_wp2_with fail
      refine HC.out.mono ?_
      rintro e w2 ⟨hb2, hR⟩
      cases R with
      | error er2 =>
        subst hR
        go_wp2_with fail
        refine bodyPost_ret (v := .tuple #[.slice none 0 0, .int .i64 0, .int .i64 (er2 : Int)]) (by simp [results, Try.results81, go_sem]) rfl ?_
        exact ⟨hb2, rfl⟩
      | ok r =>
        obtain ⟨ns, n2⟩ := r
        obtain ⟨u, rfl, hown⟩ := hR
        obtain ⟨A, c, rfl⟩ : ∃ A c, u = .slice A ns.length c := by
          rcases hown.2 with ⟨h1, h2⟩ | ⟨g, cap, cur, he, _⟩
          · exact ⟨none, 0, by rw [h1, h2]⟩
          · exact ⟨_, cap, he⟩
        go_wp2_with fail
        refine bodyPost_ret (v := .tuple #[.slice A ns.length c, .int .i64 (n2 : Int), .int .i64 0]) (by simp [results, Try.results81, go_sem]) rfl ?_
        exact ⟨hb2, _, rfl, hown⟩
  · rw [if_pos he] at hl
    subst hl
    obtain ⟨rfl, rfl⟩ := hz he
    have k1 : ((er : Int) != 0) = true := bne_iff_ne.2 (by omega)
    clear hz he
    go_enter Try.func81, Try.ntmps81
    go_wp2_with fail
    refine HG.out.mono ?_
    rintro e w1 ⟨rfl, rfl⟩
    go_wp2_with fail
    refine bodyPost_ret (v := .tuple #[.slice none 0 0, .int .i64 0, .int .i64 (er : Int)]) (by simp [results, Try.results81, go_sem]) rfl ?_
    exact ⟨Below.refl _ _, rfl⟩
end Go.Proofs.Ytjcefnlidophoaa
