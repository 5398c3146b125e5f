/- drover/frame.Unpack's closure, getMany at int: the walks. -/
import Derived.Test.YtjcefnlidophoaaPack
namespace Go.Proofs.Ytjcefnlidophoaa
open Go.RowKit

set_option maxRecDepth 100000 in
set_option maxHeartbeats 800000 in
theorem unpack1_any (bb : Nat) (v : Value) (l : List Nat) (at_ : Nat) (w : World) (hb : w.heap[bb]? = some (.cells #[v] 27 (0, 0))) (hv : Bs w v l) (hn : l.length ≤ 1099511627776) (hat : at_ ≤ l.length) :
    Calls Try.prog 91 #[.int .i64 (at_ : Int), .pointer (some ⟨bb, 0, none⟩)] w (FpPost (fP l at_) w) := by
  have c0 : w.cell? ⟨bb, 0, none⟩ = some v := cell_block hb 0
  have hnum := number_any v l at_ w hv hn hat
  have HN := Lib.hid hnum
  clear hnum
  cases hr : fP l at_ with
  | error er =>
    rw [hr] at HN
    clear hr
    go_enter Try.func91, Try.ntmps91
    go_wp2_with fail
    refine HN.out.mono ?_
    rintro e w1 ⟨rfl, rfl⟩
    go_wp2_with fail
    refine bodyPost_ret (v := .tuple #[.int .i64 0, .int .i64 0, .int .i64 (er : Int)]) (by simp [results, Try.results91, go_sem]) rfl ?_
    exact ⟨rfl, rfl⟩
  | ok r =>
    obtain ⟨n, nx⟩ := r
    rw [hr] at HN
    clear hr
    go_enter Try.func91, Try.ntmps91
    go_wp2_with fail
    refine HN.out.mono ?_
    rintro e w1 ⟨rfl, rfl⟩
    go_wp2_with fail
    refine bodyPost_ret (v := .tuple #[.int .i64 (n : Int), .int .i64 (nx : Int), .int .i64 0]) (by simp [results, Try.results91, go_sem]) rfl ?_
    exact ⟨rfl, rfl⟩

def iv (l : List Nat) : List Value := l.map fun n : Nat => Value.int .i64 (n : Int)
theorem int_info : (Try.prog.info? 3).map (fun i => (i.zero, i.size, i.bytes)) = some (some (.int .i64 0), 1, 8) := by kernel_rfl
def OutInts (r : Except Nat (List Nat × Nat)) (w : World) (e : Ending) (w' : World) : Prop := Below w.heap.size w w' ∧ match r with
  | .error er => e = .returned (.tuple #[.slice none 0 0, .int .i64 0, .int .i64 ((er : Nat) : Int)])
  | .ok (ns, nx) => ∃ u, e = .returned (.tuple #[u, .int .i64 ((nx : Nat) : Int), .int .i64 0]) ∧ w'.ownsRow w.heap.size 3 1 u ns.length (iv ns)
def pre {α : Type} (ns : List α) : Except Nat (List α × Nat) → Except Nat (List α × Nat)
  | .error e => .error e
  | .ok (l, k) => .ok (ns ++ l, k)
/-- What is got already, and what is left. -/
theorem many_go {α : Type} (f : Nat → Except Nat (α × Nat)) (n j at_ a : Nat) (ns : List α) (x : α) (nx : Nat) (hj : j < n) (h : many f n at_ = pre ns (many f (n - j) a)) (hf : f a = .ok (x, nx)) :
    many f n at_ = pre (ns ++ [x]) (many f (n - (j + 1)) nx) := by
  rw [h, show n - j = (n - (j + 1)) + 1 by omega, many, hf]
  dsimp only
  cases many f (n - (j + 1)) nx with
  | error e => rfl
  | ok r =>
    obtain ⟨l, k⟩ := r
    simp [pre]
theorem many_err {α : Type} (f : Nat → Except Nat (α × Nat)) (n j at_ a : Nat) (ns : List α) (er : Nat) (hj : j < n) (h : many f n at_ = pre ns (many f (n - j) a)) (hf : f a = .error er) : many f n at_ = .error er := by
  rw [h, show n - j = (n - (j + 1)) + 1 by omega, many, hf]
  rfl
theorem many_end {α : Type} (f : Nat → Except Nat (α × Nat)) (n at_ a : Nat) (ns : List α) (h : many f n at_ = pre ns (many f (n - n) a)) : many f n at_ = .ok (ns, a) := by
  rw [h, Nat.sub_self, many]
  simp [pre]
theorem fP_next (b : List Nat) (h8 : ∀ x ∈ b, x < 256) (a n nx : Nat) (ha : a ≤ b.length) (h : fP b a = .ok (n, nx)) : nx ≤ b.length := (fP_back b h8 a n nx ha h).2.2.1
theorem fP_err (b : List Nat) (a er : Nat) (h : fP b a = .error er) : er ≠ 0 := by
  unfold fP at h
  split at h
  · rename_i h0
    injection h with h
    exact h ▸ h0
  · split at h
    · injection h with h
      omega
    · cases h
set_option maxRecDepth 100000 in
set_option maxHeartbeats 1600000 in
theorem ints_any (bb : Nat) (v : Value) (l : List Nat) (n at_ : Nat) (w : World) (hb : w.heap[bb]? = some (.cells #[v] 27 (0, 0))) (hv : Bs w v l) (hn : l.length ≤ 1099511627776) (hat : at_ ≤ l.length) (hn1 : n ≤ 1000) :
    Calls Try.prog 90 #[.int .i64 (n : Int), .int .i64 (at_ : Int), .func (.func 91) #[] #[.pointer (some ⟨bb, 0, none⟩)]] w (OutInts (many (fP l) n at_) w) := by
  obtain ⟨i0, hi0, hz0, hz1, hz2⟩ := info_parts int_info
  have H8 := Lib.hid hv.2
  go_enter Try.func90, Try.ntmps90
  go_wp2_with fail
  go_loopw [1, 9, 14] (fun p q i wr => ∃ (j a : Nat) (ns : List Nat), j ≤ n ∧ i = .int .i64 (j : Int) ∧ p = .int .i64 (a : Int) ∧ a ≤ l.length ∧ ns.length = j ∧ wr.ownsRow w.heap.size 3 1 q j (iv ns) ∧
      Hid (many (fP l) n at_ = pre ns (many (fP l) (n - j) a)) ∧ Below w.heap.size w wr) (fun _ _ i _ => n - (intOf i).toNat)
  case atStart =>
    refine ⟨0, at_, [], Nat.zero_le _, rfl, rfl, hat, rfl, World.ownsRow_nil _ _ _ _, ?_, Below.refl _ _⟩
    show _ = _
    rw [Nat.sub_zero]
    cases many (fP l) n at_ with
    | error e => rfl
    | ok r => rfl
  case round =>
    obtain ⟨j, a, ns, hj, rfl, rfl, ha, hns, hown, HM, hbr⟩ := hrel
    have q1 := heap_below hb hbr
    have hv1 := hv.below hbr
    by_cases hlt : j < n
    · cases hf : fP l a with
      | error er =>
        have hne := fP_err l a er hf
        have g1 : ((er : Int) != 0) = true := bne_iff_ne.2 (by omega)
        have HE := Lib.hid (many_err (fP l) n j at_ a ns er hlt HM.out hf)
        have HF := Lib.hid hf
        clear HM hf
        go_wp2_with fail
        refine (unpack1_any bb v l a _ q1 hv1 hn ha).mono ?_
        rw [HF.out]
        rintro e w1 ⟨rfl, rfl⟩
        go_wp2_with fail
        refine bodyPost_ret (v := .tuple #[.slice none 0 0, .int .i64 0, .int .i64 (er : Int)]) (by simp [results, Try.results90, go_sem]) rfl ?_
        refine ⟨hbr, ?_⟩
        rw [HE.out]
      | ok r =>
        obtain ⟨x, nx⟩ := r
        have hnx := fP_next l H8.out a x nx ha hf
        have HG := Lib.hid (many_go (fP l) n j at_ a ns x nx hlt HM.out hf)
        have HF := Lib.hid hf
        clear HM hf
        have hat1 : At (wr.alloc (.cells #[.int .i64 (x : Int)] 3)) (wr.heap.size + 1) (some ⟨wr.heap.size, 0, none⟩) (iv [x]) := by
          have := At.made wr #[.int .i64 (x : Int)] 3
          simpa [iv] using this
        go_wp2_with (first
          | (go_at_call 91
             refine (unpack1_any bb v l a _ q1 hv1 hn ha).mono ?_
             rw [HF.out]
             rintro e w1 ⟨rfl, rfl⟩)
          | (at_builtin
             refine wpList_append_at _ rfl (.tmp 26) (.tmp 28) 136 rfl w.heap.size 3 i0 _ 1 8 Try.underlying136 hi0 hz0 hz1 hz2 rfl (by omega) _ j (iv ns) rfl (hown.alloc _) (wr.heap.size + 1) _ 1 1 (iv [x]) rfl hat1 rfl (by intro u hu; simp [iv] at hu; rw [hu]; rfl) (by unfold maxLen; omega) (by omega) (by have := hbr.size; simp; omega) ?_
             intro v2 w2 hown2 hg2 _)
          | (fail))
        have hown3 : w2.ownsRow w.heap.size 3 1 v2 (j + 1) (iv (ns ++ [x])) := by
          have e : iv (ns ++ [x]) = iv ns ++ iv [x] := by simp [iv]
          rw [e]
          exact hown2
        have hb3 : Below w.heap.size w w2 := (hbr.alloc hbr.size _).trans ((Below.refl _ _).grown hg2 (by have := hbr.size; simp; omega) (fun k hk => (World.ownsRow.lt hown k hk).1))
        clear hown hown2 hg2 hat1
        go_roundw
        case rel => exact ⟨j + 1, nx, ns ++ [x], by omega, by go_num, rfl, hnx, by simp [hns], hown3, HG, hb3⟩
        case measure => simp [intOf]; omega
    · obtain rfl : n = j := by omega
      have HE := Lib.hid (many_end (fP l) n at_ a ns HM.out)
      go_wp2_with fail
      have hform : ∃ A c, u9 = .slice A ns.length c := by
        rcases hown.2 with ⟨h1, h2⟩ | ⟨g, cap, cur, he, _⟩
        · exact ⟨none, 0, by rw [h1, hns, h2]⟩
        · exact ⟨_, cap, by rw [he, hns]⟩
      obtain ⟨A, c, rfl⟩ := hform
      refine bodyPost_ret (v := .tuple #[.slice A ns.length c, .int .i64 (a : Int), .int .i64 0]) (by simp [results, Try.results90, go_sem]) rfl ?_
      refine ⟨hbr, ?_⟩
      rw [HE.out]
      exact ⟨_, rfl, by rw [← hns] at hown; exact hown⟩
end Go.Proofs.Ytjcefnlidophoaa
