/- drover/disk: what does nothing but ask, and what an operation does: the walks. -/
import Derived.Test.YtcmopnkldplngaaDk
import Derived.BigGuardPart
import Derived.BigQuiet
import Derived.Deep.RegionLaw
import Derived.Deep.DeepCutAuto
import Derived.Laws.CopyOwn
import Derived.LaidEqlPtr
namespace Go.Proofs.Ytcmopnkldplngaa
open Go.RowKit

theorem ptr_same (a : Addr) (w : World) : (binOp .eql 24 (.pointer (some a)) (.pointer (some a))).run Try.prog w = .ok (.bool true) w := by
  obtain ⟨i, hi⟩ := Option.isSome_iff_exists.1 (show (Try.prog.info? 42).isSome = true by kernel_rfl)
  exact run_eql_ptr_same w a Try.underlying24 hi
section
variable {w : World} {base p : Nat} {r : Option Nat} {d : Pd}

theorem made_any (h : Dk w base p r d) : Calls Try.prog 26 #[.pointer (some ⟨p, 0, none⟩)] w fun e w' => e = .returned (.bool true) ∧ w = w' := by
  obtain ⟨v, hr, hb, hok, hown, hh⟩ := h
  obtain ⟨⟨c0, c1, c2, c3, c4, c5, c6⟩, -⟩ := box7 hh
  have hpe := ptr_same ⟨p, 0, none⟩
  go_enter Try.func26, Try.ntmps26
  go_wp2_with fail
  go_ret
  exact ⟨rfl, rfl⟩
def downE (d : Pd) : Int := if d.down = true then 15 else 0
theorem ready_any (h : Dk w base p r d) : Calls Try.prog 20 #[.pointer (some ⟨p, 0, none⟩)] w fun e w' => e = .returned (.int .i64 (downE d)) ∧ w = w' := by
  obtain ⟨v, hr, hb, hok, hown, hh⟩ := id h
  obtain ⟨⟨c0, c1, c2, c3, c4, c5, c6⟩, -⟩ := box7 hh
  unfold downE
  cases hd : d.down with
  | false =>
    rw [hd] at c6
    go_enter Try.func20, Try.ntmps20
    go_wp2_with fail
    refine (made_any h).mono ?_
    rintro e w1 ⟨rfl, rfl⟩
    go_wp2_with fail
    go_ret
    exact ⟨rfl, rfl⟩
  | true =>
    rw [hd] at c6
    go_enter Try.func20, Try.ntmps20
    go_wp2_with fail
    refine (made_any h).mono ?_
    rintro e w1 ⟨rfl, rfl⟩
    go_wp2_with fail
    go_ret
    exact ⟨rfl, rfl⟩
theorem size_any (h : Dk w base p r d) : Calls Try.prog 10 #[.pointer (some ⟨p, 0, none⟩)] w fun e w' => e = .returned (.int .i64 (d.bs.length : Int)) ∧ w = w' := by
  obtain ⟨v, hr, hb, hok, hown, hh⟩ := id h
  obtain ⟨A, c, rfl, hc, hcm, -⟩ := hown.form
  obtain ⟨⟨c0, c1, c2, c3, c4, c5, c6⟩, -⟩ := box7 hh
  go_enter Try.func10, Try.ntmps10
  go_wp2_with fail
  refine (made_any h).mono ?_
  rintro e w1 ⟨rfl, rfl⟩
  go_wp2_with fail
  go_ret
  exact ⟨rfl, rfl⟩

/-- What a call leaves: the disk reads as d', and all else is as it was. -/
def After (w : World) (base p : Nat) (r : Option Nat) (d' : Pd) (w' : World) : Prop := ∃ r', Dk w' base p r' d' ∧ Kr p r w w' ∧ Rw w r r'
theorem After.refl (h : Dk w base p r d) : After w base p r d w := ⟨r, h, Kr.refl _ _ _, .inl rfl⟩
theorem leave_any (h : Dk w base p r d) (n : Nat) (hn : n ≤ d.bs.length) :
    Calls Try.prog 32 #[.pointer (some ⟨p, 0, none⟩), .int .i64 (n : Int)] w fun e w' => e = .returned (.tuple #[]) ∧ After w base p r (d.leave n) w' := by
  obtain ⟨v, rfl, hb, hok, hown, hh⟩ := id h
  obtain ⟨A, c, rfl, hc, hcm, -⟩ := hown.form
  obtain ⟨⟨c0, c1, c2, c3, c4, c5, c6⟩, ⟨f0, f1, f2, f3, f4, f5, f6⟩⟩ := box7 hh
  have hm := hok.most
  have hl := hok.len
  have hne := own_ne hown hh (by decide)
  have hp := hown.pre rfl n hn
  go_enter Try.func32, Try.ntmps32
  go_wp2_with fail
  go_end0
  refine ⟨rfl, _, ⟨_, rfl, hb, hok.leave hn, ?_, heap_set (heap_set hh 2 _) 3 _⟩, ((Kr.refl _ _ _).set _ _).set _ _, .inl hp.2⟩
  refine own_kr (r := none) hp.1 (((Kr.refl p _ _).set _ _).set _ _) ?_ (by simp)
  rw [hp.2]
  exact hne

theorem Dk.set (h : Dk w base p r d) (d' : Pd) (w' : World) (hk : Kr p r w w') (hok : d'.Ok) (hbs : d'.bs = d.bs)
    (hh : ∀ v, w.heap[p]? = some (.cells #[.pointer (some ⟨p, 0, none⟩), .int .i64 (d.most : Int), v, .int .i64 (d.syn : Int), .bool d.armed, .int .i64 (d.left : Int), .bool d.down] 42 (0, 0)) →
      w'.heap[p]? = some (.cells #[.pointer (some ⟨p, 0, none⟩), .int .i64 (d'.most : Int), v, .int .i64 (d'.syn : Int), .bool d'.armed, .int .i64 (d'.left : Int), .bool d'.down] 42 (0, 0)))
    (hro : ∀ g, r = some g → w'.heap[g]? = w.heap[g]?) : Dk w' base p r d' := by
  obtain ⟨v, rfl, hb, _, hown, hc⟩ := h
  refine ⟨v, rfl, hb, hok, ?_, hh v hc⟩
  rw [hbs]
  refine ⟨hown.1, ?_⟩
  rcases hown.2 with h0 | ⟨g, cap, cur, rfl, h1, h2, h3⟩
  · exact .inl h0
  · exact .inr ⟨g, cap, cur, rfl, h1, (hro g rfl).trans h2, h3⟩
theorem row_set (h : Dk w base p r d) {w' : World} (i : Nat) (x : Value) (hw : ∀ g, r = some g → w'.heap[g]? = w.heap[g]?) : ∀ g, r = some g → (w'.setCell ⟨p, i, none⟩ x).heap[g]? = w.heap[g]? := by
  intro g hg
  refine (Below.heap_setCell _ _ _ _ ?_).trans (hw g hg)
  obtain ⟨v, rfl, hb, _, hown, hc⟩ := h
  intro e
  subst e
  exact own_ne hown hc (by decide) hg

set_option maxHeartbeats 400000 in
theorem operate_any (n : Nat) (cs : Array Value) (f : Pd → Pd) (hn : n = 22 ∨ n = 39 ∨ n = 33) (h : Dk w base p r d)
    (hf : ∀ w1, Dk w1 base p r d.less → Kp p w w1 → Calls Try.prog n cs w1 fun e w2 => e = .returned (.tuple #[]) ∧ After w1 base p r (f d.less) w2) :
    Calls Try.prog 21 #[.pointer (some ⟨p, 0, none⟩), .func (.func n) #[] cs] w fun e w' => e = .returned (.int .i64 ((d.op f).2 : Int)) ∧ After w base p r (d.op f).1 w' := by
  obtain ⟨v, hr, hb, hok, hown, hh⟩ := id h
  obtain ⟨⟨c0, c1, c2, c3, c4, c5, c6⟩, ⟨f0, f1, f2, f3, f4, f5, f6⟩⟩ := box7 hh
  have hl := hok.left
  unfold Pd.op
  cases ha : d.armed with
  | false =>
    rw [ha] at c4
    have hless : d.less = d := by unfold Pd.less; rw [if_neg (by rw [ha]; decide)]
    rw [if_neg (by simp)]
    rw [hless] at hf ⊢
    rcases hn with rfl | rfl | rfl
    all_goals
      go_enter Try.func21, Try.ntmps21
      go_wp2_with fail
      refine (hf w h (Kp.refl _ _)).mono ?_
      rintro e w2 ⟨rfl, hd2⟩
      go_wp2_with fail
      go_ret
      exact ⟨rfl, hd2⟩
  | true =>
    rw [ha] at c4
    by_cases h0 : d.left = 0
    · rw [h0] at c5
      rw [if_pos ⟨rfl, h0⟩]
      go_enter Try.func21, Try.ntmps21
      go_wp2_with fail
      go_ret
      refine ⟨rfl, r, h.set d.fails _ (((Kr.refl _ _ _).set _ _).set _ _) hok.fails rfl ?_ (row_set h _ _ (row_set h _ _ fun _ _ => rfl)), ((Kr.refl _ _ _).set _ _).set _ _, .inl rfl⟩
      intro v hv
      exact heap_set (heap_set hv 4 _) 6 _
    · rw [if_neg (by simp [h0])]
      have hless : d.less = { d with left := d.left - 1 } := by unfold Pd.less; rw [if_pos ha]
      have hne : ((d.left : Int) == 0) = false := by simp; omega
      have hs : IntKind.i64.wrap ((d.left : Int) - 1) = ((d.left - 1 : Nat) : Int) := by rw [IntKind.wrap_i64]; omega
      rcases hn with rfl | rfl | rfl
      all_goals
        go_enter Try.func21, Try.ntmps21
        go_wp2_with fail
        have hd1 : Dk (w.setCell ⟨p, 5, none⟩ (.int .i64 ((d.left - 1 : Nat) : Int))) base p r d.less := by
          rw [hless]
          exact h.set { d with left := d.left - 1 } _ ((Kr.refl _ _ _).set _ _) (hless ▸ hok.less) rfl (fun v hv => heap_set hv 5 _) (row_set h _ _ fun _ _ => rfl)
        have hk1 : Kr p r w (w.setCell ⟨p, 5, none⟩ (.int .i64 ((d.left - 1 : Nat) : Int))) := (Kr.refl _ _ _).set _ _
        refine (hf _ hd1 ((Kp.refl _ _).set rfl _)).mono ?_
        rintro e w2 ⟨rfl, r2, hd2, hk2, hr2⟩
        go_wp2_with fail
        go_ret
        exact ⟨rfl, r2, hd2, hk1.trans (.inl rfl) hk2, Rw.trans hk1.size (.inl rfl) hr2⟩
end
end Go.Proofs.Ytcmopnkldplngaa
