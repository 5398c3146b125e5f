/- droverlaw04.does, alike, played: the walks. -/
import Derived.Test.YtmjgoeigjjabmaaOps
import Derived.Test.YtmjgoeigjjabmaaDop3
namespace Go.Proofs.Ytmjgoeigjjabmaa
open Go.RowKit

/-- What a call of a script does. -/
def Pd.step (d : Pd) (x : Po) : Pd × Nat :=
  if x.k = 1 ∨ x.k = 2 then d.app x.b else if x.k = 3 then d.sync else if x.k = 4 then d.cut x.n else if x.k = 5 then (d.arm x.n, 0) else if x.k = 6 then (d.crash x.n, 0) else (d, 0)
theorem Pd.Ok.step {d : Pd} (h : d.Ok) {x : Po} (h8 : ∀ y ∈ x.b, y < 256) (hn : x.n ≤ 9223372036854775807) : (d.step x).1.Ok := by
  unfold Pd.step
  split
  · exact h.app h8
  · split
    · exact h.sync
    · split
      · exact h.cut _
      · split
        · exact h.arm hn
        · split
          · exact h.crash _
          · exact h
section
variable {w : World} {base p : Nat} {r : Option Nat} {d : Pd}
set_option maxRecDepth 100000 in
set_option maxHeartbeats 1000000 in
theorem does_any (y0 y1 y2 : Value) (x : Po) (B : Nat) (hB : B ≤ w.heap.size) (hx : OpIs w B y0 y1 y2 x) (h : Dk w base p r d) :
    Calls Try.prog 34 #[.pointer (some ⟨p, 0, none⟩), .agg #[y0, y1, y2]] w fun e w' => e = .returned (.int .i64 ((d.step x).2 : Int)) ∧ After w base p r (d.step x).1 w' := by
  obtain ⟨A, c, rfl, rfl, rfl, hc, hat, h8, hk0, hk1, hn0, hn1⟩ := hx
  have hW := (Below.refl w.heap.size w).alloc (Nat.le_refl _) (.cells #[.int .i64 x.k, .int .i64 x.n, .slice A x.b.length c] 42)
  have hbox := heap_new w (.cells #[.int .i64 x.k, .int .i64 x.n, .slice A x.b.length c] 42)
  have c0 := cell_block hbox 0
  have c1 := cell_block hbox 1
  have c2 := cell_block hbox 2
  have hd := h.below hW
  have hv : Bs (w.alloc (.cells #[.int .i64 x.k, .int .i64 x.n, .slice A x.b.length c] 42)) (.slice A x.b.length c) x.b := (Bs.of_at (hat.more hB) rfl hc h8).below hW
  have done : ∀ (d' : Pd) (w' : World), After (w.alloc (.cells #[.int .i64 x.k, .int .i64 x.n, .slice A x.b.length c] 42)) base p r d' w' → After w base p r d' w' := fun _ _ ha => .of_below hW ha
  have DONE := Lib.hid done
  clear done hbox hat
  by_cases h1 : x.k = 1
  · have e : d.step x = d.app x.b := by unfold Pd.step; rw [if_pos (.inl h1)]
    have t1 : (x.k == 1) = true := by rw [h1]; rfl
    rw [e]
    clear h1 e
    go_enter Try.func34, Try.ntmps34
    go_wp2_with fail
    refine (append_any _ _ hd hv).mono ?_
    rintro e w1 ⟨rfl, ha⟩
    go_wp2_with fail
    go_ret
    exact ⟨rfl, DONE.out _ _ ha⟩
  have t1 : (x.k == 1) = false := beq_eq_false_iff_ne.2 h1
  by_cases h2 : x.k = 2
  · have e : d.step x = d.app x.b := by unfold Pd.step; rw [if_pos (.inr h2)]
    have t2 : (x.k == 2) = true := by rw [h2]; rfl
    rw [e]
    clear h2 e
    go_enter Try.func34, Try.ntmps34
    go_wp2_with fail
    refine (append_any _ _ hd hv).mono ?_
    rintro e w1 ⟨rfl, ha⟩
    go_wp2_with fail
    go_ret
    exact ⟨rfl, DONE.out _ _ ha⟩
  have t2 : (x.k == 2) = false := beq_eq_false_iff_ne.2 h2
  by_cases h3 : x.k = 3
  · have e : d.step x = d.sync := by unfold Pd.step; rw [if_neg (by omega), if_pos h3]
    have t3 : (x.k == 3) = true := by rw [h3]; rfl
    rw [e]
    clear h3 e
    go_enter Try.func34, Try.ntmps34
    go_wp2_with fail
    refine (sync_any hd).mono ?_
    rintro e w1 ⟨rfl, ha⟩
    go_wp2_with fail
    go_ret
    exact ⟨rfl, DONE.out _ _ ha⟩
  have t3 : (x.k == 3) = false := beq_eq_false_iff_ne.2 h3
  by_cases h4 : x.k = 4
  · have e : d.step x = d.cut x.n := by unfold Pd.step; rw [if_neg (by omega), if_neg h3, if_pos h4]
    have t4 : (x.k == 4) = true := by rw [h4]; rfl
    rw [e]
    clear h4 e
    go_enter Try.func34, Try.ntmps34
    go_wp2_with fail
    refine (cut_any x.n hn0 hn1 hd).mono ?_
    rintro e w1 ⟨rfl, ha⟩
    go_wp2_with fail
    go_ret
    exact ⟨rfl, DONE.out _ _ ha⟩
  have t4 : (x.k == 4) = false := beq_eq_false_iff_ne.2 h4
  by_cases h5 : x.k = 5
  · have e : d.step x = (d.arm x.n, 0) := by unfold Pd.step; rw [if_neg (by omega), if_neg h3, if_neg h4, if_pos h5]
    have t5 : (x.k == 5) = true := by rw [h5]; rfl
    rw [e]
    clear h5 e
    go_enter Try.func34, Try.ntmps34
    go_wp2_with fail
    refine (arm_any x.n hn1 hd).mono ?_
    rintro e w1 ⟨rfl, ha⟩
    go_wp2_with fail
    go_ret
    exact ⟨rfl, DONE.out _ _ ha⟩
  have t5 : (x.k == 5) = false := beq_eq_false_iff_ne.2 h5
  by_cases h6 : x.k = 6
  · have e : d.step x = (d.crash x.n, 0) := by unfold Pd.step; rw [if_neg (by omega), if_neg h3, if_neg h4, if_neg h5, if_pos h6]
    have t6 : (x.k == 6) = true := by rw [h6]; rfl
    rw [e]
    clear h6 e
    go_enter Try.func34, Try.ntmps34
    go_wp2_with fail
    refine (crash_any x.n hn0 hn1 hd).mono ?_
    rintro e w1 ⟨rfl, ha⟩
    go_wp2_with fail
    go_ret
    exact ⟨rfl, DONE.out _ _ ha⟩
  · have t6 : (x.k == 6) = false := beq_eq_false_iff_ne.2 h6
    have e : d.step x = (d, 0) := by unfold Pd.step; rw [if_neg (by omega), if_neg h3, if_neg h4, if_neg h5, if_neg h6]
    rw [e]
    go_enter Try.func34, Try.ntmps34
    go_wp2_with fail
    go_ret
    exact ⟨rfl, DONE.out _ _ (.refl hd)⟩

set_option maxHeartbeats 1000000 in
theorem alike_any {base' q : Nat} {r' : Option Nat} {d' : Pd} (h : Dk w base p r d) (h' : Dk w base' q r' d') (e1 : d.bs = d'.bs) (e2 : d.syn = d'.syn) (e3 : d.down = d'.down) :
    Calls Try.prog 33 #[.pointer (some ⟨p, 0, none⟩), .pointer (some ⟨q, 0, none⟩)] w fun e w' => e = .returned (.bool true) ∧ Below w.heap.size w w' := by
  have er : d'.read = d.read := by unfold Pd.read; rw [e1, e3]
  have ER := Lib.hid er
  have E1 := Lib.hid e1
  have E2 := Lib.hid e2
  have E3 := Lib.hid e3
  clear e1 e2 e3 er
  have hbb : ∀ b : Bool, (b == b) = true := by decide
  go_enter Try.func33, Try.ntmps33
  go_wp2_with fail
  refine (read_any h).mono ?_
  rintro e w1 ⟨v1, rfl, -, hv1, hb1⟩
  have hd1 := h.below hb1
  have hd1' := h'.below hb1
  obtain ⟨⟨A1, c1, rfl, -, -⟩, -⟩ := id hv1
  go_wp2_with fail
  refine (read_any hd1').mono ?_
  rintro e w2 ⟨v2, rfl, -, hv2, hb2⟩
  have hd2 := hd1.below hb2
  have hd2' := hd1'.below hb2
  have hv12 := hv1.below hb2
  rw [ER.out] at hv2 ⊢
  obtain ⟨⟨A2, c2, rfl, -, -⟩, -⟩ := id hv2
  have hb := nxt hb1 hb2
  go_wp2_with fail
  refine (same_bs _ _ _ _ true _ hv12 hv2 (by simp)).mono ?_
  rintro e wx ⟨rfl, rfl⟩
  go_wp2_with fail
  refine (down_any hd2).mono ?_
  rintro e wx ⟨rfl, rfl⟩
  go_wp2_with fail
  refine (down_any hd2').mono ?_
  rintro e wx ⟨rfl, rfl⟩
  rw [← E3.out]
  go_wp2_with fail
  refine (size_any hd2).mono ?_
  rintro e wx ⟨rfl, rfl⟩
  go_wp2_with fail
  refine (size_any hd2').mono ?_
  rintro e wx ⟨rfl, rfl⟩
  rw [← E1.out]
  go_wp2_with fail
  refine (synced_any hd2).mono ?_
  rintro e wx ⟨rfl, rfl⟩
  go_wp2_with fail
  refine (synced_any hd2').mono ?_
  rintro e wx ⟨rfl, rfl⟩
  rw [← E2.out]
  go_wp2_with fail
  go_ret
  exact ⟨rfl, hb⟩
end
/-- Two disks side by side that share nothing. -/
structure Two (w : World) (base p : Nat) (r : Option Nat) (d : Pd) (q : Nat) (r' : Option Nat) (d' : Pd) : Prop where
  one : Dk w base p r d
  two : Dk w base q r' d'
  ne : p ≠ q
  sep : ∀ g, r = some g → r' ≠ some g
section
variable {w w' : World} {base p q : Nat} {r r' r2 : Option Nat} {d d' d2 : Pd}
theorem Two.symm (h : Two w base p r d q r' d') : Two w base q r' d' p r d := ⟨h.two, h.one, h.ne.symm, fun g e e' => h.sep g e' e⟩
theorem Two.left (h : Two w base p r d q r' d') (ha : After w base p r d2 w') : ∃ r2, Two w' base p r2 d2 q r' d' ∧ Kr p r w w' := by
  obtain ⟨r2, h1, h2, h3⟩ := ha
  obtain ⟨v1, _, _, _, _, hc1⟩ := id h.one
  obtain ⟨v2, _, _, _, _, hc2⟩ := id h.two
  refine ⟨r2, ⟨h1, h.two.other h2 h.ne.symm (h.one.row_ne hc2 (by decide)) (h.two.row_ne hc1 (by decide)) (fun g e e' => h.sep g e' e), h.ne, fun g e => ?_⟩, h2⟩
  rcases h3 with rfl | ⟨k, rfl, hk⟩
  · exact h.sep g e
  · obtain rfl := Option.some.inj e
    intro e'
    have := (h.two.row_lt e').2
    omega
theorem Two.below (h : Two w base p r d q r' d') (hb : Below w.heap.size w w') : Two w' base p r d q r' d' := ⟨h.one.below hb, h.two.below hb, h.ne, h.sep⟩
end
/-- A script's first calls, but those of too many bytes. -/
def Pd.run (d : Pd) (l : List Po) : Pd := l.foldl (fun d x => if x.b.length ≤ 200 then (d.step x).1 else d) d
theorem Pd.run_step (d : Pd) (l : List Po) (j : Nat) (h : j < l.length) : d.run (l.take (j + 1)) = if l[j].b.length ≤ 200 then ((d.run (l.take j)).step l[j]).1 else d.run (l.take j) := by
  unfold Pd.run
  rw [List.take_succ_eq_append_getElem h, List.foldl_append]
  rfl
end Go.Proofs.Ytmjgoeigjjabmaa
