/- droverlaw04.DiskKeeps returns true whatever its arguments: what is synced is there behind any crash, as it was. For every input, without conditions. -/
import Derived.Test.YtmjgoeigjjabmaaRow
import Derived.Test.YtmjgoeigjjabmaaAwake04
import Derived.Test.YtmjgoeigjjabmaaHelp04
import Derived.Test.YtmjgoeigjjabmaaBrw
import Derived.Test.YtmjgoeigjjabmaaDl
namespace Go.Proofs.Ytmjgoeigjjabmaa.diskKeeps
open Go.ChangeShapes Go.WideShapes Go.ChangeAt Go.RowKit
set_option linter.unusedVariables false

theorem of_drew {w w' : World} (h : Below w.drew.heap.size w.drew w') : Below w.heap.size w w' := ⟨h.os, h.tape, h.output, h.size, h.block⟩
theorem arm_bs (d : Pd) (n : Int) : (d.arm n).bs = d.bs ∧ (d.arm n).syn = d.syn := by
  unfold Pd.arm
  split <;> exact ⟨rfl, rfl⟩
theorem op_syn (d : Pd) (f : Pd → Pd) : ((d.op f).2 = 0 ∧ (d.op f).1 = f d.less) ∨ ((d.op f).2 ≠ 0 ∧ (d.op f).1 = d.fails) := by
  unfold Pd.op
  split
  · exact .inr ⟨by simp, rfl⟩
  · exact .inl ⟨rfl, rfl⟩
theorem app_cases (d : Pd) (x : List Nat) : (((d.app x).2 = 0 ∧ (d.app x).1.bs = d.bs ++ x) ∨ ((d.app x).2 ≠ 0 ∧ (d.app x).1.bs = d.bs)) ∧ (d.app x).1.syn = d.syn := by
  unfold Pd.app
  split
  · exact ⟨.inr ⟨by simp, rfl⟩, rfl⟩
  · split
    · exact ⟨.inr ⟨by simp, rfl⟩, rfl⟩
    · rcases op_syn d (Pd.put x) with ⟨h1, h2⟩ | ⟨h1, h2⟩
      · rw [h2]
        refine ⟨.inl ⟨h1, ?_⟩, d.less_syn⟩
        show d.less.bs ++ x = d.bs ++ x
        rw [d.less_bs]
      · rw [h2]
        exact ⟨.inr ⟨h1, rfl⟩, rfl⟩
theorem sync_cases (d : Pd) : d.sync.1.bs = d.bs ∧ ((d.sync.2 = 0 ∧ d.sync.1.syn = d.bs.length) ∨ (d.sync.2 ≠ 0 ∧ d.sync.1.syn = d.syn)) := by
  unfold Pd.sync
  split
  · exact ⟨rfl, .inr ⟨by simp, rfl⟩⟩
  · rcases op_syn d Pd.all with ⟨h1, h2⟩ | ⟨h1, h2⟩
    · rw [h2]
      refine ⟨d.less_bs, .inl ⟨h1, ?_⟩⟩
      show d.less.bs.length = d.bs.length
      rw [d.less_bs]
    · rw [h2]
      exact ⟨rfl, .inr ⟨h1, rfl⟩⟩
theorem down_all (d : Pd) (h : d.down = true) : d.app [120] = (d, 15) ∧ d.sync = (d, 15) ∧ d.cut 0 = (d, 15) := by
  unfold Pd.app Pd.sync Pd.cut
  rw [if_pos h, if_pos h, if_pos h]
  exact ⟨rfl, rfl, rfl⟩
theorem crash_facts (d : Pd) (h : d.Ok) (n : Int) : (d.crash n).syn = (d.crash n).bs.length ∧ d.syn ≤ (d.crash n).bs.length ∧ (d.crash n).bs.length ≤ d.bs.length ∧ d.bs.take (d.crash n).bs.length = (d.crash n).bs ∧ (d.crash n).read = ((d.crash n).bs, 0) ∧ (d.crash n).down = false := by
  have h1 := Pd.kept_le h n
  have e : (d.bs.take (d.kept n)).length = d.kept n := by simp; omega
  show d.kept n = (d.bs.take (d.kept n)).length ∧ d.syn ≤ (d.bs.take (d.kept n)).length ∧ (d.bs.take (d.kept n)).length ≤ d.bs.length ∧ d.bs.take (d.bs.take (d.kept n)).length = d.bs.take (d.kept n) ∧ _ ∧ _
  rw [e]
  exact ⟨rfl, h1.1, h1.2, rfl, rfl, rfl⟩

set_option maxRecDepth 100000 in
set_option maxHeartbeats 4000000 in
theorem walk (w : World) (a0 : Option Addr) (n0 c0 : Nat) (a1 : Option Addr) (n1 c1 : Nat) (w0 : ∃ ll : List (List Nat), BRows w a0 n0 c0 ll) (w1 : ∃ zs : List Int, Ints .i64 w a1 n1 c1 zs) :
    Calls Try.prog 6 #[.slice a0 n0 c0, .slice a1 n1 c1] w fun e w' => e = .returned (.bool true) ∧ Below w.heap.size w w' := by
  obtain ⟨ll, hr⟩ := w0
  obtain ⟨zs, hz⟩ := w1
  have hll := hr.len
  have hzl := hz.len
  have HR := Lib.hid hr
  have HZ : Hid (∀ w' : World, Below w.heap.size w w' → ∀ j, j < n1 → ∃ b o, a1 = some ⟨b, o, none⟩ ∧ w'.cell? ⟨b, o + j, none⟩ = some (.int .i64 (zs.getD j 0))) := by
    intro w' hb j hj
    obtain ⟨b, o, e, hlt, hc⟩ := ints_cell hz (by omega)
    exact ⟨b, o, e, (hb.cell (p := ⟨b, o + j, none⟩) hlt).trans (hc j hj)⟩
  clear hr hz
  have hcv : ∀ (w : World) (C : Array Value) (n c g : Nat), g = w.heap.size → (convert 26 26 (.slice (some ⟨g, 0, none⟩) n c)).run Try.prog (w.alloc (.cells C 5)) = .ok (.slice (some ⟨g, 0, none⟩) n c) (w.alloc (.cells C 5 (C.size, C.size + 1))) := by
    intro w C n c g hg
    subst hg
    exact Lib.run_convert_bytes_const (P := Try.prog) w 26 5 C n c Try.underlying26 Try.underlying5
  go_enter Try.func6, Try.ntmps6
  go_wp2_with fail
  refine (new_any 1048576 (by omega) w).mono ?_
  rintro e w1 ⟨rfl, hd1, hb1⟩
  obtain ⟨p, hp⟩ : ∃ p, p = w.heap.size := ⟨_, rfl⟩
  have hd1 : Dk w1 w.heap.size p none (.new 1048576) := by rw [hp]; exact hd1
  rw [← hp]
  have HP := Lib.hid hp
  clear hp
  have hside : Beside w1 w.heap.size p none (.new 1048576) (.slice none 0 0) [] := ⟨hd1, Own.nil _ _, fun g e => by cases e⟩
  clear hd1
  go_wp2_with fail
  go_loopw [7, 8, 9] (fun v s i wr => ∃ (j : Nat) (r : Option Nat) (d : Pd), j ≤ n0 ∧ i = .int .i64 (j : Int) ∧ s = .int .i64 (d.syn : Int) ∧ Beside wr w.heap.size p r d v d.bs ∧ Below w.heap.size w wr) (fun _ _ i _ => n0 - (intOf i).toNat)
  case atStart => exact ⟨0, none, _, Nat.zero_le _, rfl, rfl, hside, hb1⟩
  case round =>
    obtain ⟨j, r, d, hj, rfl, rfl, hbs, hbr⟩ := hrel
    obtain ⟨Av, cv, rfl, hcvv, -, hav, -, -⟩ := id hbs.own.form
    by_cases hgo : j < n0 ∧ j < 40 ∧ j < n1
    · obtain ⟨hlt, h40, hlt1⟩ := hgo
      have t1 : decide ((j : Int) < (n0 : Int)) = true := decide_eq_true (by omega)
      have t2 : decide ((j : Int) < 40) = true := decide_eq_true (by omega)
      have t3 : decide ((j : Int) < (n1 : Int)) = true := decide_eq_true (by omega)
      obtain ⟨b, o, A, k, rfl, c0, hpc⟩ := HR.out.at hbr j hlt
      obtain ⟨b', o', rfl, c1⟩ := HZ.out _ hbr j hlt1
      by_cases h100 : 100 < (ll.getD j []).length
      · have t4 : decide ((100 : Int) < ((ll.getD j []).length : Int)) = true := decide_eq_true (by omega)
        generalize ll.getD j [] = x at *
        go_wp2_with fail
        go_roundw
        case rel => exact ⟨j + 1, r, d, by omega, by go_num, rfl, hbs, hbr⟩
        case measure => simp [intOf]; omega
      · have t4 : decide ((100 : Int) < ((ll.getD j []).length : Int)) = false := decide_eq_false (by omega)
        have hx100 : (ll.getD j []).length ≤ 100 := by omega
        generalize hx : ll.getD j [] = x at *
        have HX := Lib.hid hx
        generalize zs.getD j 0 = z at *
        clear hx h100
        go_wp2_with fail
        refine (pick_any z 1000003 wr (by omega) (by omega)).mono ?_
        rintro e wx ⟨rfl, rfl⟩
        obtain ⟨a, ha, hab⟩ : ∃ a : Nat, z % 1000003 = (a : Int) ∧ a < 1000003 := ⟨(z % 1000003).toNat, by omega, by omega⟩
        rw [ha]
        clear ha
        go_upto_if 49 with (fail)
        go_cut [] (fun wx => ∃ (r2 : Option Nat) (d2 : Pd), d2.bs = d.bs ∧ d2.syn = d.syn ∧ Beside wx w.heap.size p r2 d2 (.slice Av d.bs.length cv) d.bs ∧ Below w.heap.size w wx)
        case first =>
          obtain ⟨b7, h7⟩ : ∃ b7 : Bool, ((a : Int) % 7 == 0) = b7 := ⟨_, rfl⟩
          cases b7 with
          | true =>
            go_wp2_with fail
            refine (arm_any _ (by omega) hbs.dk).mono ?_
            rintro e w2 ⟨rfl, ha2⟩
            obtain ⟨r2, hbs2, hk2⟩ := hbs.disk ha2
            go_wp2_with fail
            go_meet
            exact ⟨r2, _, (arm_bs _ _).1, (arm_bs _ _).2, hbs2, hbr.trans (hbs.dk.low hk2)⟩
          | false =>
            go_wp2_with fail
            go_meet
            exact ⟨r, d, rfl, rfl, hbs, hbr⟩
        case rest =>
        obtain ⟨r2, d2, e2, e2', hbs2, hbr2⟩ := hcut
        clear hbs hbr c0 hpc
        obtain ⟨bb, oo, A2, k2, eb, c2, hpc2⟩ := HR.out.at hbr2 j hlt
        obtain ⟨rfl, rfl⟩ : b = bb ∧ o = oo := by simpa using eb
        rw [HX.out] at c2 hpc2
        go_wp2_with fail
        refine (append_any _ x hbs2.dk hpc2).mono ?_
        rintro e w3 ⟨rfl, ha3⟩
        obtain ⟨hac, has⟩ := app_cases d2 x
        rw [e2] at hac
        rw [e2'] at has
        obtain ⟨r3, hbs3, hk3⟩ := hbs2.disk ha3
        have hbr3 := hbr2.trans (hbs2.dk.low hk3)
        generalize (d2.app x).1 = d3 at *
        generalize hf : (d2.app x).2 = f at *
        clear hf ha3 hk3 hbs2 hbr2 c2 hpc2 e2 e2' eb
        go_upto_if 62 with (fail)
        go_cut [7] (fun v wx => ∃ (r4 : Option Nat), Beside wx w.heap.size p r4 d3 v d3.bs ∧ Below w.heap.size w wx)
        case first =>
          rcases hac with ⟨rfl, h3⟩ | ⟨hf, h3⟩
          · obtain ⟨bb, oo, A2, k2, eb, c2, hpc2⟩ := HR.out.at hbr3 j hlt
            obtain ⟨rfl, rfl⟩ : b = bb ∧ o = oo := by simpa using eb
            rw [HX.out] at c2 hpc2
            obtain ⟨-, hk2', ha2', -⟩ := hpc2.parts
            have hm3 := hbs3.dk.ok.most
            have hl3 := hbs3.dk.ok.len
            rw [h3] at hl3
            have hdl : d.bs.length ≤ 67108864 := by
              rw [List.length_append] at hl3
              omega
            have h8 := hbs3.dk.ok.byte
            rw [h3] at h8
            have hvl := Bs.of_own hbs3.own (fun y hy => h8 y (List.mem_append_left _ hy))
            clear h8 eb
            have H3 := Lib.hid h3
            clear h3
            have hbw := hbs3.dk.base_le
            have hBx := hbr3.size
            go_wp2_with fail
            go_region_law
              (first
                | (refine step_appd rfl (.tmp 64) (.tmp 68) rfl rfl ho5 rfl ha5 rfl (by omega) hb5.size ?_
                   intro v6 w6 hown6 hg6 hr6)
                | (go_simp
                   go_at_call 31
                   refine (copy_bs _ d.bs _ hvl.drew (by omega)).mono ?_
                   rintro e w5 ⟨u5, rfl, ho5, hv5, hb5⟩
                   have c5 := (hb5.cell (World.block_lt_of_cell? _ _ c2)).trans c2
                   obtain ⟨A5, k5, rfl, -, -, -, -, -⟩ := id ho5.form
                   have ha5 := ((ha2'.drew).below hb5)))
            all_goals
              go_wp2_with fail
              go_meet
              refine ⟨r3, ?_, hbr3.trans ((of_drew hb5).mono hBx |>.trans (((Below.refl _ _).grown hg6 (by have := (of_drew hb5).size; omega) (fun k hk => by have := (own_row ho5 hk).1; simp at this; omega))))⟩
              rw [H3.out]
              exact ((hbs3.below (of_drew (Below.refl _ _))).new hb5 ho5).row (hown6.mono hbr3.size) hg6 hr6
          · have t5 : ((f : Int) == 0) = false := beq_eq_false_iff_ne.2 (by omega)
            go_wp2_with fail
            go_meet
            exact ⟨r3, by rw [h3]; exact hbs3, hbr3⟩
        case rest =>
        obtain ⟨r4, hbs4, hbr4⟩ := hcut
        clear hac hbs3 hbr3
        rename_i v4 w4
        obtain ⟨A4, k4, rfl, hck4, -, -, -, -⟩ := id hbs4.own.form
        go_upto_region 16 with fail
        go_cut [77] (fun s wx => ∃ (c : Bool) (r5 : Option Nat) (d5 : Pd), s = .bool c ∧ d5.bs = d3.bs ∧ d5.syn = (if c = true then d3.bs.length else d3.syn) ∧ Beside wx w.heap.size p r5 d5 (.slice A4 d3.bs.length k4) d3.bs ∧ Below w.heap.size w wx)
        case first =>
          obtain ⟨b3, h3⟩ : ∃ b3 : Bool, ((a : Int) % 3 == 0) = b3 := ⟨_, rfl⟩
          cases b3 with
          | true =>
            go_wp2_with fail
            refine (sync_any hbs4.dk).mono ?_
            rintro e w5 ⟨rfl, ha5⟩
            obtain ⟨s1, s2⟩ := sync_cases d3
            obtain ⟨r5, hbs5, hk5⟩ := hbs4.disk ha5
            have hbr5 := hbr4.trans (hbs4.dk.low hk5)
            generalize d3.sync.1 = d5 at *
            generalize d3.sync.2 = f5 at *
            rcases s2 with ⟨rfl, s2⟩ | ⟨hf, s2⟩
            · go_wp2_with fail
              go_meet
              exact ⟨true, r5, d5, rfl, s1, s2, hbs5, hbr5⟩
            · have t5 : ((f5 : Int) == 0) = false := beq_eq_false_iff_ne.2 (by omega)
              go_wp2_with fail
              go_meet
              exact ⟨false, r5, d5, rfl, s1, s2, hbs5, hbr5⟩
          | false =>
            go_wp2_with fail
            go_meet
            exact ⟨false, r4, d3, rfl, rfl, rfl, hbs4, hbr4⟩
        case rest =>
        obtain ⟨c, r5, d5, rfl, e5, e5', hbs5, hbr5⟩ := hcut
        rw [has] at e5'
        clear hbs4 hbr4
        go_upto_if 77 with (fail)
        go_cut [8] (fun s wx => s = .int .i64 (d5.syn : Int) ∧ wc = wx)
        case first =>
          cases c with
          | true =>
            rw [if_pos rfl] at e5'
            go_wp2_with fail
            go_meet
            exact ⟨by rw [e5'], rfl⟩
          | false =>
            rw [if_neg (by decide)] at e5'
            go_wp2_with fail
            go_meet
            exact ⟨by rw [e5'], rfl⟩
        case rest =>
        obtain ⟨rfl, rfl⟩ := hcut
        clear e5' has
        have hbs5 : Beside wc w.heap.size p r5 d5 (.slice A4 d3.bs.length k4) d5.bs := by rw [e5]; exact hbs5
        have E5 := Lib.hid e5
        clear e5
        generalize d3.bs = L at *
        go_wp2_with fail
        refine (down_any hbs5.dk).mono ?_
        rintro e wx ⟨rfl, rfl⟩
        go_upto_if 81 with (fail)
        go_cut [] (fun wx => ∃ (r6 : Option Nat), Beside wx w.heap.size p r6 d5 (.slice A4 L.length k4) d5.bs ∧ Below w.heap.size w wx)
        case first =>
          cases hdn : d5.down with
          | false =>
            go_wp2_with fail
            go_meet
            exact ⟨r5, hbs5, hbr5⟩
          | true =>
            obtain ⟨x1, x2, x3⟩ := down_all d5 hdn
            have hm6 := Bs.made' wc #[.int .u8 120] 5 [120] 1 wc.heap.size rfl rfl rfl (by simp) (1, 2)
            have hb6 : Below w.heap.size w (wc.alloc (.cells #[.int .u8 120] 5 (1, 2))) := hbr5.alloc hbr5.size _
            have hbs6 := hbs5.below (w' := wc.alloc (.cells #[.int .u8 120] 5 (1, 2))) ((Below.refl _ _).alloc (Nat.le_refl _) _)
            clear hbs5 hbr5 hdn
            go_wp2_with fail
            refine (append_any _ [120] hbs6.dk hm6).mono ?_
            rintro e w7 ⟨rfl, ha7⟩
            rw [x1] at ha7 ⊢
            obtain ⟨r7, hbs7, hk7⟩ := hbs6.disk ha7
            have hb7 := hb6.trans (hbs6.dk.low hk7)
            clear ha7 hk7 hbs6 hb6 hm6
            go_wp2_with fail
            refine (sync_any hbs7.dk).mono ?_
            rintro e w8 ⟨rfl, ha8⟩
            rw [x2] at ha8 ⊢
            obtain ⟨r8, hbs8, hk8⟩ := hbs7.disk ha8
            have hb8 := hb7.trans (hbs7.dk.low hk8)
            clear ha8 hk8 hbs7 hb7
            go_wp2_with fail
            refine (cut_any 0 (by omega) (by omega) hbs8.dk).mono ?_
            rintro e w9 ⟨rfl, ha9⟩
            rw [x3] at ha9 ⊢
            obtain ⟨r9, hbs9, hk9⟩ := hbs8.disk ha9
            have hb9 := hb8.trans (hbs8.dk.low hk9)
            clear ha9 hk9 hbs8 hb8
            go_wp2_with fail
            go_meet
            exact ⟨r9, hbs9, hb9⟩
        case rest =>
        obtain ⟨r6, hbs6, hbr6⟩ := hcut
        clear hbs5 hbr5
        go_upto_region 21 with fail
        go_cut [103] (fun s wx => ∃ c : Bool, s = .bool c ∧ wc = wx)
        case first =>
          cases hdn : d5.down with
          | true =>
            go_wp2_with fail
            refine (down_any hbs6.dk).mono ?_
            rintro e wx ⟨rfl, rfl⟩
            rw [hdn]
            go_wp2_with fail
            go_meet
            exact ⟨true, rfl, rfl⟩
          | false =>
            obtain ⟨b5, h5⟩ : ∃ b5 : Bool, ((a : Int) % 5 == 0) = b5 := ⟨_, rfl⟩
            go_wp2_with fail
            refine (down_any hbs6.dk).mono ?_
            rintro e wx ⟨rfl, rfl⟩
            rw [hdn]
            go_wp2_with fail
            go_meet
            exact ⟨_, rfl, rfl⟩
        case rest =>
        obtain ⟨c, rfl, rfl⟩ := hcut
        go_upto_if 103 with (fail)
        cases c with
        | false =>
          obtain ⟨A6, k6, e6, -, -, -, -, -⟩ := id hbs6.own.form
          go_wp2_with fail
          go_roundw
          case rel => exact ⟨j + 1, r6, d5, by omega, by go_num, rfl, hbs6, hbr6⟩
          case measure => simp [intOf]; omega
        | true =>
          obtain ⟨q, hq, hq2⟩ : ∃ q : Int, (a : Int) / 35 % 200 = q ∧ (0 ≤ q ∧ q < 200) := ⟨_, rfl, by omega⟩
          have HF := Lib.hid (crash_facts d5 hbs6.dk.ok q)
          have hL : L.length = d5.bs.length := by rw [E5.out]
          have E5' := Lib.hid hL
          rw [hL] at hbs6 ⊢
          go_wp2_with fail
          refine (crash_any q (by omega) (by omega) hbs6.dk).mono ?_
          rintro e w7 ⟨rfl, ha7⟩
          obtain ⟨r7, hbs7, hk7⟩ := hbs6.disk ha7
          have hb7 := hbr6.trans (hbs6.dk.low hk7)
          obtain ⟨g1, g2, g3, g4, g5, g6⟩ := HF.out
          generalize d5.crash q = d7 at *
          have G4 := Lib.hid g4
          have t5 : decide ((d7.bs.length : Int) < (d5.syn : Int)) = false := decide_eq_false (by omega)
          have t6 : decide ((d5.bs.length : Int) < (d7.bs.length : Int)) = false := decide_eq_false (by omega)
          have G5 := Lib.hid g5
          have G6 := Lib.hid g6
          have G1 := Lib.hid g1
          have hck7 : d7.bs.length ≤ k4 := by omega
          clear g4 g5 g6 g1 ha7 hk7 hbs6 hbr6 hq
          go_wp2_with fail
          refine (read_any hbs7.dk).mono ?_
          rintro e w8 ⟨v8, rfl, ho8, hv8, hb8⟩
          rw [G5.out] at ho8 hv8 ⊢
          obtain ⟨A8, k8, rfl, -, -, -, -, -⟩ := id ho8.form
          have hbs8 := hbs7.below hb8
          have hbsn := hbs7.new hb8 ho8
          have hbr8 := nxt hb7 hb8
          have hpre := (Own.pre hbs8.own rfl d7.bs.length g3).1
          rw [G4.out] at hpre
          have hpv := Bs.of_own hpre hbs8.dk.ok.byte
          clear hbs7 hb7 hb8 hpre
          go_wp2_with fail
          refine (down_any hbs8.dk).mono ?_
          rintro e wx ⟨rfl, rfl⟩
          rw [G6.out]
          go_wp2_with fail
          refine (same_bs _ _ _ _ true _ hv8 hpv (by simp)).mono ?_
          rintro e wx ⟨rfl, rfl⟩
          go_wp2_with fail
          refine (synced_any hbs8.dk).mono ?_
          rintro e wx ⟨rfl, rfl⟩
          rw [G1.out]
          go_wp2_with fail
          go_roundw
          case rel => exact ⟨j + 1, r7, d7, by omega, by go_num, by rw [G1.out], hbsn, hbr8⟩
          case measure => simp [intOf]; omega
    · have hex : (¬ j < n0 ∧ decide ((j : Int) < (n0 : Int)) = false) ∨ (j < n0 ∧ decide ((j : Int) < (n0 : Int)) = true ∧ ¬ j < 40 ∧ decide ((j : Int) < 40) = false) ∨ (j < n0 ∧ decide ((j : Int) < (n0 : Int)) = true ∧ j < 40 ∧ decide ((j : Int) < 40) = true ∧ ¬ j < n1 ∧ decide ((j : Int) < (n1 : Int)) = false) := by
        by_cases h1 : j < n0
        · by_cases h2 : j < 40
          · exact .inr (.inr ⟨h1, decide_eq_true (by omega), h2, decide_eq_true (by omega), fun h3 => hgo ⟨h1, h2, h3⟩, decide_eq_false (fun h3 => hgo ⟨h1, h2, by omega⟩)⟩)
          · exact .inr (.inl ⟨h1, decide_eq_true (by omega), h2, decide_eq_false (by omega)⟩)
        · exact .inl ⟨h1, decide_eq_false (by omega)⟩
      clear hgo
      rcases hex with ⟨h1, t1⟩ | ⟨h1, t1, h2, t2⟩ | ⟨h1, t1, h2, t2, h3, t3⟩
      all_goals
        go_wp2_with fail
        refine (awake_any _).mono ?_
        rintro e w8 ⟨rfl, hb9⟩
        go_wp2_with fail
        go_ret
        exact ⟨rfl, nxt hbr hb9⟩

set_option maxRecDepth 100000 in
theorem lifted (os : Os) (started : os.Started) (H : Type) (enc : TypeId × Value → H) :
    ReturnsInHanded {} Try.checked os 6 .any (Rows.diskKeepsSpec.pre6 enc Try.prog Try.f6 Rows.diskKeepsRow.domain false) (Rows.diskKeepsSpec.post enc Try.prog Try.f6 false true false false) := by
  refine returnsInHanded_of_change (C := Try.checked) knob_own started (by kernel_rfl) Try.func6
    (ChangeSpec.witness6 (enc := enc) (C := Try.checked) false ⟨#[], #[.slice none 0 0, .slice none 0 0], []⟩ 8 (by kernel_rfl) (by kernel_rfl) (by kernel_rfl) (by kernel_rfl)) ?_
  intro W base args ds gs before hval0 hW hcnd _
  have hval : ∀ (j : Nat) t v, Try.f6.params[j]? = some t → args[j]? = some v → Value.okWide Try.prog W .any base t v := hval0
  have hW' := hW
  obtain ⟨p, q, hA0, hV, rfl, hfz, hnd⟩ := hW
  have hA : DataW.TrodAll enc Try.prog W 0 (fun _ => true) true Try.f6.params.toList args.toList ds p := hA0
  rw [Try.params6] at hA hval
  obtain ⟨v0, vs0, d0, ds0, p0, q0, hargs, rfl, rfl, h0, r0⟩ := trodAll_cons hA
  obtain ⟨v1, vs1, d1, ds1, p1, q1, rfl, rfl, rfl, h1, r1⟩ := trodAll_cons r0
  obtain ⟨rfl, rfl, rfl⟩ := trodAll_nil r1
  obtain rfl : args = #[v0, v1] := by cases args; simp_all
  obtain ⟨rfl, rfl⟩ := trodVars_none hV
  obtain ⟨a0, n0, c0, rfl⟩ := okWide_slice Try.underlying52 (hval 0 52 v0 rfl rfl)
  have k0 := h0
  have lt0 : ∀ x ∈ p0, x.block < W.heap.size := by obtain ⟨m, hm⟩ := k0; exact DataW.trod_lt m _ _ _ hm
  have w0 := brows_open h0
  obtain ⟨a1, n1, c1, rfl⟩ := okWide_slice Try.underlying53 (hval 1 53 v1 rfl rfl)
  have k1 := h1
  have lt1 : ∀ x ∈ p1, x.block < W.heap.size := by obtain ⟨m, hm⟩ := k1; exact DataW.trod_lt m _ _ _ hm
  have z1 : ∃ zs, Ints .i64 W a1 n1 c1 zs := by
    obtain ⟨fuel, hf⟩ := h1
    rcases open_ints Try.underlying53 Try.underlying3 (by kernel_rfl) hf with ⟨hcs, _⟩ | ⟨x, l, c, zs, hcs, _, hl, hm, hz, _, hcell, hwz⟩
    · simp [Value.cells] at hcs
      obtain ⟨rfl, rfl, rfl⟩ := hcs
      exact ⟨[], ints_nil _ _⟩
    · simp [Value.cells] at hcs
      obtain ⟨rfl, rfl, rfl⟩ := hcs
      exact ⟨_, ints_some .i64 W x _ _ zs hl hm (by simpa using hz) hcell hwz⟩
  have w1 := z1
  clear hA0 hval0
  refine (walk W a0 n0 c0 a1 n1 c1 w0 w1).mono fun e W' ⟨he, bel⟩ => ?_
  subst he
  exact ⟨_, rfl, _, _, _, [], _, [], hW', trodAll_mk1 (shut_bool Try.underlying4 _), (trodAll_cons_mk (Below.trod laid_out (by kernel_rfl) (of_decide_eq_true (by kernel_rfl)) k0 bel lt0) (trodAll_cons_mk (Below.trod laid_out (by kernel_rfl) (of_decide_eq_true (by kernel_rfl)) k1 bel lt1) (trodAll_mk0))), rfl, bel.frame _, fun h => by cases h⟩

theorem over : Rows.diskKeepsRow.holds Try.pinned (OpenSpec.ofChange Rows.diskKeepsSpec) :=
  OpenClaim.holds_of_wide 6 Try.f6 rfl rfl rfl rfl rfl rfl rfl ⟨rfl, rfl, rfl, rfl, rfl⟩ rfl rfl rfl rfl rfl (by kernel_rfl) Try.func6 (by kernel_rfl)
    (of_decide_eq_true (by kernel_rfl)) (by unfold Func.isWrapper; first | (rw [if_pos (by decide +kernel)]; kernel_rfl) | (rw [if_neg (by decide +kernel)]; exact ⟨rfl, rfl⟩))
    (fun os started H enc _ => lifted os started H enc)

theorem proved : Rows.DiskKeepsSaid := over
end Go.Proofs.Ytmjgoeigjjabmaa.diskKeeps
