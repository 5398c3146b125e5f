/- droverlaw05.LogKeeps returns true whatever its arguments: behind any crash Open tells all records whose Add was OK, in order, and at most one more. For every input, without conditions. -/
import Derived.Test.YtfcokndpkkhnjaaRow
import Derived.Test.YtfcokndpkkhnjaaBrw
import Derived.Test.YtfcokndpkkhnjaaAwake05
import Derived.Test.YtfcokndpkkhnjaaLo
namespace Go.Proofs.Ytfcokndpkkhnjaa.logKeeps
open Go.ChangeShapes Go.WideShapes Go.ChangeAt Go.RowKit
set_option linter.unusedVariables false



set_option maxRecDepth 100000 in
set_option maxHeartbeats 8000000 in
theorem walk (w : World) (a0 : Option Addr) (n0 c0 : Nat) (a1 : Option Addr) (n1 c1 : Nat) (w0 : ∃ ll : List (List Nat), BRows w a0 n0 c0 ll) (w1 : ∃ zs : List Int, Ints .i64 w a1 n1 c1 zs) :
    Calls Try.prog 6 #[.slice a0 n0 c0, .slice a1 n1 c1] w fun e w' => e = .returned (.bool true) ∧ Below w.heap.size w w' := by
  obtain ⟨ll, hr⟩ := w0
  obtain ⟨zs, hz⟩ := w1
  have hll := hr.len
  have hzl := hz.len
  have HR := Lib.hid hr
  have HX8 := Lib.hid hr.byte
  have HZ : Hid (∀ w' : World, Below w.heap.size w w' → ∀ j, j < n1 → ∃ b o, a1 = some ⟨b, o, none⟩ ∧ w'.cell? ⟨b, o + j, none⟩ = some (.int .i64 (zs.getD j 0))) := by
    intro w' hb j hj
    obtain ⟨b, o, e, hlt, hc⟩ := ints_cell hz (by omega)
    exact ⟨b, o, e, (hb.cell (p := ⟨b, o + j, none⟩) hlt).trans (hc j hj)⟩
  clear hr hz
  go_enter Try.func6, Try.ntmps6
  go_wp2_with fail
  refine (new_any 1048576 (by omega) w).mono ?_
  rintro e w1 ⟨rfl, hd1, hb1⟩
  obtain ⟨p, hp⟩ : ∃ p, p = w.heap.size := ⟨_, rfl⟩
  have hd1 : Dk w1 w.heap.size p none (.new 1048576) := by rw [hp]; exact hd1
  rw [← hp]
  have HP := Lib.hid hp
  clear hp
  go_wp2_with fail
  refine (open_any hd1).mono ?_
  rintro e w2 ⟨r2, hd2, hk2, hr2, hop⟩
  rw [open_new] at hd2 hop
  obtain ⟨A1, c1, q, m1, rfl, -, hm1, hmq1, -, hq1, -⟩ := hop
  have hb2 := hb1.trans (hd1.low hk2)
  have hg2 : Lg w2 w.heap.size p q r2 (.new 1048576) (plOf []) := ⟨hd2, hq1, by have := hb1.size; omega⟩
  clear hd1 hb1 hk2 hr2 hd2 hq1 hm1 hmq1
  go_wp2_with fail
  go_loopw [7, 10, 11, 12] (fun lp s lv i wr => ∃ (j q : Nat) (sure : List (List Nat)) (vs : List Value) (d : Pd) (r : Option Nat), j ≤ n0 ∧ j ≤ 30 ∧ lp = .pointer (some ⟨q, 0, none⟩) ∧ i = .int .i64 (j : Int) ∧ lv = .slice none 0 0 ∧ sure.length ≤ j ∧ Hid (∀ y ∈ sure, lgood y ∧ y.length ≤ 100) ∧ Hid (d.bs = lrecs sure) ∧ Hid (d.syn = d.bs.length) ∧ d.most = 1048576 ∧ d.down = false ∧ Lg wr w.heap.size p q r d (plOf sure) ∧ RowS wr w.heap.size r s vs sure ∧ Below w.heap.size w wr) (fun _ _ _ i _ => n0 - (intOf i).toNat)
  case atStart => exact ⟨0, q, [], [], _, r2, Nat.zero_le _, Nat.zero_le _, rfl, rfl, rfl, Nat.le_refl _, Lib.hid (by simp), Lib.hid rfl, Lib.hid rfl, rfl, rfl, hg2, RowS.nil _ _ _, hb2⟩
  case round =>
    clear hg2 hb2
    obtain ⟨j, qq, sure, vs, d, r, hj, hj30, rfl, rfl, rfl, hsl, HG, HBS, HSY, hmost, hdown, hg, hrow, hbr⟩ := hrel
    obtain ⟨As, cs, rfl, hcs⟩ := hrow.form
    by_cases hgo : j < n0 ∧ j < 30 ∧ j < n1
    · obtain ⟨hlt, h30, hlt1⟩ := hgo
      have t1 : decide ((j : Int) < (n0 : Int)) = true := decide_eq_true (by omega)
      have t1' : decide (j < n0) = true := decide_eq_true hlt
      have t2 : decide ((j : Int) < 30) = true := decide_eq_true (by omega)
      have t2' : decide (j < 30) = true := decide_eq_true h30
      have t3 : decide ((j : Int) < (n1 : Int)) = true := decide_eq_true (by omega)
      have t3' : decide (j < n1) = true := decide_eq_true hlt1
      have x1 : (j : Int) < (n0 : Int) := by omega
      have x2 : (j : Int) < (n1 : Int) := by omega
      obtain ⟨b, o, A, k, rfl, hck, hfx⟩ := HR.out.fix j hlt
      have h8x : ∀ y ∈ ll.getD j [], y < 256 := by
        have := HX8.out (ll[j]) (List.getElem_mem (by omega))
        simpa [show j < ll.length by omega] using this
      generalize ll.getD j [] = x at *
      have HF := Lib.hid hfx
      clear hfx
      obtain ⟨cc0, -, -⟩ := HF.out wr hbr
      by_cases hlx : 1 ≤ x.length ∧ x.length ≤ 100
      · obtain ⟨hl1, hl2⟩ := hlx
        have t4 : ((x.length : Int) == 0) = false := beq_eq_false_iff_ne.2 (by omega)
        have t5 : decide ((100 : Int) < (x.length : Int)) = false := decide_eq_false (by omega)
        have t5' : decide (100 < x.length) = false := decide_eq_false (by omega)
        have hxg : lgood x := ⟨hl1, by omega, h8x⟩
        have HXG := Lib.hid hxg
        clear hxg h8x
        obtain ⟨b', o', rfl, cc1⟩ := HZ.out _ hbr j hlt1
        generalize zs.getD j 0 = z at *
        go_wp2_with fail
        refine (pick_any z 1000003 wr (by omega) (by omega)).mono ?_
        rintro e wx ⟨rfl, rfl⟩
        obtain ⟨a, ha, hab⟩ : ∃ a : Nat, z % 1000003 = (a : Int) ∧ a < 1000003 := ⟨(z % 1000003).toNat, by omega, by omega⟩
        rw [ha]
        clear ha
        go_upto_if 71 with (fail)
        go_cut [] (fun wx => ∃ (r2 : Option Nat) (d2 : Pd), d2.bs = d.bs ∧ d2.syn = d.syn ∧ d2.down = false ∧ d2.most = d.most ∧ Lg wx w.heap.size p qq r2 d2 (plOf sure) ∧ RowS wx w.heap.size r2 (.slice As sure.length cs) vs sure ∧ Below w.heap.size w wx)
        case first =>
          obtain ⟨b3, h3⟩ : ∃ b3 : Bool, ((a : Int) % 3 == 0) = b3 := ⟨_, rfl⟩
          cases b3 with
          | true =>
            go_wp2_with fail
            refine (arm_any _ (by omega) hg.dk).mono ?_
            rintro e w2 ⟨rfl, r2, hd2, hk2, hr2⟩
            obtain ⟨u1, u2, u3, u4⟩ := arm_log d ((a : Int) / 3 % 3) hdown
            go_wp2_with fail
            go_meet
            exact ⟨r2, _, u1, u2, u3, u4, ⟨hd2, hg.at_.kr hg.dk hk2, hg.low⟩, hrow.kr hg.dk hk2 hr2, hbr.trans (hg.dk.low hk2)⟩
          | false =>
            go_wp2_with fail
            go_meet
            exact ⟨r, d, rfl, rfl, hdown, rfl, hg, hrow, hbr⟩
        case rest =>
        obtain ⟨r2, d2, e1, e2, hdown2, hmost2, hg2, hrow2, hbr2⟩ := hcut
        rw [hmost] at hmost2
        have HBS2 : Hid (d2.bs = lrecs sure) := e1.trans HBS.out
        have HSY2 : Hid (d2.syn = d2.bs.length) := by
          show _ = _
          rw [e2, HSY.out, e1]
        have hsm := lrecs_of sure HG.out 30 (by omega)
        clear hg hrow hbr cc0 cc1 e1 e2 HBS HSY hdown hmost
        obtain ⟨cc0, hpc, -⟩ := HF.out wc hbr2
        have hyl := lrec_length x
        have HAdd := Lib.hid (add_any _ x hg2 hpc (by show sure.length ≤ _; omega) (by show (lrecs sure).length ≤ _; omega))
        obtain ⟨l3, d3, er, hA, hcase⟩ : ∃ l3 d3 er, addL (plOf sure) d2 x = (l3, d3, er) ∧ ((er = 0 ∧ l3 = plOf (sure ++ [x]) ∧ d3.bs = lrecs (sure ++ [x]) ∧ d3.syn = d3.bs.length ∧ d3.most = 1048576 ∧ d3.down = false) ∨
            (er = 15 ∧ d3.syn = (lrecs sure).length ∧ (d3.bs = lrecs sure ∨ d3.bs = lrecs sure ++ lrec x) ∧ d3.most = 1048576 ∧ d3.down = true)) := by
          have hb2 := HBS2.out
          rcases addL_cases (plOf sure) d2 x ⟨hl1, by omega⟩ rfl hdown2 with ⟨h1, -⟩ | ⟨-, d', h1, h2, h3, h4, h5⟩ | ⟨-, -, d', h1, h2, h3, h4, h5⟩
          · rw [hb2, hmost2] at h1
            omega
          · refine ⟨_, d', 0, h1, .inl ⟨rfl, ?_, ?_, h5, h3.trans hmost2, h4⟩⟩
            · simp [plOf, lrecs_snoc]
            · rw [h2, hb2, lrecs_snoc]
          · refine ⟨_, d', 15, h1, .inr ⟨rfl, ?_, ?_, h3.trans hmost2, h4⟩⟩
            · rw [h5, HSY2.out, hb2]
            · rw [hb2] at h2
              exact h2
        rw [hA] at HAdd
        have HC := Lib.hid hcase
        clear hA hcase
        go_wp2_with fail
        refine HAdd.out.mono ?_
        rintro e w4 ⟨rfl, r4, hg4, hk4, hr4⟩
        have hrow4 := hrow2.kl hg2 hk4 hr4
        have hbr4 := hbr2.trans (hg2.low_of hk4)
        have hyn : (lrecs (sure ++ [x])).length ≤ 5000 := by rw [lrecs_snoc, List.length_append]; omega
        clear HAdd hk4 hr4 hrow2 hbr2 hg2 cc0 hpc hdown2 hmost2 HBS2 HSY2 hyl
        dsimp only at hg4 ⊢
        go_upto_if 84 with (fail)
        go_cut [10, 11] (fun s lv wx => ∃ (b : Bool) (sure2 : List (List Nat)) (vs2 : List Value) (As2 : Option Addr) (cs2 : Nat) (r2 : Option Nat), s = .slice As2 sure2.length cs2 ∧ d3.down = b ∧ lv = (if b = true then .slice A x.length k else .slice none 0 0) ∧ Lg wx w.heap.size p qq r2 d3 l3 ∧ RowS wx w.heap.size r2 (.slice As2 sure2.length cs2) vs2 sure2 ∧ sure2.length ≤ j + 1 ∧ (lrecs sure2).length ≤ 5000 ∧ Hid (b = true → sure2.length ≤ j) ∧
          Hid (∀ y ∈ sure2, lgood y ∧ y.length ≤ 100) ∧ Hid (∀ n : Int, ∃ got d5, openL (d3.crash n) = (d5, .ok got) ∧ (got = sure2 ∨ (b = true ∧ got = sure2 ++ [x])) ∧ d5.bs = lrecs got ∧ d5.syn = d5.bs.length ∧ d5.down = false ∧ d5.most = 1048576) ∧
          Hid (b = false → l3 = plOf sure2 ∧ d3.bs = lrecs sure2 ∧ d3.syn = d3.bs.length ∧ d3.most = 1048576) ∧ Below w.heap.size w wx)
        case first =>
          have hok4 := hg4.dk.ok
          rcases HC.out with ⟨rfl, hl3, hbs3, hsy3, hmo3, hdn3⟩ | ⟨rfl, hsy3, hbs3, hmo3, hdn3⟩
          · have hG2 : ∀ y ∈ sure ++ [x], lgood y ∧ y.length ≤ 100 := by
              intro y hy
              rcases List.mem_append.1 hy with h | h
              · exact HG.out y h
              · rw [List.mem_singleton] at h
                rw [h]
                exact ⟨HXG.out, hl2⟩
            obtain ⟨bf, hbf⟩ : ∃ bf : Bool, bf = false := ⟨_, rfl⟩
            have HBF := Lib.hid hbf
            clear hbf
            have hCO : Hid (∀ n : Int, ∃ got d5, openL (d3.crash n) = (d5, .ok got) ∧ (got = sure ++ [x] ∨ (bf = true ∧ got = (sure ++ [x]) ++ [x])) ∧ d5.bs = lrecs got ∧ d5.syn = d5.bs.length ∧ d5.down = false ∧ d5.most = 1048576) := fun n => by
              have := crash_open d3 hok4 (sure ++ [x]) x bf (fun y hy => (hG2 y hy).1) HXG.out (by rw [hsy3, hbs3]; exact Nat.le_refl _) (.inl hbs3) n
              rwa [hmo3] at this
            have hcl : Hid (l3 = plOf (sure ++ [x]) ∧ d3.bs = lrecs (sure ++ [x]) ∧ d3.syn = d3.bs.length ∧ d3.most = 1048576) := ⟨hl3, hbs3, hsy3, hmo3⟩
            have HG2 := Lib.hid hG2
            clear hG2 HC hl3 hbs3 hsy3 hmo3 hok4
            obtain ⟨cc0, hpc, hax⟩ := HF.out w4 hbr4
            have hax4 := hax w.heap.size r4 (Nat.le_refl _)
            have hal4 := (Below.refl w4.heap.size w4).alloc (Nat.le_refl _) (.cells #[.slice A x.length k] 22)
            have hat4 : At (w4.alloc (.cells #[.slice A x.length k] 22)) (w4.heap.size + 1) (some ⟨w4.heap.size, 0, none⟩) [.slice A x.length k] := At.made w4 #[.slice A x.length k] 22
            have hrow5 := hrow4.below hal4
            have hg5 := hg4.below hal4
            have hbr5 := nxt hbr4 hal4
            have hax5 := hax4.sxb hal4
            have hlo5 := hg4.dk.base_le
            clear hrow4 hg4 hax4 hax hpc
            go_wp2_with (first
              | (at_builtin
                 refine wpList_rowapp (by kernel_rfl) (.tmp 85) (.tmp 90) rfl rfl hrow5.own rfl hat4 rfl (by omega) (by simp; omega) ?_
                 intro v6 w6 hown6 hg6)
              | (fail))
            go_meet
            have hrow6 := hrow5.snoc hown6 hg6 hax5 hck HXG.out.2.2
            obtain ⟨hg7, hb7⟩ := hg5.rowgrown hrow5 hg6
            obtain ⟨A6, c6, rfl, -⟩ := hrow6.form
            exact ⟨bf, sure ++ [x], _, A6, c6, r4, rfl, hdn3.trans HBF.out.symm, by rw [if_neg (by rw [HBF.out]; decide)], hg7, hrow6, by simp; omega, hyn, Lib.hid (by rw [HBF.out]; simp), HG2, hCO, Lib.hid fun _ => hcl.out, hbr5.trans hb7⟩
          · obtain ⟨bt, hbt⟩ : ∃ bt : Bool, bt = true := ⟨_, rfl⟩
            have HBT := Lib.hid hbt
            clear hbt
            have hCO : Hid (∀ n : Int, ∃ got d5, openL (d3.crash n) = (d5, .ok got) ∧ (got = sure ∨ (bt = true ∧ got = sure ++ [x])) ∧ d5.bs = lrecs got ∧ d5.syn = d5.bs.length ∧ d5.down = false ∧ d5.most = 1048576) := fun n => by
              have := crash_open d3 hok4 sure x bt (fun y hy => (HG.out y hy).1) HXG.out (by rw [hsy3]; exact Nat.le_refl _) (by rcases hbs3 with h | h; exact .inl h; exact .inr ⟨HBT.out, h⟩) n
              rwa [hmo3] at this
            clear HC hsy3 hbs3 hmo3 hok4
            obtain ⟨cc0, -, -⟩ := HF.out w4 hbr4
            go_wp2_with fail
            go_meet
            exact ⟨bt, sure, vs, As, cs, r4, rfl, hdn3.trans HBT.out.symm, by rw [if_pos HBT.out], hg4, hrow4, by omega, by omega, Lib.hid fun _ => hsl, HG, hCO, Lib.hid (by rw [HBT.out]; simp), hbr4⟩
        case rest =>
        obtain ⟨fl, sure2, vs2, As2, cs2, r5, rfl, hdn, hlv, hg5, hrow5, hsl2, hs5, HSJ, HG2, HCO, HNF, hbr5⟩ := hcut
        have HLV := Lib.hid hlv
        clear hg4 hrow4 hbr4 HC HG hyn hsm hlv
        go_upto_region 20 with fail
        go_cut [105] (fun s wx => ∃ c : Bool, s = .bool c ∧ Hid (c = true → fl = false) ∧ wc = wx)
        case first =>
          cases fl with
          | true =>
            go_wp2_with fail
            refine (down_any hg5.dk).mono ?_
            rintro e wx ⟨rfl, rfl⟩
            rw [hdn]
            go_wp2_with fail
            go_meet
            exact ⟨false, rfl, Lib.hid (by simp), rfl⟩
          | false =>
            obtain ⟨b4, h4⟩ : ∃ b4 : Bool, ((a : Int) % 4 == 0) = b4 := ⟨_, rfl⟩
            go_wp2_with fail
            refine (down_any hg5.dk).mono ?_
            rintro e wx ⟨rfl, rfl⟩
            rw [hdn]
            go_wp2_with fail
            go_meet
            exact ⟨_, rfl, Lib.hid (by simp), rfl⟩
        case rest =>
        obtain ⟨c, rfl, HCB, rfl⟩ := hcut
        go_upto_if 105 with (fail)
        cases c with
        | true =>
          obtain rfl := HCB.out rfl
          obtain ⟨u1, u2, u3, u4⟩ := HNF.out rfl
          rw [u1] at hg5
          go_wp2_with fail
          go_roundw
          case rel => exact ⟨j + 1, qq, sure2, vs2, d3, r5, by omega, by omega, rfl, by go_num, HLV.out.trans (if_neg (by decide)), hsl2, HG2, Lib.hid u2, Lib.hid u3, u4, hdn, hg5, hrow5, hbr5⟩
          case measure => simp [intOf]; omega
        | false =>
          clear HCB HNF
          obtain ⟨n, hn, hn2⟩ : ∃ n : Int, (a : Int) / 12 % 150 = n ∧ (0 ≤ n ∧ n < 150) := ⟨_, rfl, by omega⟩
          obtain ⟨got, d7, ho, hgot, hb7, hs7, hd7, hm7⟩ := HCO.out n
          have HCR := Lib.hid (crash_any n (by omega) (by omega) hg5.dk)
          clear HCO
          generalize d3.crash n = d6 at *
          go_wp2_with fail
          refine HCR.out.mono ?_
          rintro e w6 ⟨rfl, r6, hd6, hk6, hr6⟩
          have hrow6 := hrow5.kr hg5.dk hk6 hr6
          have hbr6 := hbr5.trans (hg5.dk.low hk6)
          clear HCR hg5 hk6 hr6 hrow5 hbr5
          go_wp2_with fail
          refine (open_any hd6).mono ?_
          rintro e w7 ⟨r7, hd7', hk7, hr7, hop⟩
          rw [ho] at hd7' hop
          obtain ⟨A7, c7, q7, m7, rfl, hc7, hm7', hmq7, -, hq7, -, vs7, hrow7⟩ := hop
          have hrow7s := hrow6.kr hd6 hk7 hr7
          have hbr7 := hbr6.trans (hd6.low hk7)
          have hlow7 : w.heap.size ≤ q7 := by have := hbr6.size; omega
          clear hd6 hk7 hr7 hrow6 hbr6 ho hmq7 hm7'
          have hgl : sure2.length ≤ got.length ∧ got.length ≤ sure2.length + 1 := by
            rcases hgot with h | ⟨-, h⟩
            · rw [h]; omega
            · rw [h]; simp
          have hgt : got.take sure2.length = sure2 := by
            rcases hgot with h | ⟨-, h⟩
            · rw [h, List.take_of_length_le (Nat.le_refl _)]
            · rw [h, List.take_left]
          have hGG : ∀ y ∈ got, lgood y ∧ y.length ≤ 100 := by
            intro y hy
            rcases hgot with h | ⟨-, h⟩
            · rw [h] at hy
              exact HG2.out y hy
            · rw [h] at hy
              rcases List.mem_append.1 hy with h | h
              · exact HG2.out y h
              · rw [List.mem_singleton] at h
                rw [h]
                exact ⟨HXG.out, hl2⟩
          have HGG := Lib.hid hGG
          have z1 : decide ((got.length : Int) < (sure2.length : Int)) = false := decide_eq_false (by omega)
          have z1' : decide (got.length < sure2.length) = false := decide_eq_false (by omega)
          have z2 : decide ((sure2.length : Int) + 1 < (got.length : Int)) = false := decide_eq_false (by omega)
          have z2' : decide (sure2.length + 1 < got.length) = false := decide_eq_false (by omega)
          have z3 : (sure2.length : Int) ≤ (c7 : Int) := by omega
          have z4 : IntKind.i64.wrap ((sure2.length : Int) + 1) = (sure2.length : Int) + 1 := by rw [IntKind.wrap_i64]; omega
          have hbT : BlkS w7 (fun b => b < w7.heap.size) A7 sure2 := by
            have := hrow7.blks.take sure2.length
            rwa [hgt] at this
          have HS := Lib.hid (samel_any A7 As2 c7 cs2 sure2 sure2 w7 _ _ true hbT hrow7s.blks (fun _ h => h) (fun _ h => h) (by omega) (decide_eq_true rfl))
          have HGT := Lib.hid hgot
          have hB7 := Lib.hid hb7
          have hS7 := Lib.hid hs7
          clear hbT hgt hGG hgot hb7 hs7 HG2
          go_wp2_with fail
          refine HS.out.mono ?_
          rintro e w8 ⟨rfl, hb8'⟩
          have hg8 : Lg w8 w.heap.size p q7 r7 d7 (plOf got) := ⟨hd7'.below hb8', heap_below hq7 hb8', hlow7⟩
          have hrow8 := hrow7.below hb8'
          have hbr8 := nxt hbr7 hb8'
          clear HS hrow7 hrow7s hbr7 hq7 hd7' hb8'
          go_wp2_with fail
          refine (lg_len hg8.at_).mono ?_
          rintro e wx ⟨rfl, rfl⟩
          rw [show (plOf got).n = got.length from rfl]
          go_wp2_with fail
          refine (lg_bytes hg8.at_).mono ?_
          rintro e wx ⟨rfl, rfl⟩
          rw [show (plOf got).size = (lrecs got).length from rfl]
          go_wp2_with fail
          refine (size_any hg8.dk).mono ?_
          rintro e wx ⟨rfl, rfl⟩
          rw [hB7.out]
          go_wp2_with fail
          refine (synced_any hg8.dk).mono ?_
          rintro e wx ⟨rfl, rfl⟩
          rw [hS7.out, hB7.out]
          go_wp2_with fail
          refine (size_any hg8.dk).mono ?_
          rintro e wx ⟨rfl, rfl⟩
          rw [hB7.out]
          rcases HGT.out with rfl | ⟨rfl, hgx⟩
          · go_wp2_with fail
            go_roundw
            case rel => exact ⟨j + 1, q7, got, vs7, d7, r7, by omega, by omega, rfl, by go_num, rfl, by omega, HGG, hB7, hS7, hm7, hd7, hg8, hrow8, hbr8⟩
            case measure => simp [intOf]; omega
          · obtain ⟨bA, oA, rfl⟩ : ∃ bA oA, A = some ⟨bA, oA, none⟩ := by
              obtain ⟨-, hpc, -⟩ := HF.out w8 hbr8
              obtain ⟨b9, o9, e9, -⟩ := hpc.parts.2.2.1 (by intro h; have := congrArg List.length h; rw [bv_length, List.length_nil] at this; omega)
              exact ⟨b9, o9, e9⟩
            have hgl2 : got.length = sure2.length + 1 := by rw [hgx]; simp
            obtain ⟨bg, og, Ag, cg, hAg, ccg, hbg⟩ := hrow8.blks.elem (fun _ h => h) sure2.length (by omega)
            have hge : got.getD sure2.length [] = x := by rw [hgx]; simp
            rw [hge] at ccg hbg
            obtain ⟨-, hpc, -⟩ := HF.out w8 hbr8
            have hsame := Lib.hid (same_bs _ _ x x true w8 hbg hpc (decide_eq_true rfl))
            subst hAg
            have hnil := Lib.run_eql_slice_nil (P := Try.prog) w8 22 5 (some ⟨bA, oA, none⟩) x.length k 0 0 Try.underlying22
            have y1 : decide ((sure2.length : Int) < (got.length : Int)) = true := decide_eq_true (by omega)
            have y1' : decide (sure2.length < got.length) = true := decide_eq_true (by omega)
            have y2 : (sure2.length : Int) < (got.length : Int) := by omega
            rw [HLV.out, if_pos rfl]
            have hlb : got.length ≤ j + 1 := by have := HSJ.out rfl; omega
            clear hbg hpc hgx hge hgl2
            go_wp2_with fail
            refine hsame.out.mono ?_
            rintro e wx ⟨rfl, rfl⟩
            go_wp2_with fail
            go_roundw
            case rel => exact ⟨j + 1, q7, got, vs7, d7, r7, by omega, by omega, rfl, by go_num, rfl, hlb, HGG, hB7, hS7, hm7, hd7, hg8, hrow8, hbr8⟩
            case measure => simp [intOf]; omega
      · have hor : x.length = 0 ∨ 100 < x.length := by omega
        clear hlx h8x
        rcases hor with h0 | h1
        · have t4 : ((x.length : Int) == 0) = true := by rw [h0]; rfl
          clear h0
          go_wp2_with fail
          go_roundw
          case rel => exact ⟨j + 1, qq, sure, vs, d, r, by omega, by omega, rfl, by go_num, rfl, by omega, HG, HBS, HSY, hmost, hdown, hg, hrow, hbr⟩
          case measure => simp [intOf]; omega
        · have t4 : ((x.length : Int) == 0) = false := beq_eq_false_iff_ne.2 (by omega)
          have t5 : decide ((100 : Int) < (x.length : Int)) = true := decide_eq_true (by omega)
          have t5' : decide (100 < x.length) = true := decide_eq_true (by omega)
          go_wp2_with fail
          go_roundw
          case rel => exact ⟨j + 1, qq, sure, vs, d, r, by omega, by omega, rfl, by go_num, rfl, by omega, HG, HBS, HSY, hmost, hdown, hg, hrow, hbr⟩
          case measure => simp [intOf]; omega
    · have hor : (j = n0) ∨ (j < n0 ∧ ¬ j < 30) ∨ (j < n0 ∧ j < 30 ∧ ¬ j < n1) := by omega
      clear hgo
      rcases hor with hjn | ⟨h1, h2⟩ | ⟨h1, h2, h3⟩
      · have t1 : decide ((j : Int) < (n0 : Int)) = false := decide_eq_false (by omega)
        have t1' : decide (j < n0) = false := decide_eq_false (by omega)
        go_wp2_with fail
        refine (awake05_any _).mono ?_
        rintro e w9 ⟨rfl, hb9⟩
        go_wp2_with fail
        go_ret
        exact ⟨rfl, nxt hbr hb9⟩
      · have t1 : decide ((j : Int) < (n0 : Int)) = true := decide_eq_true (by omega)
        have t1' : decide (j < n0) = true := decide_eq_true h1
        have t2 : decide ((j : Int) < 30) = false := decide_eq_false (by omega)
        have t2' : decide (j < 30) = false := decide_eq_false h2
        go_wp2_with fail
        refine (awake05_any _).mono ?_
        rintro e w9 ⟨rfl, hb9⟩
        go_wp2_with fail
        go_ret
        exact ⟨rfl, nxt hbr hb9⟩
      · have t1 : decide ((j : Int) < (n0 : Int)) = true := decide_eq_true (by omega)
        have t1' : decide (j < n0) = true := decide_eq_true h1
        have t2 : decide ((j : Int) < 30) = true := decide_eq_true (by omega)
        have t2' : decide (j < 30) = true := decide_eq_true h2
        have t3 : decide ((j : Int) < (n1 : Int)) = false := decide_eq_false (by omega)
        have t3' : decide (j < n1) = false := decide_eq_false h3
        go_wp2_with fail
        refine (awake05_any _).mono ?_
        rintro e w9 ⟨rfl, hb9⟩
        go_wp2_with fail
        go_ret
        exact ⟨rfl, nxt hbr hb9⟩

set_option maxRecDepth 100000 in
theorem lifted (os : Os) (started : os.Started) (H : Type) (enc : TypeId × Value → H) :
    ReturnsInHanded {} Try.checked os 6 .any (Rows.logKeepsSpec.pre6 enc Try.prog Try.f6 Rows.logKeepsRow.domain false) (Rows.logKeepsSpec.post enc Try.prog Try.f6 false true false false) := by
  refine returnsInHanded_of_change (C := Try.checked) knob_own started (by kernel_rfl) Try.func6
    (ChangeSpec.witness6 (enc := enc) (C := Try.checked) false ⟨#[], #[.slice none 0 0, .slice none 0 0], []⟩ 8 (by kernel_rfl) (by kernel_rfl) (by kernel_rfl) (by kernel_rfl)) ?_
  intro W base args ds gs before hval0 hW hcnd _
  have hval : ∀ (j : Nat) t v, Try.f6.params[j]? = some t → args[j]? = some v → Value.okWide Try.prog W .any base t v := hval0
  have hW' := hW
  obtain ⟨p, q, hA0, hV, rfl, hfz, hnd⟩ := hW
  have hA : DataW.TrodAll enc Try.prog W 0 (fun _ => true) true Try.f6.params.toList args.toList ds p := hA0
  rw [Try.params6] at hA hval
  obtain ⟨v0, vs0, d0, ds0, p0, q0, hargs, rfl, rfl, h0, r0⟩ := trodAll_cons hA
  obtain ⟨v1, vs1, d1, ds1, p1, q1, rfl, rfl, rfl, h1, r1⟩ := trodAll_cons r0
  obtain ⟨rfl, rfl, rfl⟩ := trodAll_nil r1
  obtain rfl : args = #[v0, v1] := by cases args; simp_all
  obtain ⟨rfl, rfl⟩ := trodVars_none hV
  obtain ⟨a0, n0, c0, rfl⟩ := okWide_slice Try.underlying30 (hval 0 30 v0 rfl rfl)
  have k0 := h0
  have lt0 : ∀ x ∈ p0, x.block < W.heap.size := by obtain ⟨m, hm⟩ := k0; exact DataW.trod_lt m _ _ _ hm
  have w0 := brows_open h0
  obtain ⟨a1, n1, c1, rfl⟩ := okWide_slice Try.underlying58 (hval 1 58 v1 rfl rfl)
  have k1 := h1
  have lt1 : ∀ x ∈ p1, x.block < W.heap.size := by obtain ⟨m, hm⟩ := k1; exact DataW.trod_lt m _ _ _ hm
  have z1 : ∃ zs, Ints .i64 W a1 n1 c1 zs := by
    obtain ⟨fuel, hf⟩ := h1
    rcases open_ints Try.underlying58 Try.underlying3 (by kernel_rfl) hf with ⟨hcs, _⟩ | ⟨x, l, c, zs, hcs, _, hl, hm, hz, _, hcell, hwz⟩
    · simp [Value.cells] at hcs
      obtain ⟨rfl, rfl, rfl⟩ := hcs
      exact ⟨[], ints_nil _ _⟩
    · simp [Value.cells] at hcs
      obtain ⟨rfl, rfl, rfl⟩ := hcs
      exact ⟨_, ints_some .i64 W x _ _ zs hl hm (by simpa using hz) hcell hwz⟩
  have w1 := z1
  clear hA0 hval0
  refine (walk W a0 n0 c0 a1 n1 c1 w0 w1).mono fun e W' ⟨he, bel⟩ => ?_
  subst he
  exact ⟨_, rfl, _, _, _, [], _, [], hW', trodAll_mk1 (shut_bool Try.underlying4 _), (trodAll_cons_mk (Below.trod laid_out (by kernel_rfl) (of_decide_eq_true (by kernel_rfl)) k0 bel lt0) (trodAll_cons_mk (Below.trod laid_out (by kernel_rfl) (of_decide_eq_true (by kernel_rfl)) k1 bel lt1) (trodAll_mk0))), rfl, bel.frame _, fun h => by cases h⟩

theorem over : Rows.logKeepsRow.holds Try.pinned (OpenSpec.ofChange Rows.logKeepsSpec) :=
  OpenClaim.holds_of_wide 6 Try.f6 rfl rfl rfl rfl rfl rfl rfl ⟨rfl, rfl, rfl, rfl, rfl⟩ rfl rfl rfl rfl rfl (by kernel_rfl) Try.func6 (by kernel_rfl)
    (of_decide_eq_true (by kernel_rfl)) (by unfold Func.isWrapper; first | (rw [if_pos (by decide +kernel)]; kernel_rfl) | (rw [if_neg (by decide +kernel)]; exact ⟨rfl, rfl⟩))
    (fun os started H enc _ => lifted os started H enc)

theorem proved : Rows.LogKeepsSaid := over
end Go.Proofs.Ytfcokndpkkhnjaa.logKeeps
