/- drover/value.Get's closure: the walk. -/
import Derived.Test.YtfobmlicmbelnaaDoorGetSt
namespace Go.Proofs.YtfobmlicmbelnaaDoor
open Go.RowKit

def getF (bl bb bg : Nat) : Value := .func (.func 49) #[] #[.pointer (some ⟨bl, 0, none⟩), .pointer (some ⟨bb, 0, none⟩), .pointer (some ⟨bg, 0, none⟩)]
def OutG (bl : Nat) (r : Except Nat (Va × Nat × Nat)) (w : World) (e : Ending) (w' : World) : Prop := match r with
  | .error er => ∃ z : Int, e = .returned (.tuple #[zeroV, .int .i64 0, .int .i64 ((er : Nat) : Int)]) ∧ Cnt w' bl z ∧ Kp bl w w'
  | .ok (t, nx, m') => ∃ x, e = .returned (.tuple #[x, .int .i64 ((nx : Nat) : Int), .int .i64 0]) ∧ RepS w' (fun b => w.heap.size ≤ b ∧ b < w'.heap.size) x t ∧ Cnt w' bl ((m' : Nat) : Int) ∧ Kp bl w w'

set_option maxRecDepth 100000 in
set_option maxHeartbeats 1600000 in
theorem get1_any : ∀ (L : Nat) (at_ m : Nat) (l : List Nat) (vb : Value) (lev : Int) (w : World) (B bl bb bg : Nat), lev + L = 17 → L ≤ 16 → m ≤ 256 → at_ ≤ l.length → l.length ≤ 1099511627776 → BsB w B vb l → B ≤ bl → B ≤ w.heap.size → bb ≠ bl → bg ≠ bl →
    Cnt w bl m → w.heap[bb]? = some (.cells #[vb] 32 (0, 0)) → Fun1 w bg 79 (getF bl bb bg) →
    Calls Tryd.prog 49 #[.int .i64 (at_ : Int), .int .i64 lev, .pointer (some ⟨bl, 0, none⟩), .pointer (some ⟨bb, 0, none⟩), .pointer (some ⟨bg, 0, none⟩)] w (OutG bl (dec l L at_ m) w) := by
  intro L
  induction L with
  | zero =>
    intro at_ m l vb lev w B bl bb bg hlev _ hm hat hn hbs hBl hBw hnb hng hc hvb hf
    have HK : Hid (dec l 0 at_ m = .error 13) := by cases m <;> rfl
    have c1 := hc.cell
    have c2 := hc.free
    have hc2 := hc.set ((m : Int) - 1)
    have c3 := hc2.cell
    have hlt := lt_heap hc
    have hlev' : (16 : Int) < lev := by omega
    clear hlev
    go_enter Tryd.func49, Tryd.ntmps49
    go_wp2_with fail
    all_goals
      refine bodyPost_ret (v := .tuple #[zeroV, .int .i64 0, .int .i64 13]) (by simp [results, Tryd.results49, go_sem, zeroV]) rfl ?_
      rw [HK.out]
      exact ⟨_, rfl, heap_old hc2 _, ((Kp.refl _ _).set rfl _).alloc _⟩
  | succ L ih =>
    intro at_ m l vb lev w B bl bb bg hlev hL hm hat hn hbs hBl hBw hnb hng hc hvb hf
    have c1 := hc.cell
    have c2 := hc.free
    have hc2 := hc.set ((m : Int) - 1)
    have c3 := hc2.cell
    have hlt := lt_heap hc
    by_cases hm0 : m = 0
    · subst hm0
      have HK : Hid (dec l (L + 1) at_ 0 = .error 13) := rfl
      go_enter Tryd.func49, Tryd.ntmps49
      go_wp2_with fail
      all_goals
        refine bodyPost_ret (v := .tuple #[zeroV, .int .i64 0, .int .i64 13]) (by simp [results, Tryd.results49, go_sem, zeroV]) rfl ?_
        rw [HK.out]
        exact ⟨_, rfl, heap_old hc2 _, ((Kp.refl _ _).set rfl _).alloc _⟩
    · obtain ⟨m1, rfl⟩ : ∃ m1, m = m1 + 1 := ⟨m - 1, by omega⟩
      have em : ((m1 + 1 : Nat) : Int) - 1 = (m1 : Int) := by omega
      have hc0 : Cnt (w.setCell ⟨bl, 0, none⟩ (.int .i64 (m1 : Int))) bl (m1 : Int) := by rw [← em]; exact hc2
      have EM := Lib.hid em
      clear em
      have hltb := lt_heap hvb
      have b1 : w.cell? ⟨bb, 0, none⟩ = some vb := cell_of_one hvb
      have b2 : (w.setCell ⟨bl, 0, none⟩ (.int .i64 (m1 : Int))).cell? ⟨bb, 0, none⟩ = some vb := cell_of_one ((Below.heap_setCell _ _ _ _ hnb).trans hvb)
      have hk0 : Kp bl w (w.setCell ⟨bl, 0, none⟩ (.int .i64 (m1 : Int))) := (Kp.refl _ _).set rfl _
      obtain ⟨⟨A, c, rfl, hcc, ha⟩, h8⟩ := id hbs
      have H8 := Lib.hid h8
      clear h8
      by_cases hend : at_ = l.length
      · have HK : Hid (dec l (L + 1) at_ (m1 + 1) = .error 11) := by
          show _ = _
          rw [dec, if_pos hend]
        have g1 : ((at_ : Int) == (l.length : Int)) = true := by rw [hend]; simp
        clear hend
        go_enter Tryd.func49, Tryd.ntmps49
        go_wp2_with fail
        refine bodyPost_ret (v := .tuple #[zeroV, .int .i64 0, .int .i64 11]) (by simp [results, Tryd.results49, go_sem, zeroV]) rfl ?_
        rw [HK.out]
        exact ⟨_, rfl, heap_old hc0 _, hk0.alloc _⟩
      · have hat' : at_ < l.length := by omega
        have g1 : ((at_ : Int) == (l.length : Int)) = false := beq_eq_false_iff_ne.2 (by omega)
        obtain ⟨b, o, rfl, hb, hcell⟩ := ha.byte (by intro h0; subst h0; simp at hat')
        have hbs2 : b < w.heap.size := by omega
        have a0 := hcell at_ hat'
        have a1 : (w.setCell ⟨bl, 0, none⟩ (.int .i64 (m1 : Int))).cell? ⟨b, o + at_, none⟩ = some (.int .u8 ((l.getD at_ 0 : Nat) : Int)) := hk0.cell a0 (by show b ≠ bl; omega)
        have hbW : Below B w ((w.setCell ⟨bl, 0, none⟩ (.int .i64 (m1 : Int))).alloc (.cells #[.int .u8 0, .int .i64 0, .string ⟨#[]⟩, .slice none 0 0] 25)) := (hk0.alloc _).below hBl hBw
        clear hcell
        obtain ⟨x, hx⟩ : ∃ x, l.getD at_ 0 = x := ⟨_, rfl⟩
        rw [hx] at a0 a1
        have HX := Lib.hid hx
        clear hx
        by_cases h4 : x = 4
        · have HK : Hid (dec l (L + 1) at_ (m1 + 1) = if (gp l (at_ + 1)).2.2 ≠ 0 then .error (gp l (at_ + 1)).2.2 else match decL (dec l L) (gp l (at_ + 1)).1 (gp l (at_ + 1)).2.1 m1 with | .error e => .error e | .ok (ts, nx, m') => .ok (.mk 4 0 [] ts, nx, m')) := by
            show _ = _
            rw [dec, if_neg hend, if_pos (by rw [HX.out]; exact h4)]
            unfold gp
            by_cases u1 : (gu l (at_ + 1)).2.2 = 0
            · have u1' : ¬ (gu l (at_ + 1)).2.2 ≠ 0 := fun h => h u1
              rw [if_neg u1', if_neg u1']
              by_cases u2 : 256 < (gu l (at_ + 1)).1
              · rw [if_pos u2, if_pos u2, if_pos (by simp)]
              · rw [if_neg u2, if_neg u2, if_neg (by simp)]
                cases decL (dec l L) (gu l (at_ + 1)).1 (gu l (at_ + 1)).2.1 m1 <;> rfl
            · rw [if_pos u1, if_pos u1, if_pos u1]
          have HB : Hid ((gp l (at_ + 1)).2.2 = 0 → (gp l (at_ + 1)).1 ≤ 256 ∧ (gp l (at_ + 1)).2.1 ≤ l.length) := by
            intro h
            have hb := gu_bounds l (at_ + 1) (by omega)
            unfold gp at h ⊢
            split at h
            · rename_i h1; exact absurd h h1
            · rename_i h1
              rw [if_neg h1]
              split at h
              · simp at h
              · rename_i h2
                rw [if_neg h2]
                exact ⟨by dsimp only; omega, (hb.2.2 (by simpa using h1)).2⟩
          have g4 : ((x : Int) == 4) = true := by rw [h4]; rfl
          have g5 : ((x : Int) != 4) = false := by rw [h4]; rfl
          clear hend h4
          go_enter Tryd.func49, Tryd.ntmps49
          go_wp2_with fail
          refine (getparts_any _ l (at_ + 1) _ ((hbs.below hbW).bs ?ca) hn (by omega)).mono ?_
          case ca => exact Nat.le_trans hBw (by have := (hk0.alloc (.cells #[.int .u8 0, .int .i64 0, .string ⟨#[]⟩, .slice none 0 0] 25)).size; exact this)
          rintro e w1 ⟨rfl, rfl⟩
          generalize gp l (at_ + 1) = r at *
          obtain ⟨c0, nx0, er⟩ := r
          dsimp only at *
          by_cases he : er = 0
          · subst he
            obtain ⟨hc0', hnx0⟩ := HB.out rfl
            have HK2 : Hid (dec l (L + 1) at_ (m1 + 1) = match decL (dec l L) c0 nx0 m1 with | .error e => .error e | .ok (ts, nx, m') => .ok (.mk 4 0 [] ts, nx, m')) := by
              show _ = _
              rw [HK.out, if_neg (by simp)]
            clear HK HB
            rw [show (((0 : Nat)) : Int) = 0 from rfl]
            go_wp2_with fail
            obtain ⟨i0, hi0, hz0, hz1, hz2⟩ := info_parts val_info
            go_loopw [11, 12, 57] (fun nxv ev i wr => ∃ (j nx m2 : Nat) (ts : List Va) (cs : List Value) (A' : Option Addr) (cp : Nat), j ≤ c0 ∧ i = .int .i64 (j : Int) ∧ nxv = .int .i64 (nx : Int) ∧ ev = .int .i64 0 ∧ Hid (decL (dec l L) j nx0 m1 = .ok (ts, nx, m2)) ∧ nx ≤ l.length ∧ m2 ≤ 256 ∧ Hid (j ≤ cp ∧ cp ≤ maxLen) ∧ GS w wr bl m2 j (.slice A' j cp) ts cs) (fun _ _ i _ => c0 - (intOf i).toNat)
            case atStart => exact ⟨0, nx0, m1, [], [], none, 0, Nat.zero_le _, rfl, rfl, rfl, rfl, hnx0, by omega, ⟨Nat.le_refl _, by unfold maxLen; omega⟩, GS.start _ hc0 hk0 (by simp [World.setCell])⟩
            case round =>
              obtain ⟨j, nx, m2, ts, cs, A', cp, hj, rfl, rfl, rfl, HF, hnx, hm2, HCP, hgs⟩ := hrel
              have hN1 := lt_heap hgs.box
              have hbel : Below B w wr := hgs.kp.below hBl hBw
              have ne1 : ¬ w.heap.size = wr.heap.size := by omega
              have ne2 : ¬ wr.heap.size = w.heap.size := by omega
              have ne3 : ¬ w.heap.size + 1 = wr.heap.size := by omega
              have ne4 : ¬ wr.heap.size = w.heap.size + 1 := by omega
              by_cases hlt2 : j < c0
              · have hfr : Fun1 wr bg 79 (getF bl bb bg) := hgs.kp.heap hf hng
                have hfc : wr.cell? ⟨bg, 0, none⟩ = some (getF bl bb bg) := hfr.cell
                unfold getF at hfc
                have hltf := lt_heap hfr
                go_wp2_with fail
                refine (ih nx m2 l _ (lev + 1) _ B bl bb bg (by omega) (by omega) hm2 hnx hn ((hbs.below hbel).below ((Below.refl _ _).alloc (by omega) _)) hBl (by simp; omega) hnb hng (heap_old hgs.cnt _) (heap_old (hgs.kp.heap hvb hnb) _) (heap_old hfr _)).mono ?_
                intro e w3 hpost
                have hlf : ∃ r, dec l L nx m2 = r := ⟨_, rfl⟩
                obtain ⟨r, hr⟩ := hlf
                rw [hr] at hpost
                cases r with
                | error er =>
                  obtain ⟨z, rfl, hc3, hk3⟩ := hpost
                  have hk4 : Kp bl w w3 := (hgs.kp.alloc _).trans hk3
                  have q1 : w3.heap[w.heap.size]? = some (.cells #[.int .u8 0, .int .i64 0, .string ⟨#[]⟩, .slice none 0 0] 25 (0, 0)) := hk3.heap (heap_old hgs.res _) (by omega)
                  have q4 : w3.heap[wr.heap.size]? = some (.cells #[.int .u8 0, .int .i64 0, .string ⟨#[]⟩, .slice none 0 0] 25 (0, 0)) := hk3.heap (heap_new _ _) (by omega)
                  obtain ⟨s0, s1, s2, s3⟩ := box4 q4
                  have e0 : w3.frozen? ⟨wr.heap.size, 0, none⟩ = false := Lib.frozen_of_heap q4 0
                  have e1 : w3.frozen? ⟨wr.heap.size, 1, none⟩ = false := Lib.frozen_of_heap q4 1
                  have e2 : w3.frozen? ⟨wr.heap.size, 2, none⟩ = false := Lib.frozen_of_heap q4 2
                  have e3 : w3.frozen? ⟨wr.heap.size, 3, none⟩ = false := Lib.frozen_of_heap q4 3
                  obtain ⟨p0, p1, p2, p3⟩ := box4 q1
                  have f0 : w3.frozen? ⟨w.heap.size, 0, none⟩ = false := Lib.frozen_of_heap q1 0
                  have f1 : w3.frozen? ⟨w.heap.size, 1, none⟩ = false := Lib.frozen_of_heap q1 1
                  have f2 : w3.frozen? ⟨w.heap.size, 2, none⟩ = false := Lib.frozen_of_heap q1 2
                  have f3 : w3.frozen? ⟨w.heap.size, 3, none⟩ = false := Lib.frozen_of_heap q1 3
                  have hne := dec_ne l L nx m2 er hr
                  have g8 : ((er : Int) == 0) = false := beq_eq_false_iff_ne.2 (by omega)
                  have g9 : ((er : Int) != 0) = true := bne_iff_ne.2 (by omega)
                  have HE := Lib.hid (decL_err j nx0 m1 c0 ts nx m2 er HF.out hr hlt2)
                  have HR := Lib.hid hr
                  have hltw : ¬ bl = wr.heap.size := by omega
                  clear hr hk3 hne hfc
                  unfold zeroV
                  go_wp2_with fail
                  refine bodyPost_ret (v := .tuple #[zeroV, .int .i64 0, .int .i64 (er : Int)]) (by simp [results, Tryd.results49, go_sem, zeroV, p0, p1, p2, p3]) rfl ?_
                  rw [HK2.out, HE.out]
                  exact ⟨z, rfl, W4.heap (W4.heap hc3 hltw) (by omega), W4.kp (W4.kp hk4 (by omega)) (Nat.le_refl _)⟩
                | ok r =>
                  obtain ⟨t, nx', m3⟩ := r
                  obtain ⟨x1, rfl, hx1, hc3, hk3⟩ := hpost
                  obtain ⟨hrg, _, _, hnx', _⟩ := dec_back l H8.out L nx m2 t nx' m3 hnx hr
                  have hm3 := (rgt_rt L t m2 m3 hrg).2
                  have HS := Lib.hid (decL_snoc j nx0 m1 ts nx m2 t nx' m3 HF.out hr)
                  have HR := Lib.hid hr
                  have q4 : w3.heap[wr.heap.size]? = some (.cells #[.int .u8 0, .int .i64 0, .string ⟨#[]⟩, .slice none 0 0] 25 (0, 0)) := hk3.heap (heap_new _ _) (by omega)
                  obtain ⟨s0, s1, s2, s3⟩ := box4 q4
                  have e0 : w3.frozen? ⟨wr.heap.size, 0, none⟩ = false := Lib.frozen_of_heap q4 0
                  have e1 : w3.frozen? ⟨wr.heap.size, 1, none⟩ = false := Lib.frozen_of_heap q4 1
                  have e2 : w3.frozen? ⟨wr.heap.size, 2, none⟩ = false := Lib.frozen_of_heap q4 2
                  have e3 : w3.frozen? ⟨wr.heap.size, 3, none⟩ = false := Lib.frozen_of_heap q4 3
                  obtain ⟨z0, z1, z2, z3, rfl⟩ := hx1.form
                  have hx2 := hx1
                  obtain ⟨kt, nt, st, lt⟩ := t
                  obtain ⟨At1, ct, rfl, rfl, rfl, rfl, -⟩ := hx1.parts
                  have hown5 := hgs.own5 (z := .cells #[.int .u8 0, .int .i64 0, .string ⟨#[]⟩, .slice none 0 0] 25) (y0 := .int .u8 (kt : Int)) (y1 := .int .i64 nt) (y2 := .string (strOf st)) (y3 := .slice At1 lt.length ct) (o := .cells #[.int .u8 (kt : Int), .int .i64 nt, .string (strOf st), .slice At1 lt.length ct] 25) hlt hk3
                  have hbox3 : w3.heap[w.heap.size + 1]? = some (.cells #[.int .u8 4, .int .i64 0, .string ⟨#[]⟩, .slice A' j cp] 25 (0, 0)) := hk3.heap (heap_old hgs.box _) (by omega)
                  obtain ⟨r0, r1, r2, r3⟩ := box4 hbox3
                  have hsz3 : wr.heap.size + 1 ≤ w3.heap.size := by have := hk3.size; simpa using this
                  clear hr hfc hrg hx1
                  go_wp2_with (at_builtin
                               refine wpList_append_at _ rfl (.tmp 73) (.tmp 75) 23 rfl (w.heap.size + 2) 25 i0 zeroV 4 56 Tryd.underlying23 hi0 hz0 hz1 hz2 rfl (by omega) (.slice A' j cp) j cs rfl hown5 _ _ 1 _ [.int .u8 (kt : Int), .int .i64 nt, .string (strOf st), .slice At1 lt.length ct] rfl (At.made' _ _ _ _ (by simp [World.setCell])) rfl (by intro u hu; simp at hu; rcases hu with rfl | rfl | rfl | rfl <;> rfl) (by unfold maxLen; omega) (by omega) (by simp [World.setCell]; omega) ?_
                               intro lv' w6 ho6 hg6 hor6
                               obtain ⟨A6, cp6, rfl, hcp6, hcm6⟩ := ownsRow_form ho6
                               have hgs6 := hgs.step hlt hk3 hc3 hx2 ho6 hg6 hor6
                               have hb6 := hgs.box6 hlt hk3 hg6
                               obtain ⟨v0, v1, v2, v3⟩ := box4 hb6
                               have f6 : w6.frozen? ⟨w.heap.size + 1, 3, none⟩ = false := Lib.frozen_of_heap hb6 3)
                  go_roundw
                  case rel => exact ⟨j + 1, nx', m3, ts ++ [.mk kt nt st lt], _, A6, cp6, by omega, by go_num, rfl, rfl, HS, hnx', by omega, ⟨hcp6, hcm6⟩, hgs6⟩
                  case measure => simp [intOf]; omega
              · obtain rfl : j = c0 := by omega
                have hcc0 := HCP.out
                have HD := Lib.hid (hgs.done (y0 := .int .u8 4) (y1 := .int .i64 0) (y2 := .string ⟨#[]⟩) (y3 := .slice A' j cp) hcc0.1 hcc0.2)
                clear hcc0
                obtain ⟨p0, p1, p2, p3⟩ := box4 hgs.res
                obtain ⟨r0, r1, r2, r3⟩ := box4 hgs.box
                have f0 : wr.frozen? ⟨w.heap.size, 0, none⟩ = false := Lib.frozen_of_heap hgs.res 0
                have f1 : wr.frozen? ⟨w.heap.size, 1, none⟩ = false := Lib.frozen_of_heap hgs.res 1
                have f2 : wr.frozen? ⟨w.heap.size, 2, none⟩ = false := Lib.frozen_of_heap hgs.res 2
                have f3 : wr.frozen? ⟨w.heap.size, 3, none⟩ = false := Lib.frozen_of_heap hgs.res 3
                go_wp2_with fail
                refine bodyPost_ret (v := .tuple #[.agg #[.int .u8 4, .int .i64 0, .string ⟨#[]⟩, .slice A' j cp], .int .i64 (nx : Int), .int .i64 0]) (by simp [results, Tryd.results49, go_sem, p0, p1, p2, p3]) rfl ?_
                rw [HK2.out, HF.out]
                exact ⟨_, rfl, HD.out, W4.heap hgs.cnt (by omega), W4.kp hgs.kp (Nat.le_refl _)⟩
          · have g6 : ((er : Int) == 0) = false := by simp; omega
            have g7 : ((er : Int) != 0) = true := by simp; omega
            have HK2 : Hid (dec l (L + 1) at_ (m1 + 1) = .error er) := by
              show _ = _
              rw [HK.out, if_pos he]
            clear HK HB he
            go_wp2_with fail
            refine bodyPost_ret (v := .tuple #[zeroV, .int .i64 0, .int .i64 (er : Int)]) (by simp [results, Tryd.results49, go_sem, zeroV]) rfl ?_
            rw [HK2.out]
            exact ⟨_, rfl, heap_old hc0 _, hk0.alloc _⟩
        · have HK : Hid (dec l (L + 1) at_ (m1 + 1) = match dlf l at_ with | .error e => .error e | .ok (v, nx) => .ok (v, nx, m1)) := by
            show _ = _
            rw [dec, if_neg hend, if_neg (by rw [HX.out]; exact h4)]
            cases dlf l at_ <;> rfl
          have g4 : ((x : Int) == 4) = false := beq_eq_false_iff_ne.2 (by omega)
          have g5 : ((x : Int) != 4) = true := bne_iff_ne.2 (by omega)
          clear hend h4
          go_enter Tryd.func49, Tryd.ntmps49
          go_wp2_with fail
          refine (getleaf_any _ l at_ _ ((hbs.below hbW).bs ?ca) hn hat').mono ?_
          case ca => exact Nat.le_trans hBw (by have := (hk0.alloc (.cells #[.int .u8 0, .int .i64 0, .string ⟨#[]⟩, .slice none 0 0] 25)).size; exact this)
          intro e w1 hpost
          have hlf : ∃ r, dlf l at_ = r := ⟨_, rfl⟩
          obtain ⟨r, hr⟩ := hlf
          rw [hr] at hpost
          rw [hr] at HK
          cases r with
          | error er =>
            obtain ⟨rfl, hb1⟩ := hpost
            have hk1 : Kp bl w w1 := (hk0.alloc _).trans (Kp.of_below hb1)
            have q0 := heap_below (heap_old hc0 _) hb1
            have q1 := heap_below (heap_new _ _) hb1
            rw [show (w.setCell ⟨bl, 0, none⟩ (.int .i64 (m1 : Int))).heap.size = w.heap.size by simp [World.setCell]] at q1
            obtain ⟨p0, p1, p2, p3⟩ := box4 q1
            have f0 : w1.frozen? ⟨w.heap.size, 0, none⟩ = false := Lib.frozen_of_heap q1 0
            have f1 : w1.frozen? ⟨w.heap.size, 1, none⟩ = false := Lib.frozen_of_heap q1 1
            have f2 : w1.frozen? ⟨w.heap.size, 2, none⟩ = false := Lib.frozen_of_heap q1 2
            have f3 : w1.frozen? ⟨w.heap.size, 3, none⟩ = false := Lib.frozen_of_heap q1 3
            have HR := Lib.hid hr
            clear hr hb1
            unfold zeroV
            go_wp2_with fail
            refine bodyPost_ret (v := .tuple #[zeroV, .int .i64 0, .int .i64 (er : Int)]) (by simp [results, Tryd.results49, go_sem, zeroV, p0, p1, p2, p3]) rfl ?_
            rw [HK.out]
            exact ⟨_, rfl, W4.heap q0 (by omega), W4.kp hk1 (Nat.le_refl _)⟩
          | ok r =>
            obtain ⟨t, nx⟩ := r
            obtain ⟨x1, rfl, hx1, hb1⟩ := hpost
            have hk1 : Kp bl w w1 := (hk0.alloc _).trans (Kp.of_below hb1)
            have q0 := heap_below (heap_old hc0 _) hb1
            have q1 := heap_below (heap_new _ _) hb1
            rw [show (w.setCell ⟨bl, 0, none⟩ (.int .i64 (m1 : Int))).heap.size = w.heap.size by simp [World.setCell]] at q1
            obtain ⟨p0, p1, p2, p3⟩ := box4 q1
            have f0 : w1.frozen? ⟨w.heap.size, 0, none⟩ = false := Lib.frozen_of_heap q1 0
            have f1 : w1.frozen? ⟨w.heap.size, 1, none⟩ = false := Lib.frozen_of_heap q1 1
            have f2 : w1.frozen? ⟨w.heap.size, 2, none⟩ = false := Lib.frozen_of_heap q1 2
            have f3 : w1.frozen? ⟨w.heap.size, 3, none⟩ = false := Lib.frozen_of_heap q1 3
            have hxF := hx1 (fun _ => False)
            obtain ⟨kt, nt, st, lt⟩ := t
            obtain ⟨z0, z1, z2, z3, rfl⟩ := hxF.form
            obtain ⟨At1, ct, rfl, rfl, rfl, rfl, -⟩ := hxF.parts
            have HR := Lib.hid hr
            clear hr hb1 hx1
            go_wp2_with fail
            refine bodyPost_ret (v := .tuple #[.agg #[.int .u8 (kt : Int), .int .i64 nt, .string (strOf st), .slice At1 lt.length ct], .int .i64 (nx : Int), .int .i64 0]) (by simp [results, Tryd.results49, go_sem, p0, p1, p2, p3]) rfl ?_
            rw [HK.out]
            exact ⟨_, rfl, (W4.rep hxF (fun _ h => h.elim)).wider (fun _ h => h.elim), W4.heap q0 (by omega), W4.kp hk1 (Nat.le_refl _)⟩
end Go.Proofs.YtfobmlicmbelnaaDoor
