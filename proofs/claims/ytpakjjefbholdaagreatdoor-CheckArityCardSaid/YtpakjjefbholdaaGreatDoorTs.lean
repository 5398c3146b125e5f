/- Package tree: role: the walk. -/
import Derived.Test.YtpakjjefbholdaaGreatDoorTr
namespace Go.Proofs.YtpakjjefbholdaaGreatDoor
open Go.RowKit
set_option linter.unusedVariables false

section
variable {w0 : World} {T : List Nat} {R : Ru} {q : Nat}
/-- The blocks that the parts of a role may not lie in. -/
def Dq (q g0 g3 : Nat) : Nat → Prop := fun b => b = q ∨ b = g0 ∨ b = g3
/-- A variable that holds a role whose bodies are being read. -/
structure RlAt (q : Nat) (w X : World) (g0 g3 : Nat) (s : List Nat) (ps : List (List Nat)) (ln : Nat) (yp v : Value) (L : List Nd) : Prop where
  e : X.heap[g3]? = some (.cells #[.string (strOf s), yp, v, .int .i64 (ln : Int)] 87 (0, 0))
  z : X.heap[g0]? = some (.cells #[.string ⟨#[]⟩, .slice none 0 0, .slice none 0 0, .int .i64 0] 87 (0, 0))
  pp : Px w X (fun b => Dq q g0 g3 b ∨ some b = v.ownBlock) (.row 1 (ps.map nmNd)) yp
  row : RowE w X (w.heap.size + 2) 55 4 v L (Dq q g0 g3)
  ok : Sok s
section
variable {w X Y : World} {g0 g3 : Nat} {s : List Nat} {ps : List (List Nat)} {ln : Nat} {yp v v' : Value} {L : List Nd}
theorem RlAt.kp (h : RlAt q w X g0 g3 s ps ln yp v L) (hk : Kp q X Y) (hq : q < w.heap.size) (h0 : g0 ≠ q) (h3 : g3 ≠ q) : RlAt q w Y g0 g3 s ps ln yp v L :=
  ⟨hk.heap h.e h3, hk.heap h.z h0, h.pp.keep hk (fun g e => .inl (.inl (Option.some.inj e).symm)) (fun _ _ h => h), h.row.keep hk (fun g e => .inl (Option.some.inj e).symm) (fun g e e2 => by have := (h.row.own g e2).1; have := Option.some.inj e; omega) (fun _ _ h => h), h.ok⟩
/-- A body more. -/
theorem RlAt.app {xs news : List Value} {x : Nd} (h : RlAt q w X g0 g3 s ps ln yp v L) (hn : g0 ≠ g3) (hg0 : g0 < w.heap.size + 2) (hg3 : g3 < w.heap.size + 2) (hq : q < w.heap.size + 2) (h1 : X.ownsRow (w.heap.size + 2) 55 4 v L.length xs) (h2 : Flat X (fun b => Nw w X b ∧ ¬ (Dq q g0 g3 b ∨ some b = v.ownBlock)) 4 xs L)
    (hx : Rd X (fun b => Nw w X b ∧ ¬ (Dq q g0 g3 b ∨ some b = v.ownBlock)) x (.agg news.toArray)) (hl : news.length = 4) (ho : Y.ownsRow (w.heap.size + 2) 55 4 v' (L.length + 1) (xs ++ news)) (hg : X.grownBy Y v.ownBlock) (hor : v'.ownBlock = v.ownBlock ∨ v'.ownBlock = some X.heap.size) :
    RlAt q w (Y.setCell ⟨g3, 2, none⟩ v') g0 g3 s ps ln yp v' (L ++ [x]) := by
  have hr := RowE.snoc (D := Dq q g0 g3) h1 h2 hx hl ho hg hor
  have hown : ∀ g, v.ownBlock = some g → w.heap.size + 2 ≤ g ∧ g < X.heap.size := h.row.own
  have e3 : Y.heap[g3]? = some (.cells #[.string (strOf s), yp, v, .int .i64 (ln : Int)] 87 (0, 0)) := (hg.block g3 (lt_heap h.e) (fun e => by have := (hown g3 e.symm).1; omega)).trans h.e
  have e0 := (hg.block g0 (lt_heap h.z) (fun e => by have := (hown g0 e.symm).1; omega)).trans h.z
  have hset : Y.grownBy (Y.setCell ⟨g3, 2, none⟩ v') (some g3) := (Kp.refl g3 Y).set rfl _
  refine ⟨by simpa using heap_set e3 2 v', heap_set_ne e0 hn _ _, ?_, hr.keep hset (fun g e => .inr (.inr (Option.some.inj e).symm)) (fun g e e2 => by have := (hr.own g e2).1; have := Option.some.inj e; omega) (fun _ _ h => h), h.ok⟩
  have p1 : Px w Y (fun b => Dq q g0 g3 b ∨ some b = v'.ownBlock) (.row 1 (ps.map nmNd)) yp := h.pp.keep hg (fun g e => .inr e.symm) (fun b hb hd => by
    rcases hd with hd | hd
    · exact .inl hd
    · rcases hor with e | e
      · rw [e] at hd; exact .inr hd
      · rw [e] at hd
        have := Option.some.inj hd
        omega)
  exact p1.keep hset (fun g e => .inl (.inr (.inr (Option.some.inj e).symm))) (fun _ _ h => h)
end
/-- role reads a role by that rule. -/
def LC (w0 : World) (T : List Nat) (R : Ru) (q : Nat) (n m : Nat) : Prop := ∀ w p (r : Rl × Pst) (ln : Nat), Cx w0 T R q w p → p.g + m ≤ mostG → roleF T n ln p = some r → Calls Tryz.prog 89 #[at0 q, .int .i64 (ln : Int)] w (OutX w0 T R q w r.1.nd r.2)
theorem namedF_g (n ln : Nat) : Gk (namedF T n ln) := by
  intro p r hr
  unfold namedF at hr
  split at hr
  · cases hr
  · rename_i l u hl
    split at hr
    · cases hr
    · rename_i b u2 hb
      cases hr
      show u2.g = _
      rw [show u2.g = _ from bodyF_g (stmtF_g (T := T) (orF_g (T := T) n) n n) n _ _ hb, show u.g = _ from listF_g (one := nameP T) (fun p r hr => by cases hr; exact name_g T p) n _ _ hl, name_g]
set_option maxRecDepth 100000 in
set_option maxHeartbeats 8000000 in
theorem role_any (ht : TxtOk w0 T) (n : Nat) (hn : n ≤ 100000) : LC w0 T R q n (n * n + n) := by
  intro w p r ln h hg hr
  have HN := Lib.hid (name_any' ht ((h.alloc (.cells #[.string ⟨#[]⟩, .slice none 0 0, .slice none 0 0, .int .i64 0] 87)).alloc (.cells #[.string ⟨#[]⟩, .slice none 0 0, .slice none 0 0, .int .i64 (ln : Int)] 87)))
  have hgn := name_g T p
  have HOK := Lib.hid (fun s p' (e : p.name T = (s, p')) => name_sok e h.ok)
  unfold roleF at hr
  obtain ⟨s1, p1, hP1⟩ : ∃ s1 p1, p.name T = (s1, p1) := ⟨_, _, rfl⟩
  have HSO := Lib.hid (HOK.out _ _ hP1)
  rw [hP1] at HN hr hgn
  dsimp only at HN hr hgn
  clear HOK hP1
  cases hl : listF T (nameP T) n p1 with
  | none => rw [hl] at hr; cases hr
  | some y =>
    obtain ⟨l, p2⟩ := y
    rw [hl] at hr
    dsimp only at hr
    have hg2 : p2.g = p1.g := listF_g (one := nameP T) (fun p r hr => by cases hr; exact name_g T p) n _ _ hl
    have HMB := Lib.hid (fun w' (h' : Cx w0 T R q w' p2) => must_any ht h' [123] ⟨#[123]⟩ rfl (by decide))
    have hgm := must_g T [123] p2
    obtain ⟨b3, p3, hP3⟩ : ∃ b3 p3, p2.must T [123] = (b3, p3) := ⟨_, _, rfl⟩
    rw [hP3] at hr HMB hgm
    dsimp only at hr HMB hgm
    clear hP3
    cases ho : onsF T n n [] p3 with
    | none => rw [ho] at hr; cases hr
    | some y =>
      obtain ⟨bs, p4⟩ := y
      rw [ho] at hr
      cases hr
      have HL := Lib.hid (fun w' (h' : Cx w0 T R q w' p1) => listN_any ht w' p1 (l, p2) h' n hn hl)
      have HNA := Lib.hid (fun w' p' (rr : Bd × Pst) (ln' : Nat) (h' : Cx w0 T R q w' p') (hg' : p'.g = p.g) (hr' : namedF T n ln' p' = some rr) => named_any (R := R) (q := q) ht n hn w' p' rr ln' h' (by omega) hr')
      have HG0 := Lib.hid (show p3.g = p.g by rw [hgm, hg2, hgn])
      have HSt := Lib.hid (HdAt.start (w := w) 87 4 ln)
      have H0 := Lib.hid h
      have hq := h.lt
      have hqa : ¬ w.heap.size = q := by omega
      have hqb : ¬ w.heap.size + 1 = q := by omega
      have hne : w.heap.size ≠ w.heap.size + 1 := by omega
      have HR := Lib.hid ho
      have HSS := Lib.hid (fun p' w' (h' : Cx w0 T R q w' p') => sign_made ht h' [[125]] #[.string ⟨#[125]⟩] 9 1 1 rfl rfl (by decide) (by decide))
      have HKK := Lib.hid (fun p' w' (h' : Cx w0 T R q w' p') => key_made ht h' [[111, 110]] #[.string ⟨#[111, 110]⟩] 9 1 1 rfl rfl (by decide) (by decide))
      have HFF := Lib.hid (fun p' w' (h' : Cx w0 T R q w' p') => fail_any h' 101)
      have HOO := Lib.hid (fun p' w' (h' : Cx w0 T R q w' p') => ok_at h')
      clear h ht hg hgn hl hg2 ho hgm
      unfold at0 at *
      go_enter Tryz.func89, Tryz.ntmps89
      go_upto_region 3 with (first
        | (go_at_call 127
           refine HN.out.mono ?_
           rintro e w2 ⟨rfl, h9, hk9⟩
           have HC2 := Lib.hid h9
           have HK2 := Lib.hid ((((Kp.refl q w).alloc _).alloc _).trans hk9)
           have HS2 := Lib.hid (HSt.out.kp hk9 hq hqa hqb)
           obtain ⟨⟨d0, d1, d2, d3⟩, f0, f1, f2, f3⟩ := box4f HS2.out.e
           have hz2 := lt_heap HS2.out.e
           clear h9 hk9)
        | (fail))
      have hs3 := HS2.out.setS hne s1 HSO.out
      have hc3 := Cx.one H0.out HC2.out HK2.out (g3 := w.heap.size + 1) (by omega) 0 (.string (strOf s1))
      clear d0 d1 d2 d3 f0 f1 f2 f3 hz2
      obtain ⟨W3, hW3⟩ : ∃ W, w2.setCell ⟨w.heap.size + 1, 0, none⟩ (.string (strOf s1)) = W := ⟨_, rfl⟩
      rw [hW3] at hs3 hc3 ⊢
      have HS3 := Lib.hid hs3
      have HC3 := Lib.hid hc3.1
      have HK3 := Lib.hid hc3.2
      have HL3 := Lib.hid (And.intro (lt_heap hs3.e) (lt_heap hs3.z))
      clear hs3 hc3 hW3 HS2 HC2 HK2 HSt HN
      go_upto_region 4 with (first
        | (go_at_call 128
           refine (HL.out _ HC3.out).mono ?_
           rintro e w4 ⟨v4, rfl, hx4, h9, hk9⟩
           obtain ⟨A4, n4, c4, rfl⟩ := hx4.row_form
           have HC4 := Lib.hid h9
           have HK4 := Lib.hid (HK3.out.trans hk9)
           have HS4 := Lib.hid (HS3.out.kp hk9 hq hqa hqb)
           have HX4 := Lib.hid hx4
           obtain ⟨⟨d0, d1, d2, d3⟩, f0, f1, f2, f3⟩ := box4f HS4.out.e
           have hz4 := lt_heap HS4.out.e
           clear h9 hk9 hx4)
        | (fail))
      have hs5 := HS4.out.setP hne (ps' := l) (Sg.of HX4.out HK3.out.size HL3.out.2 HL3.out.1)
      have hc5 := Cx.one H0.out HC4.out HK4.out (g3 := w.heap.size + 1) (by omega) 1 (.slice A4 n4 c4)
      clear d0 d1 d2 d3 f0 f1 f2 f3 hz4
      obtain ⟨W5, hW5⟩ : ∃ W, w4.setCell ⟨w.heap.size + 1, 1, none⟩ (.slice A4 n4 c4) = W := ⟨_, rfl⟩
      rw [hW5] at hs5 hc5 ⊢
      have hrl : RlAt q w W5 w.heap.size (w.heap.size + 1) s1 l ln (.slice A4 n4 c4) (.slice none 0 0) [] := ⟨hs5.e, hs5.z, Rd.keep (fun _ _ => rfl) (fun b hb => ⟨hb.1, by
        rintro (⟨hd | hd | hd⟩ | hd)
        · have := hb.1.1; omega
        · exact hb.2.1 hd
        · exact hb.2.2 hd
        · cases hd⟩) _ _ hs5.rp, RowE.nil _ _ _ _ _ _, hs5.ok⟩
      have HS5 := Lib.hid hrl
      have HC5 := Lib.hid hc5.1
      have HK5 := Lib.hid hc5.2
      clear hs5 hc5 hW5 hrl HS4 HC4 HK4 HS3 HC3 HK3 HL3 HX4 HL
      go_upto_region 5 with (first
        | (go_at_call 130
           refine (HMB.out _ HC5.out).mono ?_
           rintro e w6 ⟨rfl, h9, hk9⟩
           have HC6 := Lib.hid h9
           have HK6 := Lib.hid (HK5.out.trans hk9)
           have HS6 := Lib.hid (HS5.out.kp hk9 hq hqa hqb)
           clear h9 hk9)
        | (fail))
      clear HS5 HC5 HK5 HMB
      go_loopg [] n (fun g wr => ∃ (bl : List Bd) (L : List Nd) (pj : Pst) (v : Value), Hid (onsF T n g bl pj = some (bs, p4) ∧ bl.map Bd.nd = L) ∧ L.length + g ≤ 200000 ∧ Hid (pj.g = p.g) ∧ Hid (RlAt q w wr w.heap.size (w.heap.size + 1) s1 l ln (.slice A4 n4 c4) v L) ∧ Hid (Cx w0 T R q wr pj) ∧ Hid (Kp q w wr))
      case atStart => exact ⟨[], [], p3, _, Lib.hid ⟨HR.out, rfl⟩, by simp; omega, HG0, HS6, HC6, HK6⟩
      case round =>
        obtain ⟨bl, L, pj, v, HF, hlen, HGJ, HS, HCj, HKj⟩ := hrel
        obtain ⟨Av, cv, rfl, hcv, hcmv⟩ := HS.out.row.form
        cases gk with
        | zero => exact absurd HF.out.1 (by simp [onsF])
        | succ g =>
          have hF := HF.out.1
          have HLL := Lib.hid HF.out.2
          rw [onsF] at hF
          have HS4 := Lib.hid (HSS.out pj wr HCj.out)
          have HO4 := Lib.hid (HOO.out pj wr HCj.out)
          have hg4 := one_g T 5 [[125]] pj
          obtain ⟨s5, p5, hP5⟩ : ∃ s5 p5, pj.one T 5 [[125]] = (s5, p5) := ⟨_, _, rfl⟩
          rw [hP5] at hF HS4 hg4
          dsimp only at hF HS4 hg4
          have he4 : (strOf s5).toList.isEmpty = decide (s5 = []) := one_empty _
          clear hP5 HF HR HS6 HC6 HK6
          by_cases her : pj.er = 0
          · rw [if_neg (fun hh => hh her)] at hF
            rw [decide_eq_true her] at HO4
            clear her
            by_cases h4 : s5 = []
            · rw [if_neg (fun hh => hh h4)] at hF
              rw [decide_eq_true h4] at he4
              have HK7 := Lib.hid (HKK.out p5)
              have hg7 := one_g T 4 [[111, 110]] p5
              obtain ⟨s7, p7, hP7⟩ : ∃ s7 p7, p5.one T 4 [[111, 110]] = (s7, p7) := ⟨_, _, rfl⟩
              rw [hP7] at hF HK7 hg7
              dsimp only at hF HK7 hg7
              have he7 : (strOf s7).toList.isEmpty = decide (s7 = []) := one_empty _
              clear hP7
              obtain ⟨p8, hp8⟩ : ∃ p8, (if s7 = [] then p7.fail 101 else p7) = p8 := ⟨_, rfl⟩
              rw [hp8] at hF
              have hg8 : p8.g = p.g := by
                rw [← hp8]
                split
                · rw [fail_g, hg7, hg4, HGJ.out]
                · rw [hg7, hg4, HGJ.out]
              cases ho4 : namedF T n p5.ln p8 with
              | none => rw [ho4] at hF; cases hF
              | some y4 =>
                obtain ⟨x4, p9⟩ := y4
                rw [ho4] at hF
                dsimp only at hF
                have HF5 := Lib.hid hF
                have HG5 : Hid (p9.g = p.g) := Lib.hid (by have := namedF_g n p5.ln _ _ ho4; rw [show p9.g = _ from this, hg8])
                have HX4 := Lib.hid (fun w' (h' : Cx w0 T R q w' p8) => HNA.out w' p8 _ p5.ln h' hg8 ho4)
                clear hF h4 hg4 hg7 hg8 ho4 HSS HKK HOO HNA
                by_cases h7 : s7 = []
                · rw [if_pos h7] at hp8
                  rw [decide_eq_true h7] at he7
                  have HFA := Lib.hid (HFF.out p7)
                  rw [hp8] at HFA
                  clear h7 hp8 HFF
                  go_upto_region 9 with (first
                    | (go_at_call 86
                       refine HO4.out.mono ?_
                       rintro e w5 ⟨rfl, rfl⟩)
                    | (go_at_call 121
                       refine HS4.out.mono ?_
                       rintro e w5 ⟨rfl, h5, hk5⟩
                       have HH5 := Lib.hid h5
                       have HK5 := Lib.hid (HKj.out.trans hk5)
                       have HS5 := Lib.hid (HS.out.kp hk5 hq hqa hqb)
                       obtain ⟨⟨-, -, -, -, c4', -⟩, -⟩ := box11 h5.hp
                       have hlt5 := h5.lt
                       clear h5 hk5)
                    | (go_at_call 87
                       refine (HK7.out _ HH5.out).mono ?_
                       rintro e w7 ⟨rfl, h5, hk5⟩
                       have HH7 := Lib.hid h5
                       have HKx := Lib.hid (HK5.out.trans hk5)
                       have HS7 := Lib.hid (HS5.out.kp hk5 hq hqa hqb)
                       clear h5 hk5)
                    | (go_at_call 90
                       refine (HFA.out _ HH7.out).mono ?_
                       rintro e w8 ⟨rfl, h5, hk5⟩
                       have HH8 := Lib.hid h5
                       have HK8 := Lib.hid (HKx.out.trans hk5)
                       have HS8 := Lib.hid (HS7.out.kp hk5 hq hqa hqb)
                       clear h5 hk5)
                    | (fail))
                  clear HS4 HO4 HK7 HS5 HH5 HK5 HS7 HH7 HKx HS HCj HKj
                  obtain ⟨⟨d0, d1, d2, d3⟩, -⟩ := box4f HS8.out.e
                  have hlt8 := HH8.out.lt
                  have hz8 := lt_heap HS8.out.e
                  have hsz8 : w.heap.size ≤ w8.heap.size := HK8.out.size
                  have HZ8 := Lib.hid (And.intro (lt_heap HS8.out.e) (lt_heap HS8.out.z))
                  go_region_law (first
                    | (go_simp
                       go_at_call 88
                       refine (HX4.out _ HH8.out.drew).mono ?_
                       rintro e w10 ⟨v10, rfl, hx10, h10, hk10⟩
                       have hk10' : Kp q w8 w10 := ((Kp.refl q w8).drew).trans hk10
                       obtain ⟨s6, l6, b6, ln6⟩ := x4
                       obtain ⟨y1, y2, rfl, -, -, hy1, hy2⟩ := (hd_rd s6 l6 6 (b6.map Sm.nd) ln6 v10).1 hx10
                       obtain ⟨A1, n1, c1, rfl⟩ := hy1.row_form
                       obtain ⟨A2, n2, c2, rfl⟩ := hy2.row_form
                       have HX10 := Lib.hid hx10
                       have HC10 := Lib.hid h10
                       have HK10 := Lib.hid (HK8.out.trans hk10')
                       have HS10 := Lib.hid (HS8.out.kp hk10' hq hqa hqb)
                       have HZ10 := Lib.hid hk10'.size
                       obtain ⟨⟨i0, i1, i2, i3⟩, f0, f1, f2, f3⟩ := box4f HS10.out.e
                       have hz10 := lt_heap HS10.out.e
                       clear h10 hk10 hk10' hx10 hy1 hy2)
                    | (obtain ⟨xs, ho5, hf5⟩ := ((HS10.out.kp ((Kp.refl q w10).alloc (.cells #[.string (strOf s6), .slice A1 n1 c1, .slice A2 n2 c2, .int .i64 ln6] 55)) hq hqa hqb).row)
                       refine step_bd rfl (.tmp 39) (.tmp 43) rfl (by simp [Act.eval]) ho5 (A := some ⟨w10.heap.size, 0, none⟩) (m := 1) (c := 1) (news := [.string (strOf s6), .slice A1 n1 c1, .slice A2 n2 c2, .int .i64 ln6]) (by simp [Act.eval]) (At.made w10 #[.string (strOf s6), .slice A1 n1 c1, .slice A2 n2 c2, .int .i64 ln6] 55) rfl (by intro u hu; simp at hu; rcases hu with rfl | rfl | rfl | rfl <;> rfl) (by omega) (by have := HZ10.out; have := HZ8.out; simp; omega) ?_
                       intro v' w11 ho11 hg11 hor11
                       have hown := HS10.out.row.own
                       have hz8' := HZ8.out
                       have hz10' := HZ10.out
                       have hx5 : Rd (w10.alloc (.cells #[.string (strOf s6), .slice A1 n1 c1, .slice A2 n2 c2, .int .i64 ln6] 55)) (fun b => Nw w (w10.alloc (.cells #[.string (strOf s6), .slice A1 n1 c1, .slice A2 n2 c2, .int .i64 ln6] 55)) b ∧ ¬ (Dq q w.heap.size (w.heap.size + 1) b ∨ some b = (Value.slice Av L.length cv).ownBlock)) (Bd.nd ⟨s6, l6, b6, ln6⟩) (.agg #[.string (strOf s6), .slice A1 n1 c1, .slice A2 n2 c2, .int .i64 ln6]) := by
                         refine Rd.keep (fun p hp => ((Below.refl _ w10).alloc (Nat.le_refl _) _).cell hp.2) (fun b hb => ?_) _ _ HX10.out
                         have h1 := hb.1
                         have h2 := hb.2
                         simp at h1
                         refine ⟨⟨by omega, by simp; omega⟩, ?_⟩
                         rintro ((hd | hd | hd) | hd)
                         · omega
                         · omega
                         · omega
                         · have h8 := HS8.out.row.own b hd.symm
                           omega
                       have hap := RlAt.app (x := Bd.nd ⟨s6, l6, b6, ln6⟩) (HS10.out.kp ((Kp.refl q w10).alloc (.cells #[.string (strOf s6), .slice A1 n1 c1, .slice A2 n2 c2, .int .i64 ln6] 55)) hq hqa hqb) hne (by omega) (by omega) (by omega) ho5 hf5 hx5 rfl ho11 hg11 hor11
                       have hcg := Cx.grown H0.out (HC10.out.alloc _) (HK10.out.alloc _) hg11 (fun g' e0 => by
                         have := (hown g' e0).1
                         omega)
                       have hlt11 : w.heap.size + 1 < w11.heap.size := by have := hg11.size; simp at this; omega
                       have e11 : w11.heap[w.heap.size + 1]? = some (.cells #[.string (strOf s1), .slice A4 n4 c4, .slice Av L.length cv, .int .i64 (ln : Int)] 87 (0, 0)) := (hg11.block _ (by simp; omega) (fun e => by have := (hown _ e.symm).1; omega)).trans (heap_old HS10.out.e _)
                       have hrow11 := RowE.snoc (D := Dq q w.heap.size (w.heap.size + 1)) ho5 hf5 hx5 rfl ho11 hg11 hor11
                       obtain ⟨A', c', rfl, -, -⟩ := hrow11.form
                       obtain ⟨⟨j0, j1, j2, j3⟩, k0, k1, k2, k3⟩ := box4f e11
                       have HAP := Lib.hid hap
                       have hcs := Cx.one H0.out hcg.1 hcg.2 (g3 := w.heap.size + 1) (by omega) 2 (.slice A' (L ++ [Bd.nd ⟨s6, l6, b6, ln6⟩]).length c')
                       have HCS := Lib.hid hcs.1
                       have HKS := Lib.hid hcs.2
                       obtain ⟨nL, hnL⟩ : ∃ k, (L ++ [Bd.nd ⟨s6, l6, b6, ln6⟩]).length = k := ⟨_, rfl⟩
                       rw [hnL] at HAP HCS HKS ⊢
                       clear hcg hcs ho5 hf5 ho11 hg11 hor11 hx5 hap hown hz8' hz10' e11 hrow11 hnL)
                    | (fail))
                  all_goals
                    go_wp2_with fail
                    go_roundg g
                    case measure => omega
                    case rel => exact ⟨bl ++ [_], L ++ [_], p9, _, Lib.hid ⟨HF5.out, by rw [List.map_append, HLL.out]; rfl⟩, by simp; omega, HG5, HAP, HCS, HKS⟩
                · rw [if_neg h7] at hp8
                  rw [decide_eq_false h7] at he7
                  subst hp8
                  clear h7 HFF
                  go_upto_region 9 with (first
                    | (go_at_call 86
                       refine HO4.out.mono ?_
                       rintro e w5 ⟨rfl, rfl⟩)
                    | (go_at_call 121
                       refine HS4.out.mono ?_
                       rintro e w5 ⟨rfl, h5, hk5⟩
                       have HH5 := Lib.hid h5
                       have HK5 := Lib.hid (HKj.out.trans hk5)
                       have HS5 := Lib.hid (HS.out.kp hk5 hq hqa hqb)
                       obtain ⟨⟨-, -, -, -, c4', -⟩, -⟩ := box11 h5.hp
                       have hlt5 := h5.lt
                       clear h5 hk5)
                    | (go_at_call 87
                       refine (HK7.out _ HH5.out).mono ?_
                       rintro e w7 ⟨rfl, h5, hk5⟩
                       have HH7 := Lib.hid h5
                       have HKx := Lib.hid (HK5.out.trans hk5)
                       have HS7 := Lib.hid (HS5.out.kp hk5 hq hqa hqb)
                       clear h5 hk5)
                    | (fail))
                  have HH8 := HH7
                  have HK8 := HKx
                  have HS8 := HS7
                  obtain ⟨w8, hw8⟩ : ∃ w8, w7 = w8 := ⟨_, rfl⟩
                  rw [hw8] at HH8 HK8 HS8 ⊢
                  clear HS4 HO4 HK7 HS5 HH5 HK5 HS7 HH7 HKx HS HCj HKj
                  obtain ⟨⟨d0, d1, d2, d3⟩, -⟩ := box4f HS8.out.e
                  have hlt8 := HH8.out.lt
                  have hz8 := lt_heap HS8.out.e
                  have hsz8 : w.heap.size ≤ w8.heap.size := HK8.out.size
                  have HZ8 := Lib.hid (And.intro (lt_heap HS8.out.e) (lt_heap HS8.out.z))
                  go_region_law (first
                    | (go_simp
                       go_at_call 88
                       refine (HX4.out _ HH8.out.drew).mono ?_
                       rintro e w10 ⟨v10, rfl, hx10, h10, hk10⟩
                       have hk10' : Kp q w8 w10 := ((Kp.refl q w8).drew).trans hk10
                       obtain ⟨s6, l6, b6, ln6⟩ := x4
                       obtain ⟨y1, y2, rfl, -, -, hy1, hy2⟩ := (hd_rd s6 l6 6 (b6.map Sm.nd) ln6 v10).1 hx10
                       obtain ⟨A1, n1, c1, rfl⟩ := hy1.row_form
                       obtain ⟨A2, n2, c2, rfl⟩ := hy2.row_form
                       have HX10 := Lib.hid hx10
                       have HC10 := Lib.hid h10
                       have HK10 := Lib.hid (HK8.out.trans hk10')
                       have HS10 := Lib.hid (HS8.out.kp hk10' hq hqa hqb)
                       have HZ10 := Lib.hid hk10'.size
                       obtain ⟨⟨i0, i1, i2, i3⟩, f0, f1, f2, f3⟩ := box4f HS10.out.e
                       have hz10 := lt_heap HS10.out.e
                       clear h10 hk10 hk10' hx10 hy1 hy2)
                    | (obtain ⟨xs, ho5, hf5⟩ := ((HS10.out.kp ((Kp.refl q w10).alloc (.cells #[.string (strOf s6), .slice A1 n1 c1, .slice A2 n2 c2, .int .i64 ln6] 55)) hq hqa hqb).row)
                       refine step_bd rfl (.tmp 39) (.tmp 43) rfl (by simp [Act.eval]) ho5 (A := some ⟨w10.heap.size, 0, none⟩) (m := 1) (c := 1) (news := [.string (strOf s6), .slice A1 n1 c1, .slice A2 n2 c2, .int .i64 ln6]) (by simp [Act.eval]) (At.made w10 #[.string (strOf s6), .slice A1 n1 c1, .slice A2 n2 c2, .int .i64 ln6] 55) rfl (by intro u hu; simp at hu; rcases hu with rfl | rfl | rfl | rfl <;> rfl) (by omega) (by have := HZ10.out; have := HZ8.out; simp; omega) ?_
                       intro v' w11 ho11 hg11 hor11
                       have hown := HS10.out.row.own
                       have hz8' := HZ8.out
                       have hz10' := HZ10.out
                       have hx5 : Rd (w10.alloc (.cells #[.string (strOf s6), .slice A1 n1 c1, .slice A2 n2 c2, .int .i64 ln6] 55)) (fun b => Nw w (w10.alloc (.cells #[.string (strOf s6), .slice A1 n1 c1, .slice A2 n2 c2, .int .i64 ln6] 55)) b ∧ ¬ (Dq q w.heap.size (w.heap.size + 1) b ∨ some b = (Value.slice Av L.length cv).ownBlock)) (Bd.nd ⟨s6, l6, b6, ln6⟩) (.agg #[.string (strOf s6), .slice A1 n1 c1, .slice A2 n2 c2, .int .i64 ln6]) := by
                         refine Rd.keep (fun p hp => ((Below.refl _ w10).alloc (Nat.le_refl _) _).cell hp.2) (fun b hb => ?_) _ _ HX10.out
                         have h1 := hb.1
                         have h2 := hb.2
                         simp at h1
                         refine ⟨⟨by omega, by simp; omega⟩, ?_⟩
                         rintro ((hd | hd | hd) | hd)
                         · omega
                         · omega
                         · omega
                         · have h8 := HS8.out.row.own b hd.symm
                           omega
                       have hap := RlAt.app (x := Bd.nd ⟨s6, l6, b6, ln6⟩) (HS10.out.kp ((Kp.refl q w10).alloc (.cells #[.string (strOf s6), .slice A1 n1 c1, .slice A2 n2 c2, .int .i64 ln6] 55)) hq hqa hqb) hne (by omega) (by omega) (by omega) ho5 hf5 hx5 rfl ho11 hg11 hor11
                       have hcg := Cx.grown H0.out (HC10.out.alloc _) (HK10.out.alloc _) hg11 (fun g' e0 => by
                         have := (hown g' e0).1
                         omega)
                       have hlt11 : w.heap.size + 1 < w11.heap.size := by have := hg11.size; simp at this; omega
                       have e11 : w11.heap[w.heap.size + 1]? = some (.cells #[.string (strOf s1), .slice A4 n4 c4, .slice Av L.length cv, .int .i64 (ln : Int)] 87 (0, 0)) := (hg11.block _ (by simp; omega) (fun e => by have := (hown _ e.symm).1; omega)).trans (heap_old HS10.out.e _)
                       have hrow11 := RowE.snoc (D := Dq q w.heap.size (w.heap.size + 1)) ho5 hf5 hx5 rfl ho11 hg11 hor11
                       obtain ⟨A', c', rfl, -, -⟩ := hrow11.form
                       obtain ⟨⟨j0, j1, j2, j3⟩, k0, k1, k2, k3⟩ := box4f e11
                       have HAP := Lib.hid hap
                       have hcs := Cx.one H0.out hcg.1 hcg.2 (g3 := w.heap.size + 1) (by omega) 2 (.slice A' (L ++ [Bd.nd ⟨s6, l6, b6, ln6⟩]).length c')
                       have HCS := Lib.hid hcs.1
                       have HKS := Lib.hid hcs.2
                       obtain ⟨nL, hnL⟩ : ∃ k, (L ++ [Bd.nd ⟨s6, l6, b6, ln6⟩]).length = k := ⟨_, rfl⟩
                       rw [hnL] at HAP HCS HKS ⊢
                       clear hcg hcs ho5 hf5 ho11 hg11 hor11 hx5 hap hown hz8' hz10' e11 hrow11 hnL)
                    | (fail))
                  all_goals
                    go_wp2_with fail
                    go_roundg g
                    case measure => omega
                    case rel => exact ⟨bl ++ [_], L ++ [_], p9, _, Lib.hid ⟨HF5.out, by rw [List.map_append, HLL.out]; rfl⟩, by simp; omega, HG5, HAP, HCS, HKS⟩
            · rw [if_pos h4] at hF
              rw [decide_eq_false h4] at he4
              cases hF
              clear h4 HNA hg4 HKK HFF HOO HSS
              go_wp2_with (first
                | (go_at_call 86
                   refine HO4.out.mono ?_
                   rintro e w5 ⟨rfl, rfl⟩)
                | (go_at_call 121
                   refine HS4.out.mono ?_
                   rintro e w5 ⟨rfl, h5, hk5⟩
                   have HH5 := Lib.hid h5
                   have HK5 := Lib.hid (HKj.out.trans hk5)
                   have HS5 := Lib.hid (HS.out.kp hk5 hq hqa hqb)
                   obtain ⟨⟨d0, d1, d2, d3⟩, -⟩ := box4f HS5.out.e
                   obtain ⟨⟨i0, i1, i2, i3⟩, f0, f1, f2, f3⟩ := box4f HS5.out.z
                   have hz5 := lt_heap HS5.out.z
                   clear h5 hk5)
                | (fail))
              obtain ⟨⟨e0, e1, e2, e3⟩, -⟩ := box4f (set4 HS5.out.z (.string (strOf s1)) (.slice A4 n4 c4) (.slice Av L.length cv) (.int .i64 (ln : Int)))
              refine bodyPost_ret (v := .agg #[.string (strOf s1), .slice A4 n4 c4, .slice Av L.length cv, .int .i64 (ln : Int)]) (by simp [results, Tryz.results89, go_sem, e0, e1, e2, e3]) rfl ?_
              have hpx : Px w w5 (Dq q w.heap.size (w.heap.size + 1)) (.row 4 (bs.map Bd.nd)) (.slice Av L.length cv) := by
                rw [HLL.out]
                exact HS5.out.row.px (by omega) (fun g h1 _ hd => by rcases hd with hd | hd | hd <;> omega)
              have hpp : Px w w5 (Dq q w.heap.size (w.heap.size + 1)) (.row 1 (l.map nmNd)) (.slice A4 n4 c4) := Rd.keep (fun _ _ => rfl) (fun b hb => ⟨hb.1, fun hd => hb.2 (.inl hd)⟩) _ _ HS5.out.pp
              exact endX (S := fun b => Nw w w5 b ∧ ¬ Dq q w.heap.size (w.heap.size + 1) b) H0.out HH5.out HK5.out (Nat.le_refl _) ((hd_rd s1 l 4 (bs.map Bd.nd) (ln : Int) _).2 ⟨_, _, rfl, HS5.out.ok.1, by have := HS5.out.ok.2; omega, hpp, hpx⟩) (fun b hb => ⟨fun e => hb.2 (.inr (.inl e)), hb.1⟩)
          · rw [if_pos her] at hF
            rw [decide_eq_false her] at HO4
            cases hF
            clear her HNA hg4 HS4 he4 HKK HFF HOO HSS
            have HS5 := Lib.hid HS.out
            obtain ⟨⟨d0, d1, d2, d3⟩, -⟩ := box4f HS5.out.e
            obtain ⟨⟨i0, i1, i2, i3⟩, f0, f1, f2, f3⟩ := box4f HS5.out.z
            have hz5 := lt_heap HS5.out.z
            go_wp2_with (first
              | (go_at_call 86
                 refine HO4.out.mono ?_
                 rintro e w5 ⟨rfl, rfl⟩)
              | (fail))
            obtain ⟨⟨e0, e1, e2, e3⟩, -⟩ := box4f (set4 HS5.out.z (.string (strOf s1)) (.slice A4 n4 c4) (.slice Av L.length cv) (.int .i64 (ln : Int)))
            refine bodyPost_ret (v := .agg #[.string (strOf s1), .slice A4 n4 c4, .slice Av L.length cv, .int .i64 (ln : Int)]) (by simp [results, Tryz.results89, go_sem, e0, e1, e2, e3]) rfl ?_
            have hpx : Px w w5 (Dq q w.heap.size (w.heap.size + 1)) (.row 4 (bs.map Bd.nd)) (.slice Av L.length cv) := by
              rw [HLL.out]
              exact HS5.out.row.px (by omega) (fun g h1 _ hd => by rcases hd with hd | hd | hd <;> omega)
            have hpp : Px w w5 (Dq q w.heap.size (w.heap.size + 1)) (.row 1 (l.map nmNd)) (.slice A4 n4 c4) := Rd.keep (fun _ _ => rfl) (fun b hb => ⟨hb.1, fun hd => hb.2 (.inl hd)⟩) _ _ HS5.out.pp
            exact endX (S := fun b => Nw w w5 b ∧ ¬ Dq q w.heap.size (w.heap.size + 1) b) H0.out HCj.out HKj.out (Nat.le_refl _) ((hd_rd s1 l 4 (bs.map Bd.nd) (ln : Int) _).2 ⟨_, _, rfl, HS5.out.ok.1, by have := HS5.out.ok.2; omega, hpp, hpx⟩) (fun b hb => ⟨fun e => hb.2 (.inr (.inl e)), hb.1⟩)
end
end Go.Proofs.YtpakjjefbholdaaGreatDoor
