/- Package tree: program: the walk. -/
import Derived.Test.YtpakjjefbholdaaGreatDoorTs
namespace Go.Proofs.YtpakjjefbholdaaGreatDoor
open Go.RowKit
set_option linter.unusedVariables false

theorem RowE.ne {w X : World} {B B' : Nat} {E E' : TypeId} {sz sz' : Nat} {v v' : Value} {l l' : List Nd} {D D' : Nat → Prop} (h : RowE w X B E sz v l D) (h' : RowE w X B' E' sz' v' l' D') (hE : E ≠ E') : ∀ g, v.ownBlock = some g → v'.ownBlock ≠ some g := by
  obtain ⟨xs, h1, -⟩ := h
  obtain ⟨xs', h2, -⟩ := h'
  intro g e e'
  rcases h1.2 with ⟨rfl, -⟩ | ⟨g1, c1, cur1, rfl, -, hh1, -⟩
  · cases e
  · rcases h2.2 with ⟨rfl, -⟩ | ⟨g2, c2, cur2, rfl, -, hh2, -⟩
    · cases e'
    · have i1 : g1 = g := Option.some.inj e
      have i2 : g2 = g := Option.some.inj e'
      rw [i1] at hh1
      rw [i2, hh1] at hh2
      have := Option.some.inj hh2
      injection this with _ h3 _
      exact hE h3
section
variable {w0 : World} {T : List Nat} {R : Ru} {q : Nat}
/-- A variable that holds a program that is being read. -/
structure PgAt (q : Nat) (w X : World) (g0 g3 : Nat) (vF vR : Value) (LF LR : List Nd) : Prop where
  e : X.heap[g3]? = some (.cells #[vF, vR] 26 (0, 0))
  z : X.heap[g0]? = some (.cells #[.slice none 0 0, .slice none 0 0] 26 (0, 0))
  rf : RowE w X (w.heap.size + 2) 55 4 vF LF (fun b => Dq q g0 g3 b ∨ some b = vR.ownBlock)
  rr : RowE w X (w.heap.size + 2) 87 4 vR LR (fun b => Dq q g0 g3 b ∨ some b = vF.ownBlock)
section
variable {w X Y : World} {g0 g3 : Nat} {vF vR v' : Value} {LF LR : List Nd}
theorem PgAt.kp (h : PgAt q w X g0 g3 vF vR LF LR) (hk : Kp q X Y) (hq : q < w.heap.size) (h0 : g0 ≠ q) (h3 : g3 ≠ q) : PgAt q w Y g0 g3 vF vR LF LR :=
  ⟨hk.heap h.e h3, hk.heap h.z h0, h.rf.keep hk (fun g e => .inl (.inl (Option.some.inj e).symm)) (fun g e e2 => by have := (h.rf.own g e2).1; have := Option.some.inj e; omega) (fun _ _ h => h),
   h.rr.keep hk (fun g e => .inl (.inl (Option.some.inj e).symm)) (fun g e e2 => by have := (h.rr.own g e2).1; have := Option.some.inj e; omega) (fun _ _ h => h)⟩
theorem PgAt.set (h : PgAt q w X g0 g3 vF vR LF LR) (i : Nat) (u : Value) : X.grownBy (X.setCell ⟨g3, i, none⟩ u) (some g3) := (Kp.refl g3 X).set rfl _
/-- One more. -/
theorem PgAt.appF {xs news : List Value} {x : Nd} (h : PgAt q w X g0 g3 vF vR LF LR) (hn : g0 ≠ g3) (hg0 : g0 < w.heap.size + 2) (hg3 : g3 < w.heap.size + 2) (h1 : X.ownsRow (w.heap.size + 2) 55 4 vF LF.length xs) (h2 : Flat X (fun b => Nw w X b ∧ ¬ ((Dq q g0 g3 b ∨ some b = vR.ownBlock) ∨ some b = vF.ownBlock)) 4 xs LF)
    (hx : Rd X (fun b => Nw w X b ∧ ¬ ((Dq q g0 g3 b ∨ some b = vR.ownBlock) ∨ some b = vF.ownBlock)) x (.agg news.toArray)) (hl : news.length = 4) (ho : Y.ownsRow (w.heap.size + 2) 55 4 v' (LF.length + 1) (xs ++ news)) (hg : X.grownBy Y vF.ownBlock) (hor : v'.ownBlock = vF.ownBlock ∨ v'.ownBlock = some X.heap.size) :
    PgAt q w (Y.setCell ⟨g3, 0, none⟩ v') g0 g3 v' vR (LF ++ [x]) (LR) := by
  have hr := RowE.snoc (D := fun b => Dq q g0 g3 b ∨ some b = vR.ownBlock) h1 h2 hx hl ho hg hor
  have hown : ∀ g, vF.ownBlock = some g → w.heap.size + 2 ≤ g ∧ g < X.heap.size := h.rf.own
  have hne : ∀ g, vF.ownBlock = some g → vR.ownBlock ≠ some g := RowE.ne h.rf h.rr (by decide)
  have e3 := (hg.block g3 (lt_heap h.e) (fun e => by have := (hown g3 e.symm).1; omega)).trans h.e
  have e0 := (hg.block g0 (lt_heap h.z) (fun e => by have := (hown g0 e.symm).1; omega)).trans h.z
  have hset : Y.grownBy (Y.setCell ⟨g3, 0, none⟩ v') (some g3) := (Kp.refl g3 Y).set rfl _
  have hr2 := hr.keep hset (fun g e => .inl (.inr (.inr (Option.some.inj e).symm))) (fun g e e2 => by have := (hr.own g e2).1; have := Option.some.inj e; omega) (fun _ _ h => h)
  have ho1 := h.rr.keep (D' := fun b => Dq q g0 g3 b ∨ some b = v'.ownBlock) hg (fun g e => .inr e.symm) (fun g e => hne g e) (fun b hb hd => by
    rcases hd with hd | hd
    · exact .inl hd
    · rcases hor with e | e
      · rw [e] at hd; exact .inr hd
      · rw [e] at hd
        have := Option.some.inj hd
        omega)
  have ho2 := ho1.keep hset (fun g e => .inl (.inr (.inr (Option.some.inj e).symm))) (fun g e e2 => by have := (ho1.own g e2).1; have := Option.some.inj e; omega) (fun _ _ h => h)
  exact ⟨by simpa using heap_set e3 0 v', heap_set_ne e0 hn _ _, hr2, ho2⟩
/-- One more. -/
theorem PgAt.appR {xs news : List Value} {x : Nd} (h : PgAt q w X g0 g3 vF vR LF LR) (hn : g0 ≠ g3) (hg0 : g0 < w.heap.size + 2) (hg3 : g3 < w.heap.size + 2) (h1 : X.ownsRow (w.heap.size + 2) 87 4 vR LR.length xs) (h2 : Flat X (fun b => Nw w X b ∧ ¬ ((Dq q g0 g3 b ∨ some b = vF.ownBlock) ∨ some b = vR.ownBlock)) 4 xs LR)
    (hx : Rd X (fun b => Nw w X b ∧ ¬ ((Dq q g0 g3 b ∨ some b = vF.ownBlock) ∨ some b = vR.ownBlock)) x (.agg news.toArray)) (hl : news.length = 4) (ho : Y.ownsRow (w.heap.size + 2) 87 4 v' (LR.length + 1) (xs ++ news)) (hg : X.grownBy Y vR.ownBlock) (hor : v'.ownBlock = vR.ownBlock ∨ v'.ownBlock = some X.heap.size) :
    PgAt q w (Y.setCell ⟨g3, 1, none⟩ v') g0 g3 vF v' (LF) (LR ++ [x]) := by
  have hr := RowE.snoc (D := fun b => Dq q g0 g3 b ∨ some b = vF.ownBlock) h1 h2 hx hl ho hg hor
  have hown : ∀ g, vR.ownBlock = some g → w.heap.size + 2 ≤ g ∧ g < X.heap.size := h.rr.own
  have hne : ∀ g, vR.ownBlock = some g → vF.ownBlock ≠ some g := RowE.ne h.rr h.rf (by decide)
  have e3 := (hg.block g3 (lt_heap h.e) (fun e => by have := (hown g3 e.symm).1; omega)).trans h.e
  have e0 := (hg.block g0 (lt_heap h.z) (fun e => by have := (hown g0 e.symm).1; omega)).trans h.z
  have hset : Y.grownBy (Y.setCell ⟨g3, 1, none⟩ v') (some g3) := (Kp.refl g3 Y).set rfl _
  have hr2 := hr.keep hset (fun g e => .inl (.inr (.inr (Option.some.inj e).symm))) (fun g e e2 => by have := (hr.own g e2).1; have := Option.some.inj e; omega) (fun _ _ h => h)
  have ho1 := h.rf.keep (D' := fun b => Dq q g0 g3 b ∨ some b = v'.ownBlock) hg (fun g e => .inr e.symm) (fun g e => hne g e) (fun b hb hd => by
    rcases hd with hd | hd
    · exact .inl hd
    · rcases hor with e | e
      · rw [e] at hd; exact .inr hd
      · rw [e] at hd
        have := Option.some.inj hd
        omega)
  have ho2 := ho1.keep hset (fun g e => .inl (.inr (.inr (Option.some.inj e).symm))) (fun g e e2 => by have := (ho1.own g e2).1; have := Option.some.inj e; omega) (fun _ _ h => h)
  exact ⟨by simpa using heap_set e3 1 v', heap_set_ne e0 hn _ _, ho2, hr2⟩
end
theorem roleF_g (n ln : Nat) : Gk (roleF T n ln) := by
  have ho : ∀ (m : Nat) (l : List Bd), Gk (onsF T n m l) := by
    intro m
    induction m with
    | zero => intro l p r hr; simp [onsF] at hr
    | succ m ih =>
      intro l p r hr
      rw [onsF] at hr
      split at hr
      · cases hr; rfl
      · split at hr
        · cases hr; exact one_g _ _ _ _
        · split at hr
          · cases hr
          · rename_i x u hx
            rw [ih _ _ _ hr, show u.g = _ from namedF_g n _ _ _ hx]
            split
            · rw [fail_g, one_g, one_g]
            · rw [one_g, one_g]
  intro p r hr
  unfold roleF at hr
  split at hr
  · cases hr
  · rename_i l u hl
    split at hr
    · cases hr
    · rename_i b u2 hb
      cases hr
      show u2.g = _
      rw [show u2.g = _ from ho n _ _ _ hb, must_g, show u.g = _ from listF_g (one := nameP T) (fun p r hr => by cases hr; exact name_g T p) n _ _ hl, name_g]
def P2 (X : World) (g : Nat) (z0 z1 : Value) : World := (X.setCell ⟨g, 0, none⟩ z0).setCell ⟨g, 1, none⟩ z1
set_option maxRecDepth 100000 in
set_option maxHeartbeats 8000000 in
theorem program_any (ht : TxtOk w0 T) (n : Nat) (hn : n ≤ 100000) (w : World) (p : Pst) (r : Pg × Pst) (h : Cx w0 T R q w p) (hg : p.g + (n * n + n) ≤ mostG) (hr : progF T n n ⟨[], []⟩ p = some r) :
    Calls Tryz.prog 41 #[at0 q] w (OutX w0 T R q w r.1.nd r.2) := by
  have HNA := Lib.hid (fun w' p' (rr : Bd × Pst) (ln' : Nat) (h' : Cx w0 T R q w' p') (hg' : p'.g = p.g) (hr' : namedF T n ln' p' = some rr) => named_any (R := R) (q := q) ht n hn w' p' rr ln' h' (by omega) hr')
  have HRA := Lib.hid (fun w' p' (rr : Rl × Pst) (ln' : Nat) (h' : Cx w0 T R q w' p') (hg' : p'.g = p.g) (hr' : roleF T n ln' p' = some rr) => role_any (R := R) (q := q) ht n hn w' p' rr ln' h' (by omega) hr')
  have HKK := Lib.hid (fun p' w' (h' : Cx w0 T R q w' p') => key_made ht h' [kFn, kAc] #[.string ⟨#[102, 117, 110, 99]⟩, .string ⟨#[97, 99, 116, 111, 114]⟩] 9 2 2 rfl rfl (by decide) (by decide))
  have HFF := Lib.hid (fun p' w' (h' : Cx w0 T R q w' p') => fail_any h' 101)
  have HOO := Lib.hid (fun p' w' (h' : Cx w0 T R q w' p') => ok_at h')
  have HSK := Lib.hid (fun p' w' (h' : Cx w0 T R q w' p') => (one_sok ht 4 [kFn, kAc] h'.ok).1)
  have H0 := Lib.hid h
  have hq := h.lt
  have hqa : ¬ w.heap.size = q := by omega
  have hqb : ¬ w.heap.size + 1 = q := by omega
  have hne : w.heap.size ≠ w.heap.size + 1 := by omega
  have HR := Lib.hid hr
  have hS2 : PgAt q w ((w.alloc (.cells #[.slice none 0 0, .slice none 0 0] 26)).alloc (.cells #[.slice none 0 0, .slice none 0 0] 26)) w.heap.size (w.heap.size + 1) (.slice none 0 0) (.slice none 0 0) [] [] :=
    ⟨heap_new' _ _ _ (by simp), heap_old (heap_new _ _) _, RowE.nil _ _ _ _ _ _, RowE.nil _ _ _ _ _ _⟩
  have HS2 := Lib.hid hS2
  have HC2 := Lib.hid ((h.alloc (.cells #[.slice none 0 0, .slice none 0 0] 26)).alloc (.cells #[.slice none 0 0, .slice none 0 0] 26))
  have HK2 := Lib.hid (((Kp.refl q w).alloc (.cells #[.slice none 0 0, .slice none 0 0] 26)).alloc (.cells #[.slice none 0 0, .slice none 0 0] 26))
  clear h ht hg hr hS2
  unfold at0 at *
  go_enter Tryz.func41, Tryz.ntmps41
  go_wp2_with fail
  go_loopg [] n (fun g wr => ∃ (G : Pg) (LF LR : List Nd) (pj : Pst) (vF vR : Value), Hid (progF T n g G pj = some r ∧ G.fns.map Bd.nd = LF ∧ G.roles.map Rl.nd = LR) ∧ LF.length + LR.length + g ≤ 200000 ∧ Hid (pj.g = p.g) ∧ Hid (PgAt q w wr w.heap.size (w.heap.size + 1) vF vR LF LR) ∧ Hid (Cx w0 T R q wr pj) ∧ Hid (Kp q w wr))
  case atStart => exact ⟨⟨[], []⟩, [], [], p, _, _, Lib.hid ⟨HR.out, rfl, rfl⟩, by simp; omega, Lib.hid rfl, HS2, HC2, HK2⟩
  case round =>
    obtain ⟨G, LF, LR, pj, vF, vR, HF, hlen, HGJ, HS, HCj, HKj⟩ := hrel
    obtain ⟨Af, cf, rfl, -, -⟩ := HS.out.rf.form
    obtain ⟨Ar, cr, rfl, -, -⟩ := HS.out.rr.form
    cases gk with
    | zero => exact absurd HF.out.1 (by simp [progF])
    | succ g =>
      have hF := HF.out.1
      have HLF := Lib.hid HF.out.2
      rw [progF] at hF
      have HO4 := Lib.hid (HOO.out pj wr HCj.out)
      obtain ⟨⟨-, c1, -, -, c4, -⟩, -⟩ := box11 HCj.out.hp
      have hltj := HCj.out.lt
      obtain ⟨⟨d0, d1⟩, -⟩ := bx2 HS.out.e
      obtain ⟨⟨i0, i1⟩, f0, f1⟩ := bx2 HS.out.z
      have hz0 := lt_heap HS.out.z
      clear HF HS2 HC2 HK2 HR
      by_cases hstop : pj.er ≠ 0 ∨ pj.k = 6
      · rw [if_pos hstop] at hF
        cases hF
        have hend : ∀ (u : Unit), OutX w0 T R q w (Pg.nd G) pj (.returned (.agg #[.slice Af LF.length cf, .slice Ar LR.length cr])) (P2 wr w.heap.size (.slice Af LF.length cf) (.slice Ar LR.length cr)) := fun _ => by
          have hs1 : wr.grownBy (wr.setCell ⟨w.heap.size, 0, none⟩ (.slice Af LF.length cf)) (some w.heap.size) := (Kp.refl w.heap.size wr).set rfl _
          have hs2 : (wr.setCell ⟨w.heap.size, 0, none⟩ (.slice Af LF.length cf)).grownBy (P2 wr w.heap.size (.slice Af LF.length cf) (.slice Ar LR.length cr)) (some w.heap.size) := (Kp.refl w.heap.size (wr.setCell ⟨w.heap.size, 0, none⟩ (.slice Af LF.length cf))).set rfl _
          have hf1 := HS.out.rf.keep (D' := Dq q w.heap.size (w.heap.size + 1)) hs1 (fun g e => .inl (.inr (.inl (Option.some.inj e).symm))) (fun g e e2 => by have := (HS.out.rf.own g e2).1; have := Option.some.inj e; omega) (fun _ _ h => .inl h)
          have hf2 := hf1.keep hs2 (fun g e => .inr (.inl (Option.some.inj e).symm)) (fun g e e2 => by have := (hf1.own g e2).1; have := Option.some.inj e; omega) (fun _ _ h => h)
          have hr1 := HS.out.rr.keep (D' := Dq q w.heap.size (w.heap.size + 1)) hs1 (fun g e => .inl (.inr (.inl (Option.some.inj e).symm))) (fun g e e2 => by have := (HS.out.rr.own g e2).1; have := Option.some.inj e; omega) (fun _ _ h => .inl h)
          have hr2 := hr1.keep hs2 (fun g e => .inr (.inl (Option.some.inj e).symm)) (fun g e e2 => by have := (hr1.own g e2).1; have := Option.some.inj e; omega) (fun _ _ h => h)
          have pf := hf2.px (by omega) (fun g h1 _ hd => by rcases hd with hd | hd | hd <;> omega)
          have pr := hr2.px (by omega) (fun g h1 _ hd => by rcases hd with hd | hd | hd <;> omega)
          have c1 := Cx.one H0.out HCj.out HKj.out (g3 := w.heap.size) (Nat.le_refl _) 0 (.slice Af LF.length cf)
          have c2 := Cx.one H0.out c1.1 c1.2 (g3 := w.heap.size) (Nat.le_refl _) 1 (.slice Ar LR.length cr)
          refine ⟨_, rfl, (Pg.rd G _).2 ⟨_, _, rfl, ?_, ?_⟩, c2.1, c2.2⟩
          · rw [HLF.out.1]
            exact Rd.keep (fun _ _ => rfl) (fun b hb => hb.1) _ _ pf
          · rw [HLF.out.2]
            exact Rd.keep (fun _ _ => rfl) (fun b hb => hb.1) _ _ pr
        have HE := Lib.hid (hend ())
        have HQ := Lib.hid (st2 HS.out.z (.slice Af LF.length cf) (.slice Ar LR.length cr))
        clear hend HNA HRA HKK HFF HOO HSK
        by_cases her : pj.er = 0
        · have hk6 : pj.k = 6 := by
            rcases hstop with hh | hh
            · exact absurd her hh
            · exact hh
          have t1 : ((pj.k : Int) != 6) = false := by rw [hk6]; rfl
          rw [decide_eq_true her] at HO4
          clear hstop her hk6
          go_wp2_with (first
            | (go_at_call 86
               refine HO4.out.mono ?_
               rintro e w5 ⟨rfl, rfl⟩)
            | (fail))
          obtain ⟨⟨e0, e1⟩, -⟩ := bx2 HQ.out
          refine bodyPost_ret (v := .agg #[.slice Af LF.length cf, .slice Ar LR.length cr]) (by simp [results, Tryz.results41, go_sem, e0, e1]) rfl ?_
          exact HE.out
        · rw [decide_eq_false her] at HO4
          clear hstop her
          go_wp2_with (first
            | (go_at_call 86
               refine HO4.out.mono ?_
               rintro e w5 ⟨rfl, rfl⟩)
            | (fail))
          obtain ⟨⟨e0, e1⟩, -⟩ := bx2 HQ.out
          refine bodyPost_ret (v := .agg #[.slice Af LF.length cf, .slice Ar LR.length cr]) (by simp [results, Tryz.results41, go_sem, e0, e1]) rfl ?_
          exact HE.out
      · rw [if_neg hstop] at hF
        have her : pj.er = 0 := Classical.byContradiction fun hh => hstop (.inl hh)
        have hk6 : pj.k ≠ 6 := fun hh => hstop (.inr hh)
        have t1 : ((pj.k : Int) != 6) = true := bne_iff_ne.2 (by omega)
        rw [decide_eq_true her] at HO4
        have HK7 := Lib.hid (HKK.out pj wr HCj.out)
        have hg7 := one_g T 4 [kFn, kAc] pj
        have hsk := HSK.out pj wr HCj.out
        obtain ⟨s7, p7, hP7⟩ : ∃ s7 p7, pj.one T 4 [kFn, kAc] = (s7, p7) := ⟨_, _, rfl⟩
        rw [hP7] at hF HK7 hg7 hsk
        dsimp only at hF HK7 hg7 hsk
        have q0 := key_eq' s7 kFn hsk.1 [102, 117, 110, 99] rfl (by decide)
        have q1 := key_eq' s7 kAc hsk.1 [97, 99, 116, 111, 114] rfl (by decide)
        clear hP7 hstop her hk6 hsk HSK HOO HKK i0 i1 f0 f1 hz0
        by_cases hfn : s7 = kFn
        · rw [if_pos hfn] at hF
          rw [decide_eq_true hfn] at q0
          clear hfn q1
          cases ho4 : namedF T n pj.ln p7 with
          | none => rw [ho4] at hF; cases hF
          | some y4 =>
            obtain ⟨x4, p9⟩ := y4
            rw [ho4] at hF
            dsimp only at hF
            have HF5 := Lib.hid hF
            have HG5 : Hid (p9.g = p.g) := Lib.hid (by have := namedF_g n pj.ln _ _ ho4; rw [show p9.g = _ from this, hg7, HGJ.out])
            have HX4 := Lib.hid (fun w' (h' : Cx w0 T R q w' p7) => HNA.out w' p7 _ pj.ln h' (by rw [hg7, HGJ.out]) ho4)
            clear hF hg7 ho4 HNA HRA HFF
            generalize strOf s7 = S7 at *
            go_upto_region 7 with (first
              | (go_at_call 86
                 refine HO4.out.mono ?_
                 rintro e w5 ⟨rfl, rfl⟩)
              | (go_at_call 87
                 refine HK7.out.mono ?_
                 rintro e w7 ⟨rfl, h5, hk5⟩
                 have HH8 := Lib.hid h5
                 have HK8 := Lib.hid (HKj.out.trans hk5)
                 have HS8 := Lib.hid (HS.out.kp hk5 hq hqa hqb)
                 clear h5 hk5)
              | (fail))
            clear HO4 HK7 c1 c4 d0 d1 t1
            obtain ⟨⟨d0, d1⟩, -⟩ := bx2 HS8.out.e
            have hlt8 := HH8.out.lt
            have hz8 := lt_heap HS8.out.e
            have hsz8 : w.heap.size ≤ w7.heap.size := HK8.out.size
            have HZ8 := Lib.hid (And.intro (lt_heap HS8.out.e) (lt_heap HS8.out.z))
            go_region_law (first
              | (go_simp
                 go_at_call 88
                 refine (HX4.out _ HH8.out.drew).mono ?_
                 rintro e w10 ⟨v10, rfl, hx10, h10, hk10⟩
                 have hk10' : Kp q w7 w10 := ((Kp.refl q w7).drew).trans hk10
                 obtain ⟨s6, l6, b6, ln6⟩ := x4
                 obtain ⟨y1, y2, rfl, -, -, hy1, hy2⟩ := (hd_rd s6 l6 6 (b6.map Sm.nd) ln6 v10).1 hx10
                 obtain ⟨A1, n1, c1, rfl⟩ := hy1.row_form
                 obtain ⟨A2, n2, c2, rfl⟩ := hy2.row_form
                 have HX10 := Lib.hid hx10
                 have HC10 := Lib.hid h10
                 have HK10 := Lib.hid (HK8.out.trans hk10')
                 have HS10 := Lib.hid (HS8.out.kp hk10' hq hqa hqb)
                 have HZ10 := Lib.hid hk10'.size
                 obtain ⟨⟨i0, i1⟩, f0, f1⟩ := bx2 HS10.out.e
                 have hz10 := lt_heap HS10.out.e
                 clear h10 hk10 hk10' hx10 hy1 hy2)
              | (obtain ⟨xs, ho5, hf5⟩ := ((HS10.out.kp ((Kp.refl q w10).alloc (.cells #[.string (strOf s6), .slice A1 n1 c1, .slice A2 n2 c2, .int .i64 ln6] 55)) hq hqa hqb).rf)
                 refine step_bd rfl (.tmp 28) (.tmp 32) rfl (by simp [Act.eval]) ho5 (A := some ⟨w10.heap.size, 0, none⟩) (m := 1) (c := 1) (news := [.string (strOf s6), .slice A1 n1 c1, .slice A2 n2 c2, .int .i64 ln6]) (by simp [Act.eval]) (At.made w10 #[.string (strOf s6), .slice A1 n1 c1, .slice A2 n2 c2, .int .i64 ln6] 55) rfl (by intro u hu; simp at hu; rcases hu with rfl | rfl | rfl | rfl <;> rfl) (by omega) (by have := HZ10.out; have := HZ8.out; simp; omega) ?_
                 intro v' w11 ho11 hg11 hor11
                 have hown := HS10.out.rf.own
                 have hz8' := HZ8.out
                 have hz10' := HZ10.out
                 have hx5 : Rd (w10.alloc (.cells #[.string (strOf s6), .slice A1 n1 c1, .slice A2 n2 c2, .int .i64 ln6] 55)) (fun b => Nw w (w10.alloc (.cells #[.string (strOf s6), .slice A1 n1 c1, .slice A2 n2 c2, .int .i64 ln6] 55)) b ∧ ¬ ((Dq q w.heap.size (w.heap.size + 1) b ∨ some b = (Value.slice Ar LR.length cr).ownBlock) ∨ some b = (Value.slice Af LF.length cf).ownBlock)) (Bd.nd ⟨s6, l6, b6, ln6⟩) (.agg #[.string (strOf s6), .slice A1 n1 c1, .slice A2 n2 c2, .int .i64 ln6]) := by
                   refine Rd.keep (fun p hp => ((Below.refl _ w10).alloc (Nat.le_refl _) _).cell hp.2) (fun b hb => ?_) _ _ HX10.out
                   have h1 := hb.1
                   have h2 := hb.2
                   simp at h1
                   refine ⟨⟨by omega, by simp; omega⟩, ?_⟩
                   rintro (((hd | hd | hd) | hd) | hd)
                   · omega
                   · omega
                   · omega
                   · have h8 := HS8.out.rr.own b hd.symm
                     omega
                   · have h8 := HS8.out.rf.own b hd.symm
                     omega
                 have hap := PgAt.appF (x := Bd.nd ⟨s6, l6, b6, ln6⟩) (HS10.out.kp ((Kp.refl q w10).alloc (.cells #[.string (strOf s6), .slice A1 n1 c1, .slice A2 n2 c2, .int .i64 ln6] 55)) hq hqa hqb) hne (by omega) (by omega) ho5 hf5 hx5 rfl ho11 hg11 hor11
                 have hcg := Cx.grown H0.out (HC10.out.alloc _) (HK10.out.alloc _) hg11 (fun g' e0 => by
                   have := (hown g' e0).1
                   omega)
                 have hlt11 : w.heap.size + 1 < w11.heap.size := by have := hg11.size; simp at this; omega
                 have e11 : w11.heap[w.heap.size + 1]? = some (.cells #[.slice Af LF.length cf, .slice Ar LR.length cr] 26 (0, 0)) := (hg11.block _ (by simp; omega) (fun e => by have := (hown _ e.symm).1; omega)).trans (heap_old HS10.out.e _)
                 have hrow11 := RowE.snoc (D := fun b => Dq q w.heap.size (w.heap.size + 1) b ∨ some b = (Value.slice Ar LR.length cr).ownBlock) ho5 hf5 hx5 rfl ho11 hg11 hor11
                 obtain ⟨A', c', rfl, -, -⟩ := hrow11.form
                 obtain ⟨⟨j0, j1⟩, k0, k1⟩ := bx2 e11
                 have HAP := Lib.hid hap
                 have hcs := Cx.one H0.out hcg.1 hcg.2 (g3 := w.heap.size + 1) (by omega) 0 (.slice A' (LF ++ [Bd.nd ⟨s6, l6, b6, ln6⟩]).length c')
                 have HCS := Lib.hid hcs.1
                 have HKS := Lib.hid hcs.2
                 obtain ⟨nL, hnL⟩ : ∃ k, (LF ++ [Bd.nd ⟨s6, l6, b6, ln6⟩]).length = k := ⟨_, rfl⟩
                 rw [hnL] at HAP HCS HKS ⊢
                 clear hcg hcs ho5 hf5 ho11 hg11 hor11 hx5 hap hown hz8' hz10' e11 hrow11 hnL)
              | (fail))
            all_goals
              go_wp2_with fail
              go_roundg g
              case measure => omega
              case rel => exact ⟨{ G with fns := G.fns ++ [_] }, LF ++ [_], LR, p9, _, _, Lib.hid ⟨HF5.out, by rw [List.map_append, HLF.out.1]; rfl, HLF.out.2⟩, by simp; omega, HG5, HAP, HCS, HKS⟩
        · rw [if_neg hfn] at hF
          rw [decide_eq_false hfn] at q0
          clear hfn
          by_cases hac : s7 = kAc
          · rw [if_pos hac] at hF
            rw [decide_eq_true hac] at q1
            clear hac
            cases ho4 : roleF T n pj.ln p7 with
            | none => rw [ho4] at hF; cases hF
            | some y4 =>
              obtain ⟨x4, p9⟩ := y4
              rw [ho4] at hF
              dsimp only at hF
              have HF5 := Lib.hid hF
              have HG5 : Hid (p9.g = p.g) := Lib.hid (by have := roleF_g n pj.ln _ _ ho4; rw [show p9.g = _ from this, hg7, HGJ.out])
              have HX4 := Lib.hid (fun w' (h' : Cx w0 T R q w' p7) => HRA.out w' p7 _ pj.ln h' (by rw [hg7, HGJ.out]) ho4)
              clear hF hg7 ho4 HNA HRA HFF
              generalize strOf s7 = S7 at *
              go_upto_region 9 with (first
                | (go_at_call 86
                   refine HO4.out.mono ?_
                   rintro e w5 ⟨rfl, rfl⟩)
                | (go_at_call 87
                   refine HK7.out.mono ?_
                   rintro e w7 ⟨rfl, h5, hk5⟩
                   have HH8 := Lib.hid h5
                   have HK8 := Lib.hid (HKj.out.trans hk5)
                   have HS8 := Lib.hid (HS.out.kp hk5 hq hqa hqb)
                   clear h5 hk5)
                | (fail))
              clear HO4 HK7 c1 c4 d0 d1 t1
              obtain ⟨⟨d0, d1⟩, -⟩ := bx2 HS8.out.e
              have hlt8 := HH8.out.lt
              have hz8 := lt_heap HS8.out.e
              have hsz8 : w.heap.size ≤ w7.heap.size := HK8.out.size
              have HZ8 := Lib.hid (And.intro (lt_heap HS8.out.e) (lt_heap HS8.out.z))
              go_region_law (first
                | (go_simp
                   go_at_call 89
                   refine (HX4.out _ HH8.out.drew).mono ?_
                   rintro e w10 ⟨v10, rfl, hx10, h10, hk10⟩
                   have hk10' : Kp q w7 w10 := ((Kp.refl q w7).drew).trans hk10
                   obtain ⟨s6, l6, b6, ln6⟩ := x4
                   obtain ⟨y1, y2, rfl, -, -, hy1, hy2⟩ := (hd_rd s6 l6 4 (b6.map Bd.nd) ln6 v10).1 hx10
                   obtain ⟨A1, n1, c1, rfl⟩ := hy1.row_form
                   obtain ⟨A2, n2, c2, rfl⟩ := hy2.row_form
                   have HX10 := Lib.hid hx10
                   have HC10 := Lib.hid h10
                   have HK10 := Lib.hid (HK8.out.trans hk10')
                   have HS10 := Lib.hid (HS8.out.kp hk10' hq hqa hqb)
                   have HZ10 := Lib.hid hk10'.size
                   obtain ⟨⟨i0, i1⟩, f0, f1⟩ := bx2 HS10.out.e
                   have hz10 := lt_heap HS10.out.e
                   clear h10 hk10 hk10' hx10 hy1 hy2)
                | (obtain ⟨xs, ho5, hf5⟩ := ((HS10.out.kp ((Kp.refl q w10).alloc (.cells #[.string (strOf s6), .slice A1 n1 c1, .slice A2 n2 c2, .int .i64 ln6] 87)) hq hqa hqb).rr)
                   refine step_rl rfl (.tmp 38) (.tmp 42) rfl (by simp [Act.eval]) ho5 (A := some ⟨w10.heap.size, 0, none⟩) (m := 1) (c := 1) (news := [.string (strOf s6), .slice A1 n1 c1, .slice A2 n2 c2, .int .i64 ln6]) (by simp [Act.eval]) (At.made w10 #[.string (strOf s6), .slice A1 n1 c1, .slice A2 n2 c2, .int .i64 ln6] 87) rfl (by intro u hu; simp at hu; rcases hu with rfl | rfl | rfl | rfl <;> rfl) (by omega) (by have := HZ10.out; have := HZ8.out; simp; omega) ?_
                   intro v' w11 ho11 hg11 hor11
                   have hown := HS10.out.rr.own
                   have hz8' := HZ8.out
                   have hz10' := HZ10.out
                   have hx5 : Rd (w10.alloc (.cells #[.string (strOf s6), .slice A1 n1 c1, .slice A2 n2 c2, .int .i64 ln6] 87)) (fun b => Nw w (w10.alloc (.cells #[.string (strOf s6), .slice A1 n1 c1, .slice A2 n2 c2, .int .i64 ln6] 87)) b ∧ ¬ ((Dq q w.heap.size (w.heap.size + 1) b ∨ some b = (Value.slice Af LF.length cf).ownBlock) ∨ some b = (Value.slice Ar LR.length cr).ownBlock)) (Rl.nd ⟨s6, l6, b6, ln6⟩) (.agg #[.string (strOf s6), .slice A1 n1 c1, .slice A2 n2 c2, .int .i64 ln6]) := by
                     refine Rd.keep (fun p hp => ((Below.refl _ w10).alloc (Nat.le_refl _) _).cell hp.2) (fun b hb => ?_) _ _ HX10.out
                     have h1 := hb.1
                     have h2 := hb.2
                     simp at h1
                     refine ⟨⟨by omega, by simp; omega⟩, ?_⟩
                     rintro (((hd | hd | hd) | hd) | hd)
                     · omega
                     · omega
                     · omega
                     · have h8 := HS8.out.rf.own b hd.symm
                       omega
                     · have h8 := HS8.out.rr.own b hd.symm
                       omega
                   have hap := PgAt.appR (x := Rl.nd ⟨s6, l6, b6, ln6⟩) (HS10.out.kp ((Kp.refl q w10).alloc (.cells #[.string (strOf s6), .slice A1 n1 c1, .slice A2 n2 c2, .int .i64 ln6] 87)) hq hqa hqb) hne (by omega) (by omega) ho5 hf5 hx5 rfl ho11 hg11 hor11
                   have hcg := Cx.grown H0.out (HC10.out.alloc _) (HK10.out.alloc _) hg11 (fun g' e0 => by
                     have := (hown g' e0).1
                     omega)
                   have hlt11 : w.heap.size + 1 < w11.heap.size := by have := hg11.size; simp at this; omega
                   have e11 : w11.heap[w.heap.size + 1]? = some (.cells #[.slice Af LF.length cf, .slice Ar LR.length cr] 26 (0, 0)) := (hg11.block _ (by simp; omega) (fun e => by have := (hown _ e.symm).1; omega)).trans (heap_old HS10.out.e _)
                   have hrow11 := RowE.snoc (D := fun b => Dq q w.heap.size (w.heap.size + 1) b ∨ some b = (Value.slice Af LF.length cf).ownBlock) ho5 hf5 hx5 rfl ho11 hg11 hor11
                   obtain ⟨A', c', rfl, -, -⟩ := hrow11.form
                   obtain ⟨⟨j0, j1⟩, k0, k1⟩ := bx2 e11
                   have HAP := Lib.hid hap
                   have hcs := Cx.one H0.out hcg.1 hcg.2 (g3 := w.heap.size + 1) (by omega) 1 (.slice A' (LR ++ [Rl.nd ⟨s6, l6, b6, ln6⟩]).length c')
                   have HCS := Lib.hid hcs.1
                   have HKS := Lib.hid hcs.2
                   obtain ⟨nL, hnL⟩ : ∃ k, (LR ++ [Rl.nd ⟨s6, l6, b6, ln6⟩]).length = k := ⟨_, rfl⟩
                   rw [hnL] at HAP HCS HKS ⊢
                   clear hcg hcs ho5 hf5 ho11 hg11 hor11 hx5 hap hown hz8' hz10' e11 hrow11 hnL)
                | (fail))
              all_goals
                go_wp2_with fail
                go_roundg g
                case measure => omega
                case rel => exact ⟨{ G with roles := G.roles ++ [_] }, LF, LR ++ [_], p9, _, _, Lib.hid ⟨HF5.out, HLF.out.1, by rw [List.map_append, HLF.out.2]; rfl⟩, by simp; omega, HG5, HAP, HCS, HKS⟩
          · rw [if_neg hac] at hF
            rw [decide_eq_false hac] at q1
            clear hac
            have HF5 := Lib.hid hF
            have HG5 : Hid ((p7.fail 101).g = p.g) := Lib.hid (by rw [fail_g, hg7, HGJ.out])
            have HFA := Lib.hid (HFF.out p7)
            clear hF hg7 HNA HRA
            generalize strOf s7 = S7 at *
            go_wp2_with (first
              | (go_at_call 86
                 refine HO4.out.mono ?_
                 rintro e w5 ⟨rfl, rfl⟩)
              | (go_at_call 87
                 refine HK7.out.mono ?_
                 rintro e w7 ⟨rfl, h5, hk5⟩
                 have HH7 := Lib.hid h5
                 have HKx := Lib.hid (HKj.out.trans hk5)
                 have HS7 := Lib.hid (HS.out.kp hk5 hq hqa hqb)
                 clear h5 hk5)
              | (go_at_call 90
                 refine (HFA.out _ HH7.out).mono ?_
                 rintro e w8 ⟨rfl, h5, hk5⟩
                 have HH8 := Lib.hid h5
                 have HK8 := Lib.hid (HKx.out.trans hk5)
                 have HS8 := Lib.hid (HS7.out.kp hk5 hq hqa hqb)
                 clear h5 hk5)
              | (fail))
            go_roundg g
            case measure => omega
            case rel => exact ⟨G, LF, LR, _, _, _, Lib.hid ⟨HF5.out, HLF.out⟩, by omega, HG5, HS8, HH8, HK8⟩
end
end Go.Proofs.YtpakjjefbholdaaGreatDoor
