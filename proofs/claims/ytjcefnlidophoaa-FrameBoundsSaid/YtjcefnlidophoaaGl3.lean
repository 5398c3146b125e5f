/- drover/frame.Get's second closure, getMany and getList at api.Value: the walks. -/
import Derived.Test.YtjcefnlidophoaaGl2
namespace Go.Proofs.Ytjcefnlidophoaa
open Go.RowKit

theorem fV_err (b : List Nat) (a er : Nat) (h : fV b a = .error er) : er ≠ 0 := by
  unfold fV at h
  split at h
  · rename_i e he
    injection h with h
    exact h ▸ dec_err _ _ _ _ _ he
  · cases h
theorem getR_fV (l : List Nat) (a : Nat) (h : a ≤ l.length) : (∀ er, getR l (a : Int) = .error er → fV l a = .error er) ∧ (∀ t nx m, getR l (a : Int) = .ok (t, nx, m) → fV l a = .ok (t, nx)) := by
  have e : getR l (a : Int) = dec l 16 a 256 := by unfold getR; rw [if_neg (by omega)]; simp
  rw [e]
  unfold fV
  constructor
  · intro er h
    rw [h]
  · intro t nx m h
    rw [h]
def FvPost (r : Except Nat (Va × Nat)) (w : World) (e : Ending) (w' : World) : Prop := ∃ (zk zn : Int) (zs : ByteArray) (zA : Option Addr) (zl zc nx er : Nat), e = .returned (.tuple #[.agg #[.int .u8 zk, .int .i64 zn, .string zs, .slice zA zl zc], .int .i64 ((nx : Nat) : Int), .int .i64 ((er : Nat) : Int)]) ∧ Below w.heap.size w w' ∧
  ((er ≠ 0 ∧ r = .error er) ∨ (er = 0 ∧ ∃ t, r = .ok (t, nx) ∧ RepS w' (fun b => w.heap.size ≤ b ∧ b < w'.heap.size) (.agg #[.int .u8 zk, .int .i64 zn, .string zs, .slice zA zl zc]) t))
set_option maxRecDepth 100000 in
set_option maxHeartbeats 800000 in
theorem get1v_any (bb : Nat) (v : Value) (l : List Nat) (at_ : Nat) (w : World) (hb : w.heap[bb]? = some (.cells #[v] 27 (0, 0))) (hv : Bs w v l) (hn : l.length ≤ 1099511627776) (hat : at_ ≤ l.length) :
    Calls Try.prog 85 #[.int .i64 (at_ : Int), .pointer (some ⟨bb, 0, none⟩)] w (FvPost (fV l at_) w) := by
  obtain ⟨W, hW⟩ : ∃ W : World, W = w.alloc (.cells #[.int .u8 0, .int .i64 0, .string ⟨#[]⟩, .slice none 0 0] 43) := ⟨_, rfl⟩
  have hbW : Below w.heap.size w W := by rw [hW]; exact (Below.refl _ _).alloc (Nat.le_refl _) _
  have q1 : W.heap[w.heap.size]? = some (.cells #[.int .u8 0, .int .i64 0, .string ⟨#[]⟩, .slice none 0 0] 43 (0, 0)) := by rw [hW]; exact heap_new _ _
  have c0 : W.cell? ⟨bb, 0, none⟩ = some v := cell_block (heap_below hb hbW) 0
  have hg := get_all v l (at_ : Int) W (hv.below hbW) hn
  have HG := Lib.hid hg
  obtain ⟨hE, hO⟩ := getR_fV l at_ hat
  clear hg
  generalize getR l (at_ : Int) = R at *
  generalize fV l at_ = F at *
  go_enter Try.func85, Try.ntmps85
  go_upto_region 1 with fail
  rw [← hW]
  clear hW
  go_wp2_with fail
  refine HG.out.mono ?_
  rintro e w1 ⟨zk, zn, zs, zA, zl, zc, nx, er, rfl, hb1, hP⟩
  have q2 := heap_below q1 hb1
  obtain ⟨⟨d0, d1, d2, d3⟩, ⟨f0, f1, f2, f3⟩⟩ := box4f q2
  have hb2 := nxt hbW hb1
  have hsW := lt_heap q1
  clear HG c0
  go_wp2_with fail
  have p := set4 q2 (.int .u8 zk) (.int .i64 zn) (.string zs) (.slice zA zl zc)
  obtain ⟨⟨k0, k1, k2, k3⟩, -⟩ := box4f p
  refine bodyPost_ret (v := .tuple #[.agg #[.int .u8 zk, .int .i64 zn, .string zs, .slice zA zl zc], .int .i64 (nx : Int), .int .i64 (er : Int)]) (by simp [results, Try.results85, go_sem, k0, k1, k2, k3]) rfl ?_
  refine ⟨zk, zn, zs, zA, zl, zc, nx, er, rfl, (((hb2.setCell (Nat.le_refl _) _).setCell (Nat.le_refl _) _).setCell (Nat.le_refl _) _).setCell (Nat.le_refl _) _, ?_⟩
  rcases hP with ⟨he, hR, rfl, -⟩ | ⟨rfl, t, m, hR, hx⟩
  · exact .inl ⟨he, hE _ hR⟩
  · refine .inr ⟨rfl, t, hO _ _ _ hR, ?_⟩
    refine (RepS.keep hx (fun q hq => ?_)).wider (fun b hb => ⟨by have := hbW.size; omega, ?_⟩)
    · have : q.block ≠ w.heap.size := by omega
      exact (World.cell?_of_block ((Below.heap_setCell _ _ _ _ this).trans ((Below.heap_setCell _ _ _ _ this).trans ((Below.heap_setCell _ _ _ _ this).trans (Below.heap_setCell _ _ _ _ this)))))
    · have := hb.2
      simpa [World.setCell] using this
theorem value_info : (Try.prog.info? 43).map (fun i => (i.zero, i.size, i.bytes)) = some (some zeroV, 4, 56) := by kernel_rfl
def OutVals (r : Except Nat (List Va × Nat)) (w : World) (e : Ending) (w' : World) : Prop := Below w.heap.size w w' ∧ match r with
  | .error er => e = .returned (.tuple #[.slice none 0 0, .int .i64 0, .int .i64 ((er : Nat) : Int)])
  | .ok (ts, nx) => ∃ A c, e = .returned (.tuple #[.slice A ts.length c, .int .i64 ((nx : Nat) : Int), .int .i64 0]) ∧ ts.length ≤ c ∧ c ≤ maxLen ∧ RepsS w' (fun b => w.heap.size ≤ b ∧ b < w'.heap.size) A ts

/-- Values got so far: a row of the call's own, and what it holds. -/
structure Vrow (w : World) (lo : Nat) (u : Value) (n : Nat) (cs : List Value) (ts : List Va) : Prop where
  own : w.ownsRow lo 43 4 u n cs
  prt : Prt w (fun b => lo ≤ b ∧ b < w.heap.size ∧ some b ≠ u.ownBlock) cs ts
theorem Vrow.nil (w : World) (lo : Nat) : Vrow w lo (.slice none 0 0) 0 [] [] := ⟨World.ownsRow_nil _ _ _ _, Prt.nil _ _⟩
theorem Vrow.below {w w' : World} {lo n : Nat} {u : Value} {cs : List Value} {ts : List Va} (h : Vrow w lo u n cs ts) (hb : Below w.heap.size w w') : Vrow w' lo u n cs ts := by
  refine ⟨World.ownsRow.kept (row := none) h.own ⟨hb.os, hb.tape, hb.output, hb.size, fun k hk _ => hb.block k hk⟩ (by cases hv : u.ownBlock <;> simp), h.prt.keep (fun p hp => hb.cell hp.2.1) (fun b hb' => ⟨hb'.1, Nat.lt_of_lt_of_le hb'.2.1 hb.size, hb'.2.2⟩)⟩
/-- One more. -/
theorem Vrow.snoc {w w' : World} {lo n k : Nat} {u u' : Value} {cs : List Value} {ts : List Va} {y0 y1 y2 y3 : Value} {t : Va} (h : Vrow w lo u n cs ts) (hx : RepS w (fun b => lo ≤ b ∧ b < w.heap.size ∧ some b ≠ u.ownBlock) (.agg #[y0, y1, y2, y3]) t)
    (ho : w'.ownsRow lo 43 4 u' k (cs ++ [y0, y1, y2, y3])) (hg : w.grownBy w' u.ownBlock) (hr : u'.ownBlock = u.ownBlock ∨ u'.ownBlock = some w.heap.size) : Vrow w' lo u' k (cs ++ [y0, y1, y2, y3]) (ts ++ [t]) := by
  have hS : ∀ b, (lo ≤ b ∧ b < w.heap.size ∧ some b ≠ u.ownBlock) → (lo ≤ b ∧ b < w'.heap.size ∧ some b ≠ u'.ownBlock) := by
    intro b hb
    refine ⟨hb.1, Nat.lt_of_lt_of_le hb.2.1 hg.size, ?_⟩
    rcases hr with e | e
    · rw [e]
      exact hb.2.2
    · rw [e]
      intro h2
      have := Option.some.inj h2
      omega
  exact ⟨ho, (h.prt.snoc hx).keep (fun p hp => cell_heap (hg.block _ hp.2.1 hp.2.2)) hS⟩
set_option maxRecDepth 100000 in
set_option maxHeartbeats 1600000 in
theorem vals_any (bb : Nat) (v : Value) (l : List Nat) (n at_ : Nat) (w : World) (hb : w.heap[bb]? = some (.cells #[v] 27 (0, 0))) (hv : Bs w v l) (hn : l.length ≤ 1099511627776) (hat : at_ ≤ l.length) (hn1 : n ≤ 1000) :
    Calls Try.prog 159 #[.int .i64 (n : Int), .int .i64 (at_ : Int), .func (.func 85) #[] #[.pointer (some ⟨bb, 0, none⟩)]] w (OutVals (many (fV l) n at_) w) := by
  obtain ⟨i0, hi0, hz0, hz1, hz2⟩ := info_parts value_info
  have H8 := Lib.hid hv.2
  go_enter Try.func159, Try.ntmps159
  go_wp2_with fail
  go_loopw [1, 9, 14] (fun p q i wr => ∃ (j a : Nat) (ns : List Va) (cs : List Value), j ≤ n ∧ i = .int .i64 (j : Int) ∧ p = .int .i64 (a : Int) ∧ a ≤ l.length ∧ ns.length = j ∧ Vrow wr w.heap.size q j cs ns ∧
      Hid (many (fV l) n at_ = pre ns (many (fV l) (n - j) a)) ∧ Below w.heap.size w wr) (fun _ _ i _ => n - (intOf i).toNat)
  case atStart =>
    refine ⟨0, at_, [], [], Nat.zero_le _, rfl, rfl, hat, rfl, Vrow.nil _ _, ?_, Below.refl _ _⟩
    show _ = _
    rw [Nat.sub_zero]
    cases many (fV l) n at_ with
    | error e => rfl
    | ok r => rfl
  case round =>
    obtain ⟨j, a, ns, cs, hj, rfl, rfl, ha, hns, hrow, HM, hbr⟩ := hrel
    have q1 := heap_below hb hbr
    have hv1 := hv.below hbr
    obtain ⟨Ar, cr, rfl, hcr, hcrm⟩ := ownsRow_form hrow.own
    by_cases hlt : j < n
    · go_wp2_with fail
      refine (get1v_any bb v l a _ q1 hv1 hn ha).mono ?_
      rintro e w1 ⟨zk, zn, zs, zA, zl, zc, nx, er, rfl, hb1, hP⟩
      have hbr1 := nxt hbr hb1
      have hrow1 := hrow.below hb1
      rcases hP with ⟨he, hf⟩ | ⟨rfl, t, hf, hx⟩
      · have g1 : ((er : Int) != 0) = true := bne_iff_ne.2 (by omega)
        have HE := Lib.hid (many_err (fV l) n j at_ a ns er hlt HM.out hf)
        clear HM hf he
        go_wp2_with fail
        refine bodyPost_ret (v := .tuple #[.slice none 0 0, .int .i64 0, .int .i64 (er : Int)]) (by simp [results, Try.results159, go_sem]) rfl ?_
        refine ⟨hbr1.alloc hbr1.size _, ?_⟩
        rw [HE.out]
      · have hnx := (fV_back l H8.out a t nx ha hf).2.2.1
        have HG := Lib.hid (many_go (fV l) n j at_ a ns t nx hlt HM.out hf)
        clear HM hf
        rw [show ((0 : Nat) : Int) = 0 from rfl]
        obtain ⟨W, hW⟩ : ∃ W, W = (w1.alloc (.cells #[.int .u8 zk, .int .i64 zn, .string zs, .slice zA zl zc] 43)).alloc (.cells #[.int .u8 zk, .int .i64 zn, .string zs, .slice zA zl zc] 43) := ⟨_, rfl⟩
        have hbW : Below w1.heap.size w1 W := by rw [hW]; exact two _ _ _
        have hrowW := hrow1.below hbW
        have hxW : RepS W (fun b => w.heap.size ≤ b ∧ b < W.heap.size ∧ some b ≠ (Value.slice Ar j cr).ownBlock) (.agg #[.int .u8 zk, .int .i64 zn, .string zs, .slice zA zl zc]) t := by
          refine (RepS.keep hx (fun p hp => hbW.cell hp.2)).wider (fun b hb' => ⟨Nat.le_trans hbr.size hb'.1, Nat.lt_of_lt_of_le hb'.2 hbW.size, fun e => ?_⟩)
          have := (own_lt hrow.own e.symm).2
          omega
        have hat1 := At.made' (w1.alloc (.cells #[.int .u8 zk, .int .i64 zn, .string zs, .slice zA zl zc] 43)) #[.int .u8 zk, .int .i64 zn, .string zs, .slice zA zl zc] 43 (w1.heap.size + 1) (by simp)
        rw [← hW] at hat1
        have hbrW := nxt hbr1 hbW
        go_wp2_with (at_builtin
                     show wpList _ _ _ _ _ ((w1.alloc (.cells #[.int .u8 zk, .int .i64 zn, .string zs, .slice zA zl zc] 43)).alloc (.cells #[.int .u8 zk, .int .i64 zn, .string zs, .slice zA zl zc] 43))
                     rw [← hW]
                     refine wpList_append_at _ rfl (.tmp 26) (.tmp 28) 23 rfl w.heap.size 43 i0 zeroV 4 56 Try.underlying23 hi0 hz0 hz1 hz2 rfl (by omega) (.slice Ar j cr) j cs rfl hrowW.own _ _ 1 _ [.int .u8 zk, .int .i64 zn, .string zs, .slice zA zl zc] rfl hat1 rfl (by intro u hu; simp at hu; rcases hu with rfl | rfl | rfl | rfl <;> rfl) (by unfold maxLen; omega) (by omega) hbrW.size ?_
                     intro v2 w2 hown2 hg2 hr2)
        have hrow2 := hrowW.snoc hxW hown2 hg2 hr2
        have hb3 : Below w.heap.size w w2 := hbrW.trans ((Below.refl _ _).grown hg2 hbrW.size (fun k hk => (own_lt hrowW.own hk).1))
        clear hrow hrow1 hrowW hxW hg2 hat1 hx
        go_roundw
        case rel => exact ⟨j + 1, nx, ns ++ [t], _, by omega, by go_num, rfl, hnx, by simp [hns], hrow2, HG, hb3⟩
        case measure => simp [intOf]; omega
    · obtain rfl : n = j := by omega
      have HE := Lib.hid (many_end (fV l) n at_ a ns HM.out)
      go_wp2_with fail
      refine bodyPost_ret (v := .tuple #[.slice Ar n cr, .int .i64 (a : Int), .int .i64 0]) (by simp [results, Try.results159, go_sem]) rfl ?_
      refine ⟨hbr, ?_⟩
      rw [HE.out]
      refine ⟨Ar, cr, by rw [hns], by omega, hcrm, ?_⟩
      exact hrow.prt.reps hrow.own hns.symm (fun b hb' => ⟨hb'.1, hb'.2.1⟩) (fun g hg => own_lt hrow.own hg)

set_option maxRecDepth 100000 in
set_option maxHeartbeats 1600000 in
theorem vallist_any (bb : Nat) (v : Value) (l : List Nat) (at_ : Nat) (w : World) (hb : w.heap[bb]? = some (.cells #[v] 27 (0, 0))) (hv : Bs w v l) (hn : l.length ≤ 1099511627776) (hat : at_ ≤ l.length) :
    Calls Try.prog 84 #[v, .int .i64 (at_ : Int), .int .i64 64, .func (.func 85) #[] #[.pointer (some ⟨bb, 0, none⟩)]] w (OutVals (lst l 64 (fV l) at_) w) := by
  have hgb := gu_bounds l at_ hat
  have hgi := getuint_bs v l at_ w hv hn hat
  have HG := Lib.hid hgi
  have hm : ∀ n nx : Nat, (gu l at_) = (n, nx, 0) → n ≤ 1000 → Calls Try.prog 159 #[.int .i64 (n : Int), .int .i64 (nx : Int), .func (.func 85) #[] #[.pointer (some ⟨bb, 0, none⟩)]] w (OutVals (many (fV l) n nx) w) := by
    intro n nx hg h1
    have := hgb.2.2 (by rw [hg])
    rw [hg] at this
    exact vals_any bb v l n nx w hb hv hn (by dsimp only at this; omega) h1
  have hl : lst l 64 (fV l) at_ = if (gu l at_).2.2 ≠ 0 then .error (gu l at_).2.2 else if 64 < (gu l at_).1 then .error 14 else many (fV l) (gu l at_).1 (gu l at_).2.1 := rfl
  have HM := Lib.hid hm
  clear hgi hm
  have hu := hgb.1
  have hz := hgb.2.1
  clear hgb
  generalize lst l 64 (fV l) at_ = L at *
  generalize gu l at_ = g at *
  obtain ⟨n, nx, er⟩ := g
  dsimp only at hu hz hl
  by_cases he : er = 0
  · rw [if_neg (by simp [he])] at hl
    subst he
    by_cases h64 : 64 < n
    · rw [if_pos h64] at hl
      subst hl
      have k1 : decide ((64 : Int) < (n : Int)) = true := decide_eq_true (by omega)
      have k2 : decide (64 < n) = true := decide_eq_true h64
      go_enter Try.func84, Try.ntmps84
      go_wp2_with fail
      refine HG.out.mono ?_
      rintro e w1 ⟨rfl, rfl⟩
      go_wp2_with fail
      refine bodyPost_ret (v := .tuple #[.slice none 0 0, .int .i64 0, .int .i64 14]) (by simp [results, Try.results84, go_sem]) rfl ?_
      exact ⟨Below.refl _ _, rfl⟩
    · rw [if_neg h64] at hl
      subst hl
      have k1 : decide ((64 : Int) < (n : Int)) = false := decide_eq_false (by omega)
      have k2 : decide (64 < n) = false := decide_eq_false h64
      have s1 : IntKind.i64.wrap (n : Int) = (n : Int) := by rw [IntKind.wrap_i64]; omega
      have hcall := HM.out n nx rfl (by omega)
      generalize many (fV l) n nx = R at *
      have HC := Lib.hid hcall
      clear hcall
      go_enter Try.func84, Try.ntmps84
      go_wp2_with fail
      refine HG.out.mono ?_
      rintro e w1 ⟨rfl, rfl⟩
      go_wp2_with fail
      refine HC.out.mono ?_
      rintro e w2 ⟨hb2, hR⟩
      cases R with
      | error er2 =>
        subst hR
        go_wp2_with fail
        refine bodyPost_ret (v := .tuple #[.slice none 0 0, .int .i64 0, .int .i64 (er2 : Int)]) (by simp [results, Try.results84, go_sem]) rfl ?_
        exact ⟨hb2, rfl⟩
      | ok r =>
        obtain ⟨ns, n2⟩ := r
        obtain ⟨A, c, rfl, hc1, hc2, hrep⟩ := hR
        go_wp2_with fail
        refine bodyPost_ret (v := .tuple #[.slice A ns.length c, .int .i64 (n2 : Int), .int .i64 0]) (by simp [results, Try.results84, go_sem]) rfl ?_
        exact ⟨hb2, A, c, rfl, hc1, hc2, hrep⟩
  · rw [if_pos he] at hl
    subst hl
    obtain ⟨rfl, rfl⟩ := hz he
    have k1 : ((er : Int) != 0) = true := bne_iff_ne.2 (by omega)
    clear hz he
    go_enter Try.func84, Try.ntmps84
    go_wp2_with fail
    refine HG.out.mono ?_
    rintro e w1 ⟨rfl, rfl⟩
    go_wp2_with fail
    refine bodyPost_ret (v := .tuple #[.slice none 0 0, .int .i64 0, .int .i64 (er : Int)]) (by simp [results, Try.results84, go_sem]) rfl ?_
    exact ⟨Below.refl _ _, rfl⟩
end Go.Proofs.Ytjcefnlidophoaa
