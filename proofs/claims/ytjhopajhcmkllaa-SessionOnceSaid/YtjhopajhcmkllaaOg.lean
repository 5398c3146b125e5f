/- droverlaw07.end.again, begins: the walks. -/
import Derived.Test.YtjhopajhcmkllaaOf
namespace Go.Proofs.Ytjhopajhcmkllaa
open Go.RowKit
set_option linter.unusedVariables false

section
variable {w w' : World} {B g o : Nat} {x y : En}
/-- The life goes up. -/
theorem Arena.older (h : Arena w B g o x y) (m : Nat) : Arena (w.setCell ⟨g, o + 1, none⟩ (.int .i64 (m : Int))) B g o { x with lf := m } y ∧ Fr g x w (w.setCell ⟨g, o + 1, none⟩ (.int .i64 (m : Int))) { x with lf := m } := by
  have hx := h.a
  have h5 := h.o5
  refine ⟨h.store (by omega) (fun C hC hE => ?_) ⟨hx.s, hx.rS, hx.rD, hx.rA, hx.sd, hx.sa, hx.da⟩ h.ne h.ap h.cross, Fr.store _ _ (.inl rfl) (.inl (.inl rfl)) (fun u hu => .inl ⟨u, hu, rfl⟩)⟩
  have e : ∀ j, j < 5 → j ≠ 1 → (C.setIfInBounds (o + 1) (.int .i64 (m : Int)))[o + j]? = C[o + j]? := fun j hj hn => by rw [set_at (by omega), if_neg (by omega)]
  exact ⟨(e 0 (by omega) (by omega)).trans hE.c0, by rw [set_at (by omega), if_pos rfl], (e 2 (by omega) (by omega)).trans hE.c2, (e 3 (by omega) (by omega)).trans hE.c3, (e 4 (by omega) (by omega)).trans hE.c4⟩
/-- Another session takes the place of the elder one. -/
theorem Arena.other {q r p1} (h : Arena w B g o x y) {B' : Nat} (hs : SeAt w B' q r p1) (hB : B ≤ B') (hq : y.q < B') (hr : ∀ j, y.r = some j → j < B') : Arena (w.setCell ⟨g, o, none⟩ (.pointer (some ⟨q, 0, none⟩))) B g o { x with q := q, r := r, e := { x.e with p := p1 } } y := by
  have hx := h.a
  have h5 := h.o5
  refine h.store (i := 0) (by omega) (fun C hC hE => ?_) ⟨hs.mono hB, hx.rS, hx.rD, hx.rA, hx.sd, hx.sa, hx.da⟩ (fun e => ?_) (fun j h1 h2 => ?_) h.cross
  · have e : ∀ j, j < 5 → j ≠ 0 → (C.setIfInBounds (o + 0) (.pointer (some ⟨q, 0, none⟩)))[o + j]? = C[o + j]? := fun j hj hn => by rw [set_at (by omega), if_neg (by omega)]
    exact ⟨by rw [set_at (by omega), if_pos (by omega)], (e 1 (by omega) (by omega)).trans hE.c1, (e 2 (by omega) (by omega)).trans hE.c2, (e 3 (by omega) (by omega)).trans hE.c3, (e 4 (by omega) (by omega)).trans hE.c4⟩
  · have h1 := hs.low
    dsimp only at e
    omega
  · have h3 := (hs.row_lt h1).1
    have h4 := hr j h2
    omega
theorem Fr.other {q : Nat} {r : Option Nat} {p1 : Se} (v : Value) (hs : SeAt w' w.heap.size q r p1) (hb : Below w.heap.size w w') : Fr g x w (w'.setCell ⟨g, o, none⟩ v) { x with q := q, r := r, e := { x.e with p := p1 } } :=
  ⟨hb.os, hb.tape, hb.output, by simpa [World.setCell] using hb.size, fun k h1 h2 _ _ _ => (Below.heap_setCell _ _ _ _ h2).trans (hb.block k h1), .inr hs.low, .inr (fun j hj => (hs.row_lt hj).1), fun u hu => .inl ⟨u, hu, rfl⟩⟩
def AgainP (B g o : Nat) (x y : En) (w : World) (e : Ending) (w' : World) : Prop := e = .returned (.bool true) ∧ ∃ x', x'.e = x.e.anew ∧ x'.lf = x.lf + 1 ∧ Arena w' B g o x' y ∧ Fr g x w w' x'
set_option maxRecDepth 100000 in
set_option maxHeartbeats 3200000 in
theorem again_one {n : Nat} (h : Arena w B g o x y) (hE : EpOk n x.e y.e) (hn : n ≤ 1) (hl : x.lf = x.e.p.life) (hlf : x.lf ≤ 1000) (hS : x.e.S.length ≤ 1000) (hS' : y.e.S.length ≤ 1000) (hB : B ≤ w.heap.size) :
    Calls Try.prog 32 #[.pointer (some ⟨g, o, none⟩), .int .i64 (n : Int)] w fun e w' => AgainP B g o x y w e w' := by
  have hpre := pre_len hE
  obtain ⟨-, c1, -, -, -⟩ := h.cells
  have f1 := h.free (o + 1)
  have hold := h.older (x.lf + 1)
  obtain ⟨V, hV⟩ : ∃ V, V = w.setCell ⟨g, o + 1, none⟩ (.int .i64 ((x.lf + 1 : Nat) : Int)) := ⟨_, rfl⟩
  rw [← hV] at hold
  obtain ⟨-, -, -, -, d4⟩ := hold.1.cells
  have f4 := hold.1.free (o + 4)
  have hno := hold.1.noA
  obtain ⟨V2, hV2⟩ : ∃ V2, V2 = V.setCell ⟨g, o + 4, none⟩ (.slice none 0 0) := ⟨_, rfl⟩
  rw [← hV2] at hno
  have HA := Lib.hid hno.1
  have HF := Lib.hid (hold.2.trans hno.2)
  have hsz : w.heap.size ≤ V2.heap.size := HF.out.size
  have HV := Lib.hid hV
  have HV2 := Lib.hid hV2
  have hnode := Lib.hid hE.node
  have hpeer := Lib.hid hE.peer
  have hlast := hE.last
  have hdone := hE.done
  have HL := Lib.hid hl
  obtain ⟨e0, e1, -, -, -⟩ := HA.out.cells
  dsimp only at e0 e1 d4
  have HLK := Lib.hid (link_any HA.out.a.s.drew)
  dsimp only at HLK
  have hq1 : y.q < V2.heap.size := HA.out.b.s.lt
  have hr1 : ∀ j, y.r = some j → j < V2.heap.size := fun j hj => (HA.out.b.s.row_lt hj).2
  have hlast1 : x.e.p.last ≤ 1000 := by omega
  have hdone1 : x.e.p.done ≤ 1000 := by omega
  have hlf1 : ((x.lf + 1 : Nat) : Int) = (x.lf : Int) + 1 := by omega
  rw [hlf1] at e1
  have HV' : Hid (V = w.setCell ⟨g, o + 1, none⟩ (.int .i64 ((x.lf : Int) + 1))) := Lib.hid (by rw [← hlf1]; exact hV)
  clear hold hno hV hV2 h hE hpre hl hlast hdone hlf1
  have key : ∀ (n m : Nat) (zn zm : Int), zn = n → zm = m → x.e.p.node = n → x.e.p.peer = m → n < 16 → m < 16 → ∀ w5 : World, ∀ (A5 : Option Addr) (c5 : Nat) (L5 : List It), w5.ownsRow V2.drew.heap.size 27 2 (.slice A5 x.e.p.ds.length c5) L5.length (iCs L5) → Its w5 x.e.p.first x.e.p.ds L5 →
      Calls Try.prog 5 #[.int .i64 zn, .int .i64 zm, .int .i64 ((x.lf : Int) + 1), .agg #[.int .i64 (x.e.p.last : Int), .slice A5 x.e.p.ds.length c5, .int .i64 (x.e.p.done : Int)]] w5 fun e w' => ∃ g r, e = .returned (.tuple #[.pointer (some ⟨g, 0, none⟩), .int .i64 0]) ∧ SeAt w' w5.heap.size g r (x.e.p.anew x.e.p.node x.e.p.peer (x.e.p.life + 1)) ∧ Below w5.heap.size w5 w' := fun n m zn zm hzn hzm hnn hmm h1 h2 w5 A5 c5 L5 ho5 hi5 => by
    rw [hnn, hmm]
    exact renew_any (p := x.e.p) (show x.e.p.Ok from HA.out.a.s.ok) hi5 ho5 (by omega) (by omega) n m (x.e.p.life + 1) zn zm _ hzn hzm (by have := HL.out; omega) h1 h2 (by have := HL.out; omega)
  have KEY := Lib.hid key
  clear key
  rcases (show n = 0 ∨ n = 1 by omega) with rfl | rfl
  · have HN := Lib.hid (KEY.out 0 1 0 1 rfl rfl hnode.out hpeer.out (by omega) (by omega))
    rw [show (((0 : Nat)) : Int) = 0 from rfl]
    clear hnode hpeer KEY hn
    go_enter Try.func32, Try.ntmps32
    go_upto_region 2 with fail
    rw [← HV'.out]
    go_upto_region 3 with fail
    rw [← HV2.out]
    clear c1 f1 d4 f4
    go_region_held3 (fun w' => w'.cell? ⟨g, o, none⟩ = some (.pointer (some ⟨x.q, 0, none⟩)) ∧ w'.cell? ⟨g, o + 1, none⟩ = some (.int .i64 ((x.lf : Int) + 1))) (go_keep)
      (first
        | (go_at_call 16
           refine HLK.out.mono ?_
           rintro e w5 ⟨A5, c5, L5, rfl, ho5, hi5, hf5, hb5'⟩
           have hb5 := of_drew6' hb5'
           have HA5 := Lib.hid (HA.out.below hb5)
           have HO5 := Lib.hid ho5
           have HI5 := Lib.hid hi5
           have hs5 := hb5.size
           obtain ⟨i0, i1, -, -, -⟩ := HA5.out.cells
           have HB5 := Lib.hid hb5
           clear ho5 hi5 hf5 hb5 hb5')
        | (go_at_call 5
           refine (HN.out _ A5 c5 L5 HO5.out HI5.out).mono ?_
           rintro e w7 ⟨gq, gr, rfl, hs7, hb7⟩
           have HA7 := Lib.hid (HA5.out.below hb7)
           have HS7 := Lib.hid hs7
           obtain ⟨j0, j1, -, -, -⟩ := HA7.out.cells
           have HB7 := Lib.hid hb7
           clear hs7 hb7)
        | (fail))
    all_goals
      have hg7 := HA7.out.free o
      have hF7 := (HF.out.trans (Fr.of_below HB5.out)).trans (Fr.other (o := o) (.pointer (some ⟨gq, 0, none⟩)) HS7.out HB7.out)
      have hA7 := HA7.out.other HS7.out (Nat.le_trans hB (Nat.le_trans hsz hs5)) (Nat.lt_of_lt_of_le hq1 hs5) (fun j hj => Nat.lt_of_lt_of_le (hr1 j hj) hs5)
      have HAF := Lib.hid (And.intro hA7 hF7)
      clear hA7 hF7 i0 i1 j1
      go_wp2_with fail
      go_ret
      exact ⟨rfl, _, rfl, rfl, HAF.out.1, HAF.out.2⟩
  · have HN := Lib.hid (KEY.out 1 0 1 0 rfl rfl hnode.out hpeer.out (by omega) (by omega))
    rw [show (((1 : Nat)) : Int) = 1 from rfl]
    clear hnode hpeer KEY hn
    go_enter Try.func32, Try.ntmps32
    go_upto_region 2 with fail
    rw [← HV'.out]
    go_upto_region 3 with fail
    rw [← HV2.out]
    clear c1 f1 d4 f4
    go_region_held3 (fun w' => w'.cell? ⟨g, o, none⟩ = some (.pointer (some ⟨x.q, 0, none⟩)) ∧ w'.cell? ⟨g, o + 1, none⟩ = some (.int .i64 ((x.lf : Int) + 1))) (go_keep)
      (first
        | (go_at_call 16
           refine HLK.out.mono ?_
           rintro e w5 ⟨A5, c5, L5, rfl, ho5, hi5, hf5, hb5'⟩
           have hb5 := of_drew6' hb5'
           have HA5 := Lib.hid (HA.out.below hb5)
           have HO5 := Lib.hid ho5
           have HI5 := Lib.hid hi5
           have hs5 := hb5.size
           obtain ⟨i0, i1, -, -, -⟩ := HA5.out.cells
           have HB5 := Lib.hid hb5
           clear ho5 hi5 hf5 hb5 hb5')
        | (go_at_call 5
           refine (HN.out _ A5 c5 L5 HO5.out HI5.out).mono ?_
           rintro e w7 ⟨gq, gr, rfl, hs7, hb7⟩
           have HA7 := Lib.hid (HA5.out.below hb7)
           have HS7 := Lib.hid hs7
           obtain ⟨j0, j1, -, -, -⟩ := HA7.out.cells
           have HB7 := Lib.hid hb7
           clear hs7 hb7)
        | (fail))
    all_goals
      have hg7 := HA7.out.free o
      have hF7 := (HF.out.trans (Fr.of_below HB5.out)).trans (Fr.other (o := o) (.pointer (some ⟨gq, 0, none⟩)) HS7.out HB7.out)
      have hA7 := HA7.out.other HS7.out (Nat.le_trans hB (Nat.le_trans hsz hs5)) (Nat.lt_of_lt_of_le hq1 hs5) (fun j hj => Nat.lt_of_lt_of_le (hr1 j hj) hs5)
      have HAF := Lib.hid (And.intro hA7 hF7)
      clear hA7 hF7 i0 i1 j1
      go_wp2_with fail
      go_ret
      exact ⟨rfl, _, rfl, rfl, HAF.out.1, HAF.out.2⟩
end
end Go.Proofs.Ytjhopajhcmkllaa
