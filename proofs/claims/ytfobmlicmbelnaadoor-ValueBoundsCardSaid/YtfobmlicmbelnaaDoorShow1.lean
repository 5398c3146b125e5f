/- drover/value.Show's closure: the walk. -/
import Derived.Test.YtfobmlicmbelnaaDoorShow0
import Derived.Deep.DeepCutAuto
namespace Go.Proofs.YtfobmlicmbelnaaDoor
open Go.RowKit

def showF (b bf : Nat) : Value := .func (.func 44) #[] #[.pointer (some ⟨b, 0, none⟩), .pointer (some ⟨bf, 0, none⟩)]
def OutS (base b : Nat) (l : List Nat) (w : World) (e : Ending) (w' : World) : Prop := e = .returned (.tuple #[]) ∧ BuF base b (bv l) w' ∧ Below base w w' ∧ Ot b w w'
/-- Memory on the way. -/
structure Sh (w W : World) (base b : Nat) (pre : List Nat) (box : Array Value) : Prop where
  bu : BuF base b (bv pre) W
  box : W.heap[w.heap.size]? = some (.cells box 25 (0, 0))
  bel : Below base w W
  ot : Ot b w W
theorem BuF.base {B b : Nat} {bs : List Value} {w : World} (h : BuF B b bs w) : B ≤ b ∧ b < w.heap.size := by
  rcases h with h | h
  · exact ⟨h.1, h.lt⟩
  · exact ⟨h.1, h.lt⟩
theorem jn_le {f : Va → List Nat} (p : List Va) (j : Nat) : (jn ((p.take j).map f)).length ≤ (jn (p.map f)).length := by
  have : p.map f = (p.take j).map f ++ (p.drop j).map f := by rw [← List.map_append, List.take_append_drop]
  rw [this]
  cases (p.take j).map f with
  | nil => simp [jn]
  | cons x r =>
    simp only [jn, List.cons_append, List.length_append, List.flatMap_append]
    omega
theorem add_at (l : List Nat) (h : l.length ≤ 1000) (w : World) : (Op.stringOp .add ⟨#[64]⟩ (strOf l)).run Tryd.prog w = .ok (.string (strOf (64 :: l))) w := by
  have e : strOf (64 :: l) = (⟨#[64]⟩ : ByteArray) ++ strOf l := by
    apply ByteArray.ext
    rw [ByteArray.data_append]
    simp [strOf]
  rw [e]
  exact run_string_add_sum (P := Tryd.prog) (w := w) ⟨#[64]⟩ (strOf l) (by rw [strOf_size]; show 1 + l.length ≤ _; omega)
theorem write_sep (B b : Nat) (pre : List Nat) (w : World) (h : BuF B b (bv pre) w) (hlen : pre.length + 2 ≤ 140737488355328) (hBw : B ≤ w.heap.size) :
    Calls Tryd.prog 34 #[.pointer (some ⟨b, 0, none⟩), .string ⟨#[44, 32]⟩] w fun e w' => e = .returned (.tuple #[.int .i64 2, .nilIface]) ∧ BuF B b (bv (pre ++ [44, 32])) w' ∧ Below B w w' ∧ Ot b w w' :=
  write_str B b pre [44, 32] w h (by decide) hlen hBw
theorem Sh.start {w : World} {base b : Nat} {pre : List Nat} {box : Array Value} (h : BuF base b (bv pre) w) (hbw : base ≤ w.heap.size) : Sh w (w.alloc (.cells box 25)) base b pre box :=
  ⟨h.mid ((Below.refl _ _).alloc (Nat.le_refl _) _), heap_new _ _, (Below.refl _ _).alloc hbw _, (Ot.refl _ _).alloc _⟩
theorem Sh.mid {w W W' : World} {base b : Nat} {pre : List Nat} {box : Array Value} (h : Sh w W base b pre box) (hbw : base ≤ w.heap.size) (hb : Below W.heap.size W W') : Sh w W' base b pre box :=
  ⟨h.bu.mid hb, heap_below h.box hb, h.bel.trans (hb.mono (Nat.le_trans hbw h.bel.size)), h.ot.trans (Ot.below hb)⟩
theorem Sh.next {w W W' : World} {base b : Nat} {pre pre' : List Nat} {box : Array Value} (h : Sh w W base b pre box) (hnb : w.heap.size ≠ b) (h1 : BuF base b (bv pre') W') (h2 : Below base W W') (h3 : Ot b W W') : Sh w W' base b pre' box :=
  ⟨h1, h3.heap h.box hnb (by decide), h.bel.trans h2, h.ot.trans h3⟩
theorem Sh.out {w W : World} {base b : Nat} {pre : List Nat} {box : Array Value} (h : Sh w W base b pre box) : OutS base b pre w (.returned (.tuple #[])) W := ⟨rfl, h.bu, h.bel, h.ot⟩

set_option maxRecDepth 100000 in
set_option maxHeartbeats 1600000 in
theorem show1_any : ∀ (L : Nat) (t : Va) (pre : List Nat) (v : Value) (w : World) (B base b bf : Nat), Rt L t → Ok L t → Rep w B v t → B ≤ base → base ≤ w.heap.size → bf ≠ b → BuF base b (bv pre) w → Fun1 w bf 69 (showF b bf) → Tab w base →
    pre.length + (shw L t).length ≤ 4398046511104 →
    Calls Tryd.prog 44 #[v, .pointer (some ⟨b, 0, none⟩), .pointer (some ⟨bf, 0, none⟩)] w (OutS base b (pre ++ shw L t) w) := by
  intro L
  induction L with
  | zero => intro t pre v w B base b bf h; exact h.elim
  | succ L ih =>
    intro t pre v w B base b bf hrt hok hrep hBb hbw hne hbu hf htab hlen
    obtain ⟨k, n, s, p⟩ := t
    have hrep0 := hrep
    obtain ⟨y0, y1, y2, y3, rfl⟩ := hrep.form
    obtain ⟨A, c, rfl, rfl, rfl, rfl, hk8, hn0, hn1, hs8, hsl, hcl, hcm, hl⟩ := hrep.parts
    have hsh : Sh w (w.alloc (.cells #[.int .u8 (k : Int), .int .i64 n, .string (strOf s), .slice A p.length c] 25)) base b pre _ := Sh.start hbu hbw
    have hlt := hbu.base.2
    have hnb : w.heap.size ≠ b := by omega
    have HLEN := Lib.hid hlen
    have hp0 : pre.length ≤ 4398046511104 := by omega
    have HS8 := Lib.hid hs8
    clear hlen hs8
    have hkk : k = 1 ∨ k = 2 ∨ k = 3 ∨ k = 4 ∨ k = 5 := by
      rcases hrt with ⟨_, h2⟩ | ⟨h1, _⟩
      · obtain ⟨_, h3⟩ := lf_cases h2
        omega
      · omega
    rcases hkk with h1 | h2 | h3 | h4 | h5
    · have g1 : ((k : Int) == 1) = true := by rw [h1]; rfl
      have HE : Hid (shw (L + 1) (.mk k n s p) = itoaN n) := by show _ = _; simp [shw, h1]
      clear h1
      go_enter Tryd.func44, Tryd.ntmps44
      go_wp2_with fail
      refine (format_any n hn0 hn1 _ base (htab.below hsh.bel)).mono ?_
      rintro e w1 ⟨rfl, hb1⟩
      have hs1 := hsh.mid hbw hb1
      have hl1 := itoaN_len n hn0 hn1
      go_wp2_with fail
      refine (write_str base b pre (itoaN n) _ hs1.bu (itoaN_bytes n) (by omega) (Nat.le_trans hbw hs1.bel.size)).mono ?_
      rintro e w2 ⟨rfl, h1, h2, h3⟩
      have hs2 := hs1.next hnb h1 h2 h3
      go_wp2_with fail
      go_end0
      rw [HE.out]
      exact hs2.out
    · have g1 : ((k : Int) == 1) = false := by rw [h2]; rfl
      have g2 : ((k : Int) == 2) = true := by rw [h2]; rfl
      have HE : Hid (shw (L + 1) (.mk k n s p) = if n = 1 then [116, 114, 117, 101] else [102, 97, 108, 115, 101]) := by show _ = _; simp [shw, h2]
      have hn1' : ∃ x : Bool, (n == 1) = x := ⟨_, rfl⟩
      obtain ⟨x, hx⟩ := hn1'
      have HX : Hid ((if n = 1 then [116, 114, 117, 101] else [102, 97, 108, 115, 101]) = (if x then [116, 114, 117, 101] else [102, 97, 108, 115, 101] : List Nat)) := by
        show _ = _
        cases x with
        | true => rw [if_pos (by simpa using hx)]; rfl
        | false => rw [if_neg (by simpa using hx)]; rfl
      have hl1 : (if x then [116, 114, 117, 101] else [102, 97, 108, 115, 101] : List Nat).length ≤ 5 := by cases x <;> decide
      have hb8 : ∀ y ∈ (if x then [116, 114, 117, 101] else [102, 97, 108, 115, 101] : List Nat), y < 256 := by cases x <;> decide
      have HB8 := Lib.hid hb8
      clear h2 hb8
      go_enter Tryd.func44, Tryd.ntmps44
      go_wp2_with fail
      refine (formatBool_any x _).mono ?_
      rintro e w1 ⟨rfl, rfl⟩
      generalize (if x then [116, 114, 117, 101] else [102, 97, 108, 115, 101] : List Nat) = txt at *
      go_wp2_with fail
      refine (write_str base b pre txt _ hsh.bu HB8.out (by omega) (Nat.le_trans hbw hsh.bel.size)).mono ?_
      rintro e w2 ⟨rfl, h1, h2, h3⟩
      have hs2 := hsh.next hnb h1 h2 h3
      go_wp2_with fail
      go_end0
      rw [HE.out, HX.out]
      exact hs2.out
    · have g1 : ((k : Int) == 1) = false := by rw [h3]; rfl
      have g2 : ((k : Int) == 2) = false := by rw [h3]; rfl
      have g3 : ((k : Int) == 3) = true := by rw [h3]; rfl
      have HE : Hid (shw (L + 1) (.mk k n s p) = quo s) := by show _ = _; simp [shw, h3]
      have hsl4 : s.length ≤ 4096 := by
        rcases hrt with ⟨_, h⟩ | ⟨h, _⟩
        · obtain ⟨_, h3⟩ := lf_cases h
          omega
        · omega
      clear h3
      go_enter Tryd.func44, Tryd.ntmps44
      go_wp2_with fail
      refine (quote_any s _ HS8.out hsl4).mono ?_
      rintro e w1 ⟨rfl, hb1⟩
      have hs1 := hsh.mid hbw hb1
      have hl1 := quo_len s
      go_wp2_with fail
      refine (write_str base b pre (quo s) _ hs1.bu (quo_bytes s HS8.out) (by omega) (Nat.le_trans hbw hs1.bel.size)).mono ?_
      rintro e w2 ⟨rfl, h1, h2, h3⟩
      have hs2 := hs1.next hnb h1 h2 h3
      go_wp2_with fail
      go_end0
      rw [HE.out]
      exact hs2.out
    · have g1 : ((k : Int) == 1) = false := by rw [h4]; rfl
      have g2 : ((k : Int) == 2) = false := by rw [h4]; rfl
      have g3 : ((k : Int) == 3) = false := by rw [h4]; rfl
      have g5 : ((k : Int) == 5) = false := by rw [h4]; rfl
      have g4 : ((k : Int) == 4) = true := by rw [h4]; rfl
      have hparts : ∀ t ∈ p, Rt L t := by
        rcases hrt with ⟨h, _⟩ | ⟨_, _, _, h⟩
        · exact absurd h4 h
        · exact h
      have HE : Hid (shw (L + 1) (.mk k n s p) = [40] ++ jn (p.map (shw L)) ++ (if p.length = 1 then [44] else []) ++ [41]) := by
        show _ = _
        simp [shw, h4, shT_jn]
      clear h4
      go_enter Tryd.func44, Tryd.ntmps44
      go_wp2_with fail
      refine (write_byte base b pre 40 _ hsh.bu (by omega) (Nat.le_trans hbw hsh.bel.size)).mono ?_
      rintro e w1 ⟨rfl, h1, h2, h3⟩
      have hs1 := hsh.next hnb h1 h2 h3
      obtain ⟨d0, d1, d2, d3⟩ := box4 hs1.box
      clear h1 h2 h3
      go_wp2_with fail
      go_loopw [40] (fun i wr => ∃ j : Nat, j ≤ p.length ∧ i = .int .i64 (j : Int) ∧ Sh w wr base b (pre ++ [40] ++ jn ((p.take j).map (shw L))) #[.int .u8 (k : Int), .int .i64 n, .string (strOf s), .slice A p.length c]) (fun i _ => p.length - (intOf i).toNat)
      case atStart => exact ⟨0, Nat.zero_le _, rfl, by simpa [jn] using hs1⟩
      case round =>
        obtain ⟨j, hj, rfl, hsj⟩ := hrel
        have hbel : Below B w wr := hsj.bel.mono hBb
        have hszj : base ≤ wr.heap.size := Nat.le_trans hbw hsj.bel.size
        by_cases hlt2 : j < p.length
        · obtain ⟨bb, o, y0, y1, y2, y3, rfl, hbB, hrange, hrepj⟩ := hl.at j hlt2
          have HJ : Hid (jn ((p.take (j + 1)).map (shw L)) = jn ((p.take j).map (shw L)) ++ ((if 0 < j then [44, 32] else []) ++ shw L p[j])) := by
            show _ = _
            rw [List.take_succ_eq_append_getElem hlt2, List.map_append, List.map_singleton, jn_snoc]
            simp [Nat.min_eq_left hj]
          have HL : Hid ((jn ((p.take (j + 1)).map (shw L))).length ≤ (jn (p.map (shw L))).length) := jn_le p (j + 1)
          have hrt' := hparts p[j] (List.getElem_mem hlt2)
          have hok' := hok.2.2.2.2 p[j] (List.getElem_mem hlt2)
          have hrepj' := hrepj.under hbel
          generalize p[j] = tj at *
          obtain ⟨kj, nj, sj, lj⟩ := tj
          obtain ⟨Aj, cj, rfl, rfl, rfl, rfl, -⟩ := hrepj.parts
          have m0 : wr.cell? ⟨bb, o + j * 4, none⟩ = some _ := (hbel.cell hbB).trans (hrange 0 _ rfl)
          have m1 : wr.cell? ⟨bb, o + j * 4 + 1, none⟩ = some _ := (hbel.cell hbB).trans (hrange 1 _ rfl)
          have m2 : wr.cell? ⟨bb, o + j * 4 + 2, none⟩ = some _ := (hbel.cell hbB).trans (hrange 2 _ rfl)
          have m3 : wr.cell? ⟨bb, o + j * 4 + 3, none⟩ = some _ := (hbel.cell hbB).trans (hrange 3 _ rfl)
          have hlen' : pre.length + 1 + ((jn ((p.take j).map (shw L))).length + ((if 0 < j then [44, 32] else [] : List Nat).length + (shw L (.mk kj nj sj lj)).length)) ≤ 4398046511104 := by
            have h := HLEN.out
            rw [HE.out] at h
            have h3 := HL.out
            rw [HJ.out] at h3
            simp only [List.length_append, List.length_cons, List.length_nil] at h h3 ⊢
            omega
          have HLEN' := Lib.hid hlen'
          have hfr : Fun1 wr bf 69 (showF b bf) := hsj.ot.heap hf hne (by decide)
          clear hrange hrepj hlen'
          by_cases hj0 : 0 < j
          · rw [if_pos hj0] at HJ HLEN'
            have hj0' : (0 : Int) < (j : Int) := by omega
            have hlp : (pre ++ [40] ++ jn ((p.take j).map (shw L))).length + 2 ≤ 4398046511104 := by
              have h := HLEN'.out
              simp only [List.length_append, List.length_cons, List.length_nil] at h ⊢
              omega
            go_wp2_with fail
            refine (write_sep base b _ _ (hsj.bu.mid ((Below.refl _ _).alloc (Nat.le_refl _) _)) (by omega) (by simp; omega)).mono ?_
            rintro e w2 ⟨rfl, h1, h2, h3⟩
            have hs2 : Sh w w2 base b (pre ++ [40] ++ jn ((p.take j).map (shw L)) ++ [44, 32]) _ := (hsj.mid hbw ((Below.refl _ _).alloc (Nat.le_refl _) _)).next hnb h1 h2 h3
            have hbW := lt_heap hsj.box
            have hblt := hsj.bu.base.2
            have hpb := h3.heap (heap_new _ _) (by omega) (by decide)
            obtain ⟨n0, n1, n2, n3⟩ := box4 hpb
            have hfr2 : Fun1 w2 bf 69 (showF b bf) := h3.heap (heap_old hfr _) hne (by decide)
            have hfc : w2.cell? ⟨bf, 0, none⟩ = some (showF b bf) := hfr2.cell
            unfold showF at hfc
            have hrep2 := (hrepj'.under ((Below.refl B wr).alloc (Nat.le_trans hBb hszj) _)).under (h2.mono hBb)
            clear h1 h2 h3 m0 m1 m2 m3 hpb hrepj' hfr
            go_wp2_with fail
            refine (ih _ (pre ++ [40] ++ jn ((p.take j).map (shw L)) ++ [44, 32]) _ _ B base b bf hrt' hok' hrep2 hBb (Nat.le_trans hbw hs2.bel.size) hne hs2.bu hfr2 (htab.below hs2.bel) (by have h := HLEN'.out; simp only [List.length_append, List.length_cons, List.length_nil] at h ⊢; omega)).mono ?_
            rintro e w4 ⟨rfl, h1, h2, h3⟩
            have hs4 := hs2.next hnb h1 h2 h3
            rw [show pre ++ [40] ++ jn ((p.take j).map (shw L)) ++ [44, 32] ++ shw L (.mk kj nj sj lj) = pre ++ [40] ++ jn ((p.take (j + 1)).map (shw L)) by rw [HJ.out]; simp] at hs4
            clear h1 h2 h3 n0 n1 n2 n3 hfc hrep2
            go_wp2_with fail
            go_roundw
            case rel => exact ⟨j + 1, by omega, by go_num, hs4⟩
            case measure => simp [intOf]; omega
          · rw [if_neg hj0] at HJ HLEN'
            have hj0' : ¬ (0 : Int) < (j : Int) := by omega
            have hfc : wr.cell? ⟨bf, 0, none⟩ = some (showF b bf) := hfr.cell
            unfold showF at hfc
            have hltf := lt_heap hfr
            go_wp2_with fail
            refine (ih _ (pre ++ [40] ++ jn ((p.take j).map (shw L))) _ _ B base b bf hrt' hok' (hrepj'.under ((Below.refl _ _).alloc (Nat.le_trans hBb hszj) _)) hBb (by simp; omega) hne (hsj.bu.mid ((Below.refl _ _).alloc (Nat.le_refl _) _)) (heap_old hfr _) ((htab.below hsj.bel).below ((Below.refl _ _).alloc hszj _)) (by have h := HLEN'.out; simp only [List.length_append, List.length_cons, List.length_nil] at h ⊢; omega)).mono ?_
            rintro e w4 ⟨rfl, h1, h2, h3⟩
            have hs4 := (hsj.mid hbw ((Below.refl _ _).alloc (Nat.le_refl _) _)).next hnb h1 h2 h3
            rw [List.append_assoc (pre ++ [40]), show jn ((p.take j).map (shw L)) ++ shw L (.mk kj nj sj lj) = jn ((p.take (j + 1)).map (shw L)) by rw [HJ.out]; simp] at hs4
            clear h1 h2 h3 m0 m1 m2 m3 hfc hrepj'
            go_wp2_with fail
            go_roundw
            case rel => exact ⟨j + 1, by omega, by go_num, hs4⟩
            case measure => simp [intOf]; omega
        · obtain rfl : j = p.length := by omega
          rw [List.take_length] at hsj
          obtain ⟨e0, e1, e2, e3⟩ := box4 hsj.box
          have hlq : (pre ++ [40] ++ jn (p.map (shw L))).length + 2 ≤ 4398046511200 := by
            have h := HLEN.out
            rw [HE.out] at h
            simp only [List.length_append, List.length_cons, List.length_nil] at h ⊢
            omega
          by_cases hone : p.length = 1
          · have g7 : ((p.length : Int) == 1) = true := by rw [hone]; rfl
            rw [if_pos hone] at HE
            have HONE := Lib.hid hone
            clear hone
            go_wp2_with fail
            refine (write_byte base b _ 44 _ hsj.bu (by omega) hszj).mono ?_
            rintro e w2 ⟨rfl, h1, h2, h3⟩
            have hs2 := hsj.next hnb h1 h2 h3
            clear h1 h2 h3
            go_wp2_with fail
            refine (write_byte base b _ 41 _ hs2.bu (by simp only [List.length_append, List.length_cons, List.length_nil] at hlq ⊢; omega) (Nat.le_trans hbw hs2.bel.size)).mono ?_
            rintro e w3 ⟨rfl, h1, h2, h3⟩
            have hs3 := hs2.next hnb h1 h2 h3
            go_wp2_with fail
            go_end0
            rw [HE.out, show pre ++ ([40] ++ jn (p.map (shw L)) ++ [44] ++ [41]) = pre ++ [40] ++ jn (p.map (shw L)) ++ [44] ++ [41] by simp]
            exact hs3.out
          · have g7 : ((p.length : Int) == 1) = false := beq_eq_false_iff_ne.2 (by omega)
            rw [if_neg hone] at HE
            clear hone
            go_wp2_with fail
            refine (write_byte base b _ 41 _ hsj.bu (by omega) hszj).mono ?_
            rintro e w3 ⟨rfl, h1, h2, h3⟩
            have hs3 := hsj.next hnb h1 h2 h3
            go_wp2_with fail
            go_end0
            rw [HE.out, show pre ++ ([40] ++ jn (p.map (shw L)) ++ [] ++ [41]) = pre ++ [40] ++ jn (p.map (shw L)) ++ [41] by simp]
            exact hs3.out
    · have g1 : ((k : Int) == 1) = false := by rw [h5]; rfl
      have g2 : ((k : Int) == 2) = false := by rw [h5]; rfl
      have g3 : ((k : Int) == 3) = false := by rw [h5]; rfl
      have g5 : ((k : Int) == 5) = true := by rw [h5]; rfl
      have HE : Hid (shw (L + 1) (.mk k n s p) = 64 :: itoaN n) := by show _ = _; simp [shw, h5]
      clear h5
      go_enter Tryd.func44, Tryd.ntmps44
      go_wp2_with fail
      refine (format_any n hn0 hn1 _ base (htab.below hsh.bel)).mono ?_
      rintro e w1 ⟨rfl, hb1⟩
      have hs1 := hsh.mid hbw hb1
      have hl1 := itoaN_len n hn0 hn1
      have hadd := fun w => add_at (itoaN n) (by omega) w
      go_wp2_with fail
      refine (write_str base b pre (64 :: itoaN n) _ hs1.bu (by intro y hy; rcases List.mem_cons.1 hy with rfl | hy; omega; exact itoaN_bytes n y hy) (by simp; omega) (Nat.le_trans hbw hs1.bel.size)).mono ?_
      rintro e w2 ⟨rfl, h1, h2, h3⟩
      have hs2 := hs1.next hnb h1 h2 h3
      go_wp2_with fail
      go_end0
      rw [HE.out]
      exact hs2.out
end Go.Proofs.YtfobmlicmbelnaaDoor
