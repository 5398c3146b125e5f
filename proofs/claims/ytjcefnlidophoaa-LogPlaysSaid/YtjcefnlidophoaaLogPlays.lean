/- droverlaw05.LogPlays returns true whatever its arguments: through any script of a log and its disk every answer, the records and the bytes are as the document defines. For every input, without conditions. -/
import Derived.Test.YtjcefnlidophoaaRow
import Derived.Test.YtjcefnlidophoaaBrw
import Derived.Test.YtjcefnlidophoaaAwake05
import Derived.Test.YtjcefnlidophoaaRef05d
import Derived.Test.YtjcefnlidophoaaOps5
import Derived.Test.YtjcefnlidophoaaLp
import Derived.Deep.CutBlock
import Derived.Deep.DeepCutAuto
import Derived.BigQuiet
namespace Go.Proofs.Ytjcefnlidophoaa.logPlays
open Go.ChangeShapes Go.WideShapes Go.ChangeAt Go.RowKit
set_option linter.unusedVariables false

theorem Ops.at {w w' : World} {B : Nat} {a : Option Addr} {l : List Po} (h : Ops w B a l) (hb : Below B w w') (j : Nat) (hj : j < l.length) :
    ∃ b o A c, a = some ⟨b, o, none⟩ ∧ w'.cell? ⟨b, o + j * 3, none⟩ = some (.int .i64 l[j].k) ∧ w'.cell? ⟨b, o + j * 3 + 1, none⟩ = some (.int .i64 l[j].n) ∧ w'.cell? ⟨b, o + j * 3 + 2, none⟩ = some (.slice A l[j].b.length c) ∧
      OpIs w' B (.int .i64 l[j].k) (.int .i64 l[j].n) (.slice A l[j].b.length c) l[j] := by
  obtain ⟨b, o, y0, y1, y2, rfl, h1, h2, h3⟩ := h j _ (List.getElem?_eq_getElem hj)
  have h3' := h3.under hb
  obtain ⟨A, c, rfl, rfl, rfl, _⟩ := id h3
  exact ⟨b, o, A, c, rfl, (hb.cell h1).trans (h2 0 _ rfl), (hb.cell h1).trans (h2 1 _ rfl), (hb.cell h1).trans (h2 2 _ rfl), h3'⟩
theorem beside_ref {w w' : World} {base p : Nat} {r : Option Nat} {d d' : Pd} {A : Option Addr} {c : Nat} {v' : Value} (h : Beside w base p r d' (.slice A d.bs.length c) d.bs) (hb : Below w.heap.size w w') (hv : Rv w w' A c d d' v') :
    ∃ A' c', v' = .agg #[.int .i64 (d'.most : Int), .slice A' d'.bs.length c', .int .i64 (d'.syn : Int), .int .i64 d'.num, .bool d'.down] ∧ Beside w' base p r d' (.slice A' d'.bs.length c') d'.bs := by
  obtain ⟨_, A', c', rfl, ⟨rfl, rfl, e⟩ | ho⟩ := hv
  · refine ⟨A', c', rfl, ?_⟩
    rw [e]
    exact h.below hb
  · exact ⟨A', c', rfl, h.new hb ho⟩
theorem beside_far {w w' : World} {base p g : Nat} {r : Option Nat} {d : Pd} {v : Value} {l : List Nat} {cs : Array Value} {T : TypeId} (h : Beside w base p r d v l) (hk : Kr g none w w') (hg : w.heap[g]? = some (.cells cs T (0, 0))) (hT : T ≠ 5) (hne : p ≠ g) : Beside w' base p r d v l :=
  ⟨h.dk.other hk hne (by simp) (h.dk.row_ne hg hT) (by simp), own_kr h.own hk (own_ne h.own hg hT) (by simp), h.sep⟩
abbrev rcells (d : Pd) (A : Option Addr) (c : Nat) : Obj := .cells #[.int .i64 (d.most : Int), .slice A d.bs.length c, .int .i64 (d.syn : Int), .int .i64 d.num, .bool d.down] 62 (0, 0)
abbrev lcells (n s : Nat) (b : Bool) : Obj := .cells #[.int .i64 (n : Int), .int .i64 (s : Int), .bool b] 69 (0, 0)
/-- The disk and its log, and the document's beside them. -/
structure St5 (w wr : World) (p g h q : Nat) (r : Option Nat) (d : Pd) (n s : Nat) (b : Bool) (A : Option Addr) (c : Nat) : Prop where
  bs : Beside wr w.heap.size p r d (.slice A d.bs.length c) d.bs
  lg : LgAt wr q p ⟨n, s, b⟩
  lo : w.heap.size ≤ q
  bx : wr.heap[g]? = some (rcells d A c)
  bl : wr.heap[h]? = some (lcells n s b)
  bel : Below w.heap.size w wr
section
variable {w wr wx : World} {p g h q : Nat} {r : Option Nat} {d : Pd} {n s : Nat} {b : Bool} {A : Option Addr} {c : Nat}
theorem St5.below (k : St5 w wr p g h q r d n s b A c) (hb : Below wr.heap.size wr wx) : St5 w wx p g h q r d n s b A c :=
  ⟨k.bs.below hb, heap_below k.lg hb, k.lo, heap_below k.bx hb, heap_below k.bl hb, nxt k.bel hb⟩
theorem St5.lgp (k : St5 w wr p g h q r d n s b A c) : Lg wr w.heap.size p q r d ⟨n, s, b⟩ := ⟨k.bs.dk, k.lg, k.lo⟩
end
/-- A block that is none of a disk's, of a log's, and no row of bytes stays. -/
theorem keep_l {w w' : World} {base p q : Nat} {r : Option Nat} {d : Pd} {l : Pl} (hd : Dk w base p r d) (hq : LgAt w q p l) (hk : Kl p q r w w') {k : Nat} {cs : Array Value} {T : TypeId} {fr : Nat × Nat} (hh : w.heap[k]? = some (.cells cs T fr)) (h1 : T ≠ 152) (h2 : T ≠ 158) (h3 : T ≠ 5) : w'.heap[k]? = some (.cells cs T fr) := by
  obtain ⟨cp, hp⟩ := hd.at_
  exact hk.heap hh (ty_ne hh hp h1) (ty_ne hh hq h2) (hd.row_ne hh h3)
theorem keep_k {w w' : World} {base p : Nat} {r : Option Nat} {d : Pd} (hd : Dk w base p r d) (hk : Kr p r w w') {k : Nat} {cs : Array Value} {T : TypeId} {fr : Nat × Nat} (hh : w.heap[k]? = some (.cells cs T fr)) (h1 : T ≠ 152) (h3 : T ≠ 5) : w'.heap[k]? = some (.cells cs T fr) := by
  obtain ⟨cp, hp⟩ := hd.at_
  exact hk.heap hh (ty_ne hh hp h1) (hd.row_ne hh h3)
section
variable {w w3 : World} {p g h q : Nat} {r : Option Nat} {d' : Pd} {n s n' s' : Nat} {b b' : Bool} {A' : Option Addr} {c' : Nat} {x0 x1 x2 x3 x4 : Value}
/-- The document's disk is stored. -/
theorem st5_disk (hb : Beside w3 w.heap.size p r d' (.slice A' d'.bs.length c') d'.bs) (hl : LgAt w3 q p ⟨n, s, b⟩) (lo : w.heap.size ≤ q) (hx : w3.heap[g]? = some (.cells #[x0, x1, x2, x3, x4] 62 (0, 0))) (hy : w3.heap[h]? = some (lcells n s b)) (hbel : Below w.heap.size w w3) (hg : w.heap.size ≤ g) :
    St5 w (put5 w3 g (.int .i64 (d'.most : Int)) (.slice A' d'.bs.length c') (.int .i64 (d'.syn : Int)) (.int .i64 d'.num) (.bool d'.down)) p g h q r d' n s b A' c' := by
  obtain ⟨cp, hp⟩ := hb.dk.at_
  have hne : p ≠ g := ty_ne hp hx (by decide)
  exact ⟨beside_far hb ((((((Kr.refl g none w3).set 0 _).set 1 _).set 2 _).set 3 _).set 4 _) hx (by decide) hne, (put5_ne (ty_ne hl hx (by decide)) _ _ _ _ _).trans hl, lo, put5_new hx _ _ _ _ _, (put5_ne (ty_ne hy hx (by decide)) _ _ _ _ _).trans hy, put5_below hbel hg _ _ _ _ _⟩
/-- The document's log is stored, another log is there. -/
theorem st5_log {q' : Nat} {A : Option Addr} {c : Nat} {d : Pd} (k : St5 w w3 p g h q r d n s b A c) (hl : LgAt w3 q' p ⟨n', s', b'⟩) (lo : w.heap.size ≤ q') (hh : w.heap.size ≤ h) :
    St5 w (put3 w3 h (.int .i64 (n' : Int)) (.int .i64 (s' : Int)) (.bool b')) p g h q' r d n' s' b' A c := by
  obtain ⟨cp, hp⟩ := k.bs.dk.at_
  have hne : p ≠ h := ty_ne hp k.bl (by decide)
  exact ⟨beside_far k.bs ((((Kr.refl h none w3).set 0 _).set 1 _).set 2 _) k.bl (by decide) hne, (put3_ne (ty_ne hl k.bl (by decide)) _ _ _).trans hl, lo, (put3_ne (ty_ne k.bx k.bl (by decide)) _ _ _).trans k.bx, put3_new k.bl _ _ _, put3_below k.bel hh _ _ _⟩
/-- Both at once. -/
theorem st5_both {y0 y1 y2 : Value} (hb : Beside w3 w.heap.size p r d' (.slice A' d'.bs.length c') d'.bs) (hl : LgAt w3 q p ⟨n', s', b'⟩) (lo : w.heap.size ≤ q) (hx : w3.heap[g]? = some (.cells #[x0, x1, x2, x3, x4] 62 (0, 0))) (hy : w3.heap[h]? = some (.cells #[y0, y1, y2] 69 (0, 0))) (hbel : Below w.heap.size w w3) (hg : w.heap.size ≤ g) (hh : w.heap.size ≤ h) :
    St5 w (put3 (put5 w3 g (.int .i64 (d'.most : Int)) (.slice A' d'.bs.length c') (.int .i64 (d'.syn : Int)) (.int .i64 d'.num) (.bool d'.down)) h (.int .i64 (n' : Int)) (.int .i64 (s' : Int)) (.bool b')) p g h q r d' n' s' b' A' c' := by
  obtain ⟨cp, hp⟩ := hb.dk.at_
  have hne : p ≠ g := ty_ne hp hx (by decide)
  have hne2 : p ≠ h := ty_ne hp hy (by decide)
  have b1 := beside_far hb ((((((Kr.refl g none w3).set 0 (.int .i64 (d'.most : Int))).set 1 (.slice A' d'.bs.length c')).set 2 (.int .i64 (d'.syn : Int))).set 3 (.int .i64 d'.num)).set 4 (.bool d'.down)) hx (by decide) hne
  have hy' : (put5 w3 g (.int .i64 (d'.most : Int)) (.slice A' d'.bs.length c') (.int .i64 (d'.syn : Int)) (.int .i64 d'.num) (.bool d'.down)).heap[h]? = some (.cells #[y0, y1, y2] 69 (0, 0)) := (put5_ne (ty_ne hy hx (by decide)) _ _ _ _ _).trans hy
  exact ⟨beside_far b1 ((((Kr.refl h none _).set 0 _).set 1 _).set 2 _) hy' (by decide) hne2, (put3_ne (ty_ne hl hy (by decide)) _ _ _).trans ((put5_ne (ty_ne hl hx (by decide)) _ _ _ _ _).trans hl), lo, (put3_ne (ty_ne hx hy (by decide)) _ _ _).trans (put5_new hx _ _ _ _ _), put3_new hy' _ _ _, put3_below (put5_below hbel hg _ _ _ _ _) hh _ _ _⟩
end
theorem addL_grow (l : Pl) (d : Pd) (x : List Nat) : (addL l d x).1.n ≤ l.n + 1 ∧ (addL l d x).1.size ≤ l.size + (8 + x.length) := by
  have hl := lrec_length x
  unfold addL
  split
  · exact ⟨by dsimp only; omega, by dsimp only; omega⟩
  · split
    · exact ⟨by dsimp only; omega, by dsimp only; omega⟩
    · exact ⟨by dsimp only; omega, by dsimp only; omega⟩
theorem openL_err {d : Pd} {er : Nat} (h : (openL d).2 = .error er) : er ≠ 0 := by
  unfold openL at h
  split at h
  · injection h with h
    omega
  · split at h
    · split at h
      · rename_i h0
        injection h with h
        rw [← h]
        exact h0
      · cases h
    · cases h
theorem openL_ok {d : Pd} {ws : List (List Nat)} (hok : d.Ok) (h : (openL d).2 = .ok ws) : ws.length ≤ 67108864 ∧ (lrecs ws).length ≤ 67108864 := by
  have h1 := whole_le d.bs hok.byte
  have h2 := hok.len
  have h3 := hok.most
  have e : ws = whole d.bs := by
    unfold openL at h
    split at h
    · cases h
    · split at h
      · split at h
        · cases h
        · injection h with h
          exact h.symm
      · injection h with h
        exact h.symm
  subst e
  have h4 := lrecs_many (whole d.bs)
  omega
theorem open_new (k : Nat) : openL (.new k) = (.new k, .ok []) := by
  unfold openL
  rw [if_neg (by simp [Pd.new]), if_neg (by simp [Pd.new])]
  rfl
/-- What stands at the loop's head. -/
def Pl5 (w : World) (p g h j : Nat) (s9 : Value) (wx : World) : Prop := ∃ (q : Nat) (r : Option Nat) (d : Pd) (n s : Nat) (b : Bool) (A : Option Addr) (c : Nat), s9 = .pointer (some ⟨q, 0, none⟩) ∧ St5 w wx p g h q r d n s b A c ∧ n ≤ 67108864 + j ∧ s ≤ 67108864 + 208 * j
theorem lg_nilr (a : Addr) (w : World) : (binOp .eql 65 (.pointer (some a)) (.pointer none)).run Try.prog w = .ok (.bool false) w := by
  have h : ∀ d : Nat, (Op.equalIn (d + 1) 65 (.pointer (some a)) (.pointer none)).run Try.prog w = .ok false w := fun d => by
    simp [Op.equalIn, run_underlying Try.underlying65]
  simp only [binOp]
  simp [Op.equal, Op.maxDepth, h 9999]
theorem lg_nils (w : World) : (binOp .eql 65 (.pointer none) (.pointer none)).run Try.prog w = .ok (.bool true) w := by
  have h : ∀ d : Nat, (Op.equalIn (d + 1) 65 (.pointer none) (.pointer none)).run Try.prog w = .ok true w := fun d => by
    simp [Op.equalIn, run_underlying Try.underlying65]
  simp only [binOp]
  simp [Op.equal, Op.maxDepth, h 9999]

set_option maxRecDepth 100000 in
set_option maxHeartbeats 60000000 in
theorem walk (w : World) (a0 : Int) (a1 : Option Addr) (n1 c1 : Nat) (w0 : (Lit.int .i64 a0).wf = true) (w1 : ∃ l, l.length = n1 ∧ n1 ≤ c1 ∧ c1 ≤ maxLen ∧ Ops w w.heap.size a1 l) :
    Calls Try.prog 7 #[.int .i64 a0, .slice a1 n1 c1] w fun e w' => e = .returned (.bool true) ∧ Below w.heap.size w w' := by
  obtain ⟨h00, h01⟩ := wf_i64 w0
  obtain ⟨l, hl, hc, hcm, hops⟩ := w1
  subst hl
  have HO := Lib.hid hops
  clear hops w0
  go_enter Try.func7, Try.ntmps7
  go_upto_if 27 with (fail)
  go_cut [0] (fun s wx => ∃ m : Int, s = .int .i64 m ∧ -9223372036854775808 ≤ m ∧ m ≤ 1048576 ∧ w = wx)
  case first =>
    by_cases hbig : 1048576 < a0
    · have t0 : decide ((1048576 : Int) < a0) = true := decide_eq_true hbig
      go_wp2_with fail
      go_meet
      exact ⟨_, rfl, by omega, by omega, rfl⟩
    · have t0 : decide ((1048576 : Int) < a0) = false := decide_eq_false hbig
      go_wp2_with fail
      go_meet
      exact ⟨_, rfl, by omega, by omega, rfl⟩
  case rest =>
  obtain ⟨m, rfl, hm0, hm1, rfl⟩ := hcut
  by_cases hneg : m < 0
  · go_wp2_with fail
    refine (new_not m (.inl hneg) w).mono ?_
    rintro e w1 ⟨rfl, rfl⟩
    go_wp2_with fail
    refine (refnew_not m (.inl hneg) w).mono ?_
    rintro e w1 ⟨rfl, hb1⟩
    have hb1' := hb1.alloc hb1.size (.cells #[.int .i64 0, .slice none 0 0, .int .i64 0, .int .i64 0, .bool false] 62)
    go_wp2_with fail
    refine (awake05_any _).mono ?_
    rintro e w2 ⟨rfl, hb2⟩
    go_wp2_with fail
    go_ret
    exact ⟨rfl, nxt hb1' hb2⟩
  obtain ⟨k, rfl⟩ : ∃ k : Nat, m = (k : Int) := ⟨m.toNat, by omega⟩
  have hk : k ≤ 67108864 := by omega
  clear hm0 hm1 hneg h00 h01
  go_wp2_with fail
  refine (new_any k hk w).mono ?_
  rintro e w1 ⟨rfl, hd1, hb1⟩
  obtain ⟨p, hp⟩ : ∃ p, p = w.heap.size := ⟨_, rfl⟩
  have hd1 : Dk w1 w.heap.size p none (.new k) := by rw [hp]; exact hd1
  rw [← hp]
  clear hp
  go_wp2_with fail
  refine (refnew_any k hk w1).mono ?_
  rintro e w2 ⟨v2, rfl, hv2, hb2⟩
  have hbs1 : Beside w1 w.heap.size p none (.new k) (.slice none (Pd.new k).bs.length 0) (Pd.new k).bs := ⟨hd1, Own.nil _ _, fun g e => by cases e⟩
  obtain ⟨A, c, rfl, hbs2⟩ := beside_ref hbs1 hb2 hv2
  have hbw2 := nxt hb1 hb2
  have hON := Lib.hid (open_new k)
  generalize Pd.new k = d at *
  clear hd1 hbs1 hv2 hb1 hb2
  obtain ⟨g, hg⟩ : ∃ g, g = w2.heap.size := ⟨_, rfl⟩
  obtain ⟨X, hX⟩ : ∃ X, X = w2.alloc (rcells d A c) := ⟨_, rfl⟩
  have hbox : X.heap[g]? = some (rcells d A c) := by rw [hX, hg]; exact heap_new _ _
  have hbsX : Beside X w.heap.size p none d (.slice A d.bs.length c) d.bs := by rw [hX]; exact hbs2.below ((Below.refl _ _).alloc (Nat.le_refl _) _)
  have hbX : Below w.heap.size w X := by rw [hX]; exact hbw2.alloc hbw2.size _
  have hgw : w.heap.size ≤ g := by have := hbw2.size; omega
  go_upto_region 5 with fail
  rw [← hX, ← hg]
  clear hX hg hbs2 hbw2
  go_wp2_with fail
  refine (open_any hbsX.dk).mono ?_
  rintro e w3 ⟨r3, hd3, hk3, hr3, hans⟩
  rw [hON.out] at hd3 hans
  obtain ⟨A5, c5, q, mm, rfl, hc5, hm5, hmq, hr5, hq5, -, -⟩ := hans
  have hbs3 := hbsX.to hd3 hk3 hr3
  have hbox3 := keep_k hbsX.dk hk3 hbox (by decide) (by decide)
  have hbw3 := hbX.trans (hbsX.dk.low hk3)
  have hok := hbsX.dk.ok
  have hv3 := Bs.of_own hbs3.own hok.byte
  have hqw : w.heap.size ≤ q := Nat.le_trans hbX.size (Nat.le_trans hm5 hmq)
  clear hbsX hbox hbX hk3 hr3 hd3 hm5 hmq hr5
  obtain ⟨⟨b0, b1, b2, b3, b4⟩, -⟩ := box5 hbox3
  go_wp2_with fail
  refine (refopen_any A c d w3 hok hv3).mono ?_
  rintro e w4 ⟨v4, n4, m4, u4, er4, rfl, hv4, hb4, hans4⟩
  rw [hON.out] at hv4 hans4
  obtain ⟨rfl, rfl, rfl, vs4, hown4, -⟩ := hans4
  obtain ⟨A', c', rfl, hbs4⟩ := beside_ref hbs3 hb4 hv4
  obtain ⟨Au4, cu4, rfl, -⟩ := rows_form hown4
  rw [show (((lrecs ([] : List (List Nat))).length : Nat) : Int) = 0 from rfl]
  have hbox4 := heap_below hbox3 hb4
  have hq4 := heap_below hq5 hb4
  have hbw4 := nxt hbw3 hb4
  clear b0 b1 b2 b3 b4 hbs3 hbox3 hq5 hb4 hv4 hv3 hbw3 hown4
  obtain ⟨⟨b0, b1, b2, b3, b4⟩, f0, f1, f2, f3, f4⟩ := box5 hbox4
  have zg : g < w4.heap.size := lt_heap hbox4
  obtain ⟨h, hh⟩ : ∃ h, h = w4.heap.size := ⟨_, rfl⟩
  obtain ⟨X, hX⟩ : ∃ X, X = (((((w4.setCell ⟨g, 0, none⟩ (.int .i64 (d.most : Int))).setCell ⟨g, 1, none⟩ (.slice A' d.bs.length c')).setCell ⟨g, 2, none⟩ (.int .i64 (d.syn : Int))).setCell ⟨g, 3, none⟩ (.int .i64 d.num)).setCell ⟨g, 4, none⟩ (.bool d.down)).alloc (.cells #[.int .i64 0, .int .i64 0, .bool false] 69) := ⟨_, rfl⟩
  have hst : St5 w X p g h q r3 d 0 0 false A' c' := by
    have e1 : (((((w4.setCell ⟨g, 0, none⟩ (.int .i64 (d.most : Int))).setCell ⟨g, 1, none⟩ (.slice A' d.bs.length c')).setCell ⟨g, 2, none⟩ (.int .i64 (d.syn : Int))).setCell ⟨g, 3, none⟩ (.int .i64 d.num)).setCell ⟨g, 4, none⟩ (.bool d.down)).heap.size = w4.heap.size := put5_size (w := w4) g _ _ _ _ _
    obtain ⟨cp, hp⟩ := hbs4.dk.at_
    have k1 := beside_far hbs4 ((((((Kr.refl g none w4).set 0 (.int .i64 (d.most : Int))).set 1 (.slice A' d.bs.length c')).set 2 (.int .i64 (d.syn : Int))).set 3 (.int .i64 d.num)).set 4 (.bool d.down)) hbox4 (by decide) (ty_ne hp hbox4 (by decide))
    rw [hX, hh]
    refine ⟨k1.below ((Below.refl _ _).alloc (Nat.le_refl _) _), heap_old (((put5_ne (ty_ne hq4 hbox4 (by decide)) _ _ _ _ _)).trans hq4) _, hqw, heap_old (put5_new hbox4 _ _ _ _ _) _, heap_new' _ _ _ e1.symm, (put5_below hbw4 hgw _ _ _ _ _).alloc (by rw [put5_size]; exact hbw4.size) _⟩
  have hhw : w.heap.size ≤ h := by rw [hh]; exact hbw4.size
  go_upto_region 9 with fail
  rw [← hX, ← hh]
  clear hX hh hbs4 hbox4 hq4 hbw4 b0 b1 b2 b3 b4 f0 f1 f2 f3 f4 zg hok hqw hON hc5
  go_wp2_with fail
  go_loopw [9, 15] (fun s9 i wr => ∃ (j : Nat), j ≤ l.length ∧ j ≤ 50 ∧ i = .int .i64 (j : Int) ∧ Pl5 w p g h j s9 wr) (fun _ i _ => l.length - (intOf i).toNat)
  case atStart => exact ⟨0, Nat.zero_le _, Nat.zero_le _, rfl, q, r3, d, 0, 0, false, A', c', rfl, hst, by omega, by omega⟩
  case round =>
    clear hst
    obtain ⟨j, hj, hj50, rfl, q, r, d, n, s, lb, A, c, rfl, hst, hnb, hsb⟩ := hrel
    by_cases hgo : j < l.length ∧ j < 50
    · obtain ⟨hlt, h60⟩ := hgo
      have t1 : decide ((j : Int) < (l.length : Int)) = true := decide_eq_true (by omega)
      have t2 : decide ((j : Int) < 50) = true := decide_eq_true (by omega)
      obtain ⟨b, o, Ax, cx, rfl, c0, c1, c2, hop⟩ := Ops.at HO.out hst.bel j hlt
      generalize l[j] = x at *
      by_cases h200 : 200 < x.b.length
      · have t3 : decide ((200 : Int) < (x.b.length : Int)) = true := decide_eq_true (by omega)
        go_wp2_with fail
        go_roundw
        case rel => exact ⟨j + 1, by omega, by omega, by go_num, q, r, d, n, s, lb, A, c, rfl, hst.below ((Below.refl _ _).alloc (Nat.le_refl _) _), by omega, by omega⟩
        case measure => simp [intOf]; omega
      have t3 : decide ((200 : Int) < (x.b.length : Int)) = false := decide_eq_false (by omega)
      obtain ⟨Q, hQ⟩ : ∃ Q, Q = wr.heap.size := ⟨_, rfl⟩
      obtain ⟨W, hW⟩ : ∃ W, W = wr.alloc (.cells #[.int .i64 x.k, .int .i64 x.n, .slice Ax x.b.length cx] 73) := ⟨_, rfl⟩
      have hrW : Below wr.heap.size wr W := by rw [hW]; exact (Below.refl _ _).alloc (Nat.le_refl _) _
      have qW : W.heap[Q]? = some (.cells #[.int .i64 x.k, .int .i64 x.n, .slice Ax x.b.length cx] 73 (0, 0)) := by rw [hW, hQ]; exact heap_new _ _
      have hstW := hst.below hrW
      have HV : Hid (∀ w', Below w.heap.size wr w' → Bs w' (.slice Ax x.b.length cx) x.b) := by
        intro w' hb
        obtain ⟨A', c', e1, e2, e3, e4, e5, e6, -⟩ := hop.under hb
        injection e3 with e7 e8 e9
        subst e7 e9
        exact Bs.of_at (e5.more (Nat.le_trans hst.bel.size hb.size)) rfl e4 e6
      have hrel2 : Below w.heap.size wr W := hrW.mono hst.bel.size
      obtain ⟨hn0, hn1⟩ : -9223372036854775808 ≤ x.n ∧ x.n ≤ 9223372036854775807 := by
        obtain ⟨_, _, _, _, _, _, _, _, _, _, h1, h2⟩ := hop
        exact ⟨h1, h2⟩
      go_upto_region 15 with fail
      rw [← hW, ← hQ]
      clear hW hQ hrW hst c0 c1 c2 hop
      have HST := Lib.hid hstW
      have QW := Lib.hid qW
      clear hstW qW
      have q0 := cell_block QW.out 0
      have q1 := cell_block QW.out 1
      have q2 := cell_block QW.out 2
      go_upto_block 2 with fail
      go_cut [9, 17, 18] (fun s9 y1 y2 wx => ∃ (z : Nat), y1 = .int .i64 (z : Int) ∧ y2 = .int .i64 (z : Int) ∧ Pl5 w p g h (j + 1) s9 wx)
      case first =>
        by_cases h1 : x.k = 1
        · have u1 : (x.k == 1) = true := by rw [h1]; rfl
          clear h1
          as_aux_lemma =>
            have hgr := addL_grow ⟨n, s, lb⟩ d x.b
            have hadd := Lib.hid (add_any _ x.b HST.out.lgp (HV.out W hrel2) (by dsimp only; omega) (by dsimp only; omega))
            have hra0 := Lib.hid (fun (w' : World) (hv : Bs w' (.slice A d.bs.length c) d.bs) (hx : Bs w' (.slice Ax x.b.length cx) x.b) => refladd_any A c d n s lb _ x.b w' HST.out.bs.dk.ok hv hx (by omega) (by omega))
            generalize addL ⟨n, s, lb⟩ d x.b = R at *
            obtain ⟨⟨n', s', lb'⟩, d', z⟩ := R
            dsimp only at hgr
            have hadd := Lib.hid (show Calls _ _ _ _ (fun e w' => e = .returned (.int .i64 (z : Int)) ∧ AfterL W w.heap.size p q r d' ⟨n', s', lb'⟩ w') from hadd.out)
            have hra := Lib.hid (fun (w2 : World) hv hx => show Calls _ _ _ _ (fun e w' => ∃ v', e = .returned (.tuple #[v', .agg #[.int .i64 (n' : Int), .int .i64 (s' : Int), .bool lb'], .int .i64 (z : Int)]) ∧ Rv w2 w' A c d d' v' ∧ Below w2.heap.size w2 w') from hra0.out w2 hv hx)
            obtain ⟨hg1, hg2⟩ := hgr
            have HN := Lib.hid (show n' ≤ 67108864 + (j + 1) ∧ s' ≤ 67108864 + 208 * (j + 1) from ⟨by omega, by omega⟩)
            clear hg1 hg2 hra0
            go_wp2_with fail
            refine hadd.out.mono ?_
            rintro e w2 ⟨rfl, r2, hlg2', hk2, hr2⟩
            have hbs2 := HST.out.bs.kl HST.out.lg hlg2'.dk hk2 hr2
            have hlg2 := Lib.hid hlg2'.at_
            have hlow := HST.out.lgp.low_of hk2
            have hb2 := HST.out.bel.trans hlow
            have hrel3 := hrel2.trans hlow
            have hbx2 := keep_l HST.out.bs.dk HST.out.lg hk2 HST.out.bx (by decide) (by decide) (by decide)
            have hby2 := keep_l HST.out.bs.dk HST.out.lg hk2 HST.out.bl (by decide) (by decide) (by decide)
            have hq2 := keep_l HST.out.bs.dk HST.out.lg hk2 QW.out (by decide) (by decide) (by decide)
            have hlo := HST.out.lo
            have hokd := HST.out.bs.dk.ok
            have hvd := Bs.of_own hbs2.own hokd.byte
            have hvx := HV.out w2 hrel3
            have hra2 := Lib.hid (hra.out w2 hvd hvx)
            clear q0 q1 q2 hk2 hr2 hlg2' hlow hrel2 hrel3 HST QW HV hra hadd hvd hvx hokd
            obtain ⟨⟨b0, b1, b2, b3, b4⟩, f0, f1, f2, f3, f4⟩ := box5 hbx2
            obtain ⟨⟨l0, l1, l2⟩, fl0, fl1, fl2⟩ := box3r hby2
            have q0 := cell_block hq2 0
            have q1 := cell_block hq2 1
            have q2 := cell_block hq2 2
            clear f0 f1 f2 f3 f4 fl0 fl1 fl2 hq2
            have HBX2 := Lib.hid hbx2
            have HBY2 := Lib.hid hby2
            have HBS2 := Lib.hid hbs2
            have HB2 := Lib.hid hb2
            clear hbx2 hby2 hbs2 hb2
            go_wp2_with fail
            refine hra2.out.mono ?_
            rintro e w3 ⟨v3, rfl, hv3, hb3⟩
            obtain ⟨A', c', rfl, hbs3⟩ := beside_ref HBS2.out hb3 hv3
            clear b0 b1 b2 b3 b4 l0 l1 l2 q0 q1 q2
            have hbx3 := heap_below HBX2.out hb3
            have hby3 := heap_below HBY2.out hb3
            have hlg3 : LgAt w3 q p ⟨n', s', lb'⟩ := heap_below hlg2.out hb3
            have hbw3 := nxt HB2.out hb3
            obtain ⟨⟨b0, b1, b2, b3, b4⟩, ⟨f0, f1, f2, f3, f4⟩⟩ := box5 hbx3
            obtain ⟨⟨l0, l1, l2⟩, fl0, fl1, fl2⟩ := box3r hby3
            have mgh : g ≠ h := ty_ne hbx3 hby3 (by decide)
            have mhg : h ≠ g := fun e => mgh e.symm
            have zg : g < w3.heap.size := lt_heap hbx3
            have zh : h < w3.heap.size := lt_heap hby3
            have HSTX := Lib.hid (st5_both hbs3 hlg3 hlo hbx3 hby3 hbw3 hgw hhw)
            have hby4 : (put5 w3 g (.int .i64 (d'.most : Int)) (.slice A' d'.bs.length c') (.int .i64 (d'.syn : Int)) (.int .i64 d'.num) (.bool d'.down)).heap[h]? = some (lcells n s lb) := (put5_ne mhg _ _ _ _ _).trans hby3
            have HX3 := Lib.hid hbx3
            have HY4 := Lib.hid hby4
            clear hbs3 hlg3 hbx3 hby3 hby4 hbw3 hb3 hv3 HBX2 HBY2 HBS2 HB2 hlg2 hra2 b0 b1 b2 b3 b4 f0 f1 f2 f3 f4 l0 l1 l2 fl0 fl1 fl2 mgh mhg zg zh
            dsimp only
            rename_i hKK
            refine hKK _ _ ?_
            clear hKK
            refine wpList_plain rfl (fun KK hK3 => ?_)
            go_simp
            refine hK3 _ _ ?_
            clear hK3 KK
            refine wpList_plain rfl (fun KK hK3 => ?_)
            go_simp
            refine hK3 _ _ ?_
            clear hK3 KK
            refine wpList_plain rfl (fun KK hK3 => ?_)
            go_simp
            refine hK3 _ _ ?_
            clear hK3 KK
            refine wpList_plain rfl (fun KK hK3 => ?_)
            go_simp
            refine hK3 _ _ ?_
            clear hK3 KK
            refine wpList_put5 (z0 := .int .i64 (d'.most : Int)) (z1 := .slice A' d'.bs.length c') (z2 := .int .i64 (d'.syn : Int)) (z3 := .int .i64 d'.num) (z4 := .bool d'.down) rfl (.tmp 7) (.tmp 107) rfl (by simp [Act.eval]) (by simp [Act.eval]) HX3.out ⟨_, _, rfl⟩ ⟨_, _, _, rfl⟩ ⟨_, _, rfl⟩ ⟨_, _, rfl⟩ ⟨_, rfl⟩ ?_
            refine wpList_put3 (z0 := .int .i64 (n' : Int)) (z1 := .int .i64 (s' : Int)) (z2 := .bool lb') rfl (.tmp 12) (.tmp 108) rfl (by simp [Act.eval, Act.put]) (by simp [Act.eval, Act.put]) HY4.out ⟨_, _, rfl⟩ ⟨_, _, rfl⟩ ⟨_, rfl⟩ ?_
            generalize put3 (put5 w3 g (.int .i64 (d'.most : Int)) (.slice A' d'.bs.length c') (.int .i64 (d'.syn : Int)) (.int .i64 d'.num) (.bool d'.down)) h (.int .i64 (n' : Int)) (.int .i64 (s' : Int)) (.bool lb') = X at *
            go_wp2_with fail
            go_meet
            exact ⟨z, rfl, rfl, q, r2, d', n', s', lb', A', c', rfl, HSTX.out, HN.out.1, HN.out.2⟩
        have u1 : (x.k == 1) = false := beq_eq_false_iff_ne.2 h1
        clear h1
        by_cases h2 : x.k = 2
        · have u2 : (x.k == 2) = true := by rw [h2]; rfl
          clear h2
          as_aux_lemma =>
            have hgr := addL_grow ⟨n, s, lb⟩ d x.b
            have hadd := Lib.hid (add_any _ x.b HST.out.lgp (HV.out W hrel2) (by dsimp only; omega) (by dsimp only; omega))
            have hra0 := Lib.hid (fun (w' : World) (hv : Bs w' (.slice A d.bs.length c) d.bs) (hx : Bs w' (.slice Ax x.b.length cx) x.b) => refladd_any A c d n s lb _ x.b w' HST.out.bs.dk.ok hv hx (by omega) (by omega))
            generalize addL ⟨n, s, lb⟩ d x.b = R at *
            obtain ⟨⟨n', s', lb'⟩, d', z⟩ := R
            dsimp only at hgr
            have hadd := Lib.hid (show Calls _ _ _ _ (fun e w' => e = .returned (.int .i64 (z : Int)) ∧ AfterL W w.heap.size p q r d' ⟨n', s', lb'⟩ w') from hadd.out)
            have hra := Lib.hid (fun (w2 : World) hv hx => show Calls _ _ _ _ (fun e w' => ∃ v', e = .returned (.tuple #[v', .agg #[.int .i64 (n' : Int), .int .i64 (s' : Int), .bool lb'], .int .i64 (z : Int)]) ∧ Rv w2 w' A c d d' v' ∧ Below w2.heap.size w2 w') from hra0.out w2 hv hx)
            obtain ⟨hg1, hg2⟩ := hgr
            have HN := Lib.hid (show n' ≤ 67108864 + (j + 1) ∧ s' ≤ 67108864 + 208 * (j + 1) from ⟨by omega, by omega⟩)
            clear hg1 hg2 hra0
            go_wp2_with fail
            refine hadd.out.mono ?_
            rintro e w2 ⟨rfl, r2, hlg2', hk2, hr2⟩
            have hbs2 := HST.out.bs.kl HST.out.lg hlg2'.dk hk2 hr2
            have hlg2 := Lib.hid hlg2'.at_
            have hlow := HST.out.lgp.low_of hk2
            have hb2 := HST.out.bel.trans hlow
            have hrel3 := hrel2.trans hlow
            have hbx2 := keep_l HST.out.bs.dk HST.out.lg hk2 HST.out.bx (by decide) (by decide) (by decide)
            have hby2 := keep_l HST.out.bs.dk HST.out.lg hk2 HST.out.bl (by decide) (by decide) (by decide)
            have hq2 := keep_l HST.out.bs.dk HST.out.lg hk2 QW.out (by decide) (by decide) (by decide)
            have hlo := HST.out.lo
            have hokd := HST.out.bs.dk.ok
            have hvd := Bs.of_own hbs2.own hokd.byte
            have hvx := HV.out w2 hrel3
            have hra2 := Lib.hid (hra.out w2 hvd hvx)
            clear q0 q1 q2 hk2 hr2 hlg2' hlow hrel2 hrel3 HST QW HV hra hadd hvd hvx hokd
            obtain ⟨⟨b0, b1, b2, b3, b4⟩, f0, f1, f2, f3, f4⟩ := box5 hbx2
            obtain ⟨⟨l0, l1, l2⟩, fl0, fl1, fl2⟩ := box3r hby2
            have q0 := cell_block hq2 0
            have q1 := cell_block hq2 1
            have q2 := cell_block hq2 2
            clear f0 f1 f2 f3 f4 fl0 fl1 fl2 hq2
            have HBX2 := Lib.hid hbx2
            have HBY2 := Lib.hid hby2
            have HBS2 := Lib.hid hbs2
            have HB2 := Lib.hid hb2
            clear hbx2 hby2 hbs2 hb2
            go_wp2_with fail
            refine hra2.out.mono ?_
            rintro e w3 ⟨v3, rfl, hv3, hb3⟩
            obtain ⟨A', c', rfl, hbs3⟩ := beside_ref HBS2.out hb3 hv3
            clear b0 b1 b2 b3 b4 l0 l1 l2 q0 q1 q2
            have hbx3 := heap_below HBX2.out hb3
            have hby3 := heap_below HBY2.out hb3
            have hlg3 : LgAt w3 q p ⟨n', s', lb'⟩ := heap_below hlg2.out hb3
            have hbw3 := nxt HB2.out hb3
            obtain ⟨⟨b0, b1, b2, b3, b4⟩, ⟨f0, f1, f2, f3, f4⟩⟩ := box5 hbx3
            obtain ⟨⟨l0, l1, l2⟩, fl0, fl1, fl2⟩ := box3r hby3
            have mgh : g ≠ h := ty_ne hbx3 hby3 (by decide)
            have mhg : h ≠ g := fun e => mgh e.symm
            have zg : g < w3.heap.size := lt_heap hbx3
            have zh : h < w3.heap.size := lt_heap hby3
            have HSTX := Lib.hid (st5_both hbs3 hlg3 hlo hbx3 hby3 hbw3 hgw hhw)
            have hby4 : (put5 w3 g (.int .i64 (d'.most : Int)) (.slice A' d'.bs.length c') (.int .i64 (d'.syn : Int)) (.int .i64 d'.num) (.bool d'.down)).heap[h]? = some (lcells n s lb) := (put5_ne mhg _ _ _ _ _).trans hby3
            have HX3 := Lib.hid hbx3
            have HY4 := Lib.hid hby4
            clear hbs3 hlg3 hbx3 hby3 hby4 hbw3 hb3 hv3 HBX2 HBY2 HBS2 HB2 hlg2 hra2 b0 b1 b2 b3 b4 f0 f1 f2 f3 f4 l0 l1 l2 fl0 fl1 fl2 mgh mhg zg zh
            dsimp only
            rename_i hKK
            refine hKK _ _ ?_
            clear hKK
            refine wpList_plain rfl (fun KK hK3 => ?_)
            go_simp
            refine hK3 _ _ ?_
            clear hK3 KK
            refine wpList_plain rfl (fun KK hK3 => ?_)
            go_simp
            refine hK3 _ _ ?_
            clear hK3 KK
            refine wpList_plain rfl (fun KK hK3 => ?_)
            go_simp
            refine hK3 _ _ ?_
            clear hK3 KK
            refine wpList_plain rfl (fun KK hK3 => ?_)
            go_simp
            refine hK3 _ _ ?_
            clear hK3 KK
            refine wpList_put5 (z0 := .int .i64 (d'.most : Int)) (z1 := .slice A' d'.bs.length c') (z2 := .int .i64 (d'.syn : Int)) (z3 := .int .i64 d'.num) (z4 := .bool d'.down) rfl (.tmp 7) (.tmp 107) rfl (by simp [Act.eval]) (by simp [Act.eval]) HX3.out ⟨_, _, rfl⟩ ⟨_, _, _, rfl⟩ ⟨_, _, rfl⟩ ⟨_, _, rfl⟩ ⟨_, rfl⟩ ?_
            refine wpList_put3 (z0 := .int .i64 (n' : Int)) (z1 := .int .i64 (s' : Int)) (z2 := .bool lb') rfl (.tmp 12) (.tmp 108) rfl (by simp [Act.eval, Act.put]) (by simp [Act.eval, Act.put]) HY4.out ⟨_, _, rfl⟩ ⟨_, _, rfl⟩ ⟨_, rfl⟩ ?_
            generalize put3 (put5 w3 g (.int .i64 (d'.most : Int)) (.slice A' d'.bs.length c') (.int .i64 (d'.syn : Int)) (.int .i64 d'.num) (.bool d'.down)) h (.int .i64 (n' : Int)) (.int .i64 (s' : Int)) (.bool lb') = X at *
            go_wp2_with fail
            go_meet
            exact ⟨z, rfl, rfl, q, r2, d', n', s', lb', A', c', rfl, HSTX.out, HN.out.1, HN.out.2⟩
        have u2 : (x.k == 2) = false := beq_eq_false_iff_ne.2 h2
        clear h2
        by_cases h3 : x.k = 3
        · have u3 : (x.k == 3) = true := by rw [h3]; rfl
          clear h3
          as_aux_lemma =>
            have hgr := addL_grow ⟨n, s, lb⟩ d x.b
            have hadd := Lib.hid (add_any _ x.b HST.out.lgp (HV.out W hrel2) (by dsimp only; omega) (by dsimp only; omega))
            have hra0 := Lib.hid (fun (w' : World) (hv : Bs w' (.slice A d.bs.length c) d.bs) (hx : Bs w' (.slice Ax x.b.length cx) x.b) => refladd_any A c d n s lb _ x.b w' HST.out.bs.dk.ok hv hx (by omega) (by omega))
            generalize addL ⟨n, s, lb⟩ d x.b = R at *
            obtain ⟨⟨n', s', lb'⟩, d', z⟩ := R
            dsimp only at hgr
            have hadd := Lib.hid (show Calls _ _ _ _ (fun e w' => e = .returned (.int .i64 (z : Int)) ∧ AfterL W w.heap.size p q r d' ⟨n', s', lb'⟩ w') from hadd.out)
            have hra := Lib.hid (fun (w2 : World) hv hx => show Calls _ _ _ _ (fun e w' => ∃ v', e = .returned (.tuple #[v', .agg #[.int .i64 (n' : Int), .int .i64 (s' : Int), .bool lb'], .int .i64 (z : Int)]) ∧ Rv w2 w' A c d d' v' ∧ Below w2.heap.size w2 w') from hra0.out w2 hv hx)
            obtain ⟨hg1, hg2⟩ := hgr
            have HN := Lib.hid (show n' ≤ 67108864 + (j + 1) ∧ s' ≤ 67108864 + 208 * (j + 1) from ⟨by omega, by omega⟩)
            clear hg1 hg2 hra0
            go_wp2_with fail
            refine hadd.out.mono ?_
            rintro e w2 ⟨rfl, r2, hlg2', hk2, hr2⟩
            have hbs2 := HST.out.bs.kl HST.out.lg hlg2'.dk hk2 hr2
            have hlg2 := Lib.hid hlg2'.at_
            have hlow := HST.out.lgp.low_of hk2
            have hb2 := HST.out.bel.trans hlow
            have hrel3 := hrel2.trans hlow
            have hbx2 := keep_l HST.out.bs.dk HST.out.lg hk2 HST.out.bx (by decide) (by decide) (by decide)
            have hby2 := keep_l HST.out.bs.dk HST.out.lg hk2 HST.out.bl (by decide) (by decide) (by decide)
            have hq2 := keep_l HST.out.bs.dk HST.out.lg hk2 QW.out (by decide) (by decide) (by decide)
            have hlo := HST.out.lo
            have hokd := HST.out.bs.dk.ok
            have hvd := Bs.of_own hbs2.own hokd.byte
            have hvx := HV.out w2 hrel3
            have hra2 := Lib.hid (hra.out w2 hvd hvx)
            clear q0 q1 q2 hk2 hr2 hlg2' hlow hrel2 hrel3 HST QW HV hra hadd hvd hvx hokd
            obtain ⟨⟨b0, b1, b2, b3, b4⟩, f0, f1, f2, f3, f4⟩ := box5 hbx2
            obtain ⟨⟨l0, l1, l2⟩, fl0, fl1, fl2⟩ := box3r hby2
            have q0 := cell_block hq2 0
            have q1 := cell_block hq2 1
            have q2 := cell_block hq2 2
            clear f0 f1 f2 f3 f4 fl0 fl1 fl2 hq2
            have HBX2 := Lib.hid hbx2
            have HBY2 := Lib.hid hby2
            have HBS2 := Lib.hid hbs2
            have HB2 := Lib.hid hb2
            clear hbx2 hby2 hbs2 hb2
            go_wp2_with fail
            refine hra2.out.mono ?_
            rintro e w3 ⟨v3, rfl, hv3, hb3⟩
            obtain ⟨A', c', rfl, hbs3⟩ := beside_ref HBS2.out hb3 hv3
            clear b0 b1 b2 b3 b4 l0 l1 l2 q0 q1 q2
            have hbx3 := heap_below HBX2.out hb3
            have hby3 := heap_below HBY2.out hb3
            have hlg3 : LgAt w3 q p ⟨n', s', lb'⟩ := heap_below hlg2.out hb3
            have hbw3 := nxt HB2.out hb3
            obtain ⟨⟨b0, b1, b2, b3, b4⟩, ⟨f0, f1, f2, f3, f4⟩⟩ := box5 hbx3
            obtain ⟨⟨l0, l1, l2⟩, fl0, fl1, fl2⟩ := box3r hby3
            have mgh : g ≠ h := ty_ne hbx3 hby3 (by decide)
            have mhg : h ≠ g := fun e => mgh e.symm
            have zg : g < w3.heap.size := lt_heap hbx3
            have zh : h < w3.heap.size := lt_heap hby3
            have HSTX := Lib.hid (st5_both hbs3 hlg3 hlo hbx3 hby3 hbw3 hgw hhw)
            have hby4 : (put5 w3 g (.int .i64 (d'.most : Int)) (.slice A' d'.bs.length c') (.int .i64 (d'.syn : Int)) (.int .i64 d'.num) (.bool d'.down)).heap[h]? = some (lcells n s lb) := (put5_ne mhg _ _ _ _ _).trans hby3
            have HX3 := Lib.hid hbx3
            have HY4 := Lib.hid hby4
            clear hbs3 hlg3 hbx3 hby3 hby4 hbw3 hb3 hv3 HBX2 HBY2 HBS2 HB2 hlg2 hra2 b0 b1 b2 b3 b4 f0 f1 f2 f3 f4 l0 l1 l2 fl0 fl1 fl2 mgh mhg zg zh
            dsimp only
            rename_i hKK
            refine hKK _ _ ?_
            clear hKK
            refine wpList_plain rfl (fun KK hK3 => ?_)
            go_simp
            refine hK3 _ _ ?_
            clear hK3 KK
            refine wpList_plain rfl (fun KK hK3 => ?_)
            go_simp
            refine hK3 _ _ ?_
            clear hK3 KK
            refine wpList_plain rfl (fun KK hK3 => ?_)
            go_simp
            refine hK3 _ _ ?_
            clear hK3 KK
            refine wpList_plain rfl (fun KK hK3 => ?_)
            go_simp
            refine hK3 _ _ ?_
            clear hK3 KK
            refine wpList_put5 (z0 := .int .i64 (d'.most : Int)) (z1 := .slice A' d'.bs.length c') (z2 := .int .i64 (d'.syn : Int)) (z3 := .int .i64 d'.num) (z4 := .bool d'.down) rfl (.tmp 7) (.tmp 107) rfl (by simp [Act.eval]) (by simp [Act.eval]) HX3.out ⟨_, _, rfl⟩ ⟨_, _, _, rfl⟩ ⟨_, _, rfl⟩ ⟨_, _, rfl⟩ ⟨_, rfl⟩ ?_
            refine wpList_put3 (z0 := .int .i64 (n' : Int)) (z1 := .int .i64 (s' : Int)) (z2 := .bool lb') rfl (.tmp 12) (.tmp 108) rfl (by simp [Act.eval, Act.put]) (by simp [Act.eval, Act.put]) HY4.out ⟨_, _, rfl⟩ ⟨_, _, rfl⟩ ⟨_, rfl⟩ ?_
            generalize put3 (put5 w3 g (.int .i64 (d'.most : Int)) (.slice A' d'.bs.length c') (.int .i64 (d'.syn : Int)) (.int .i64 d'.num) (.bool d'.down)) h (.int .i64 (n' : Int)) (.int .i64 (s' : Int)) (.bool lb') = X at *
            go_wp2_with fail
            go_meet
            exact ⟨z, rfl, rfl, q, r2, d', n', s', lb', A', c', rfl, HSTX.out, HN.out.1, HN.out.2⟩
        have u3 : (x.k == 3) = false := beq_eq_false_iff_ne.2 h3
        clear h3
        by_cases h4 : x.k = 4
        · have u4 : (x.k == 4) = true := by rw [h4]; rfl
          clear h4
          as_aux_lemma =>
            have hoe := fun er => openL_err (d := d) (er := er)
            have hoo := fun ws => openL_ok (d := d) (ws := ws) HST.out.bs.dk.ok
            have hop := Lib.hid (open_any HST.out.bs.dk)
            have hro := Lib.hid (fun (w' : World) (hv : Bs w' (.slice A d.bs.length c) d.bs) => refopen_any A c d w' HST.out.bs.dk.ok hv)
            generalize openL d = R at *
            obtain ⟨d', res⟩ := R
            dsimp only at hoe hoo
            have HOE := Lib.hid hoe
            have HOO := Lib.hid hoo
            clear hoe hoo
            go_wp2_with fail
            refine hop.out.mono ?_
            rintro e w2 ⟨r2, hd2, hk2, hr2, hans⟩
            dsimp only at hd2 hans
            have hbs2 := HST.out.bs.to hd2 hk2 hr2
            have hlow := HST.out.bs.dk.low hk2
            have hb2 := HST.out.bel.trans hlow
            have hbx2 := keep_k HST.out.bs.dk hk2 HST.out.bx (by decide) (by decide)
            have hby2 := keep_k HST.out.bs.dk hk2 HST.out.bl (by decide) (by decide)
            have hlg2 : LgAt w2 q p ⟨n, s, lb⟩ := HST.out.lg.kr HST.out.bs.dk hk2
            have hlo := HST.out.lo
            have hsW := HST.out.bel.size
            have hgW : g < W.heap.size := lt_heap HST.out.bx
            have hokd := HST.out.bs.dk.ok
            have hvd := Bs.of_own hbs2.own hokd.byte
            clear q0 q1 q2 hk2 hr2 hd2 hlow hrel2 HST QW HV hop
            obtain ⟨⟨b0, b1, b2, b3, b4⟩, f0, f1, f2, f3, f4⟩ := box5 hbx2
            cases res with
            | error er =>
              subst hans
              have hne := HOE.out er rfl
              go_wp2_with fail
              refine (hro.out w2 hvd).mono ?_
              rintro e w3 ⟨v3, n3, m3, u3, er3, rfl, hv3, hb3, hans3⟩
              obtain ⟨A', c', rfl, hbs3⟩ := beside_ref hbs2 hb3 hv3
              obtain ⟨rfl, rfl, rfl, rfl⟩ := hans3
              have hbx3 := heap_below hbx2 hb3
              have hby3 := heap_below hby2 hb3
              have hlg3 : LgAt w3 q p ⟨n, s, lb⟩ := heap_below hlg2 hb3
              have hbw3 := nxt hb2 hb3
              clear b0 b1 b2 b3 b4 f0 f1 f2 f3 f4
              obtain ⟨⟨b0, b1, b2, b3, b4⟩, f0, f1, f2, f3, f4⟩ := box5 hbx3
              have zg : g < w3.heap.size := lt_heap hbx3
              obtain ⟨h2, hh2⟩ : ∃ h2, h2 = w3.heap.size + 1 := ⟨_, rfl⟩
              obtain ⟨V, hV⟩ : ∃ V, V = ((((((w3.setCell ⟨g, 0, none⟩ (.int .i64 (d'.most : Int))).setCell ⟨g, 1, none⟩ (.slice A' d'.bs.length c')).setCell ⟨g, 2, none⟩ (.int .i64 (d'.syn : Int))).setCell ⟨g, 3, none⟩ (.int .i64 d'.num)).setCell ⟨g, 4, none⟩ (.bool d'.down)).alloc (.cells #[.int .i64 (d'.most : Int), .slice A' d'.bs.length c', .int .i64 (d'.syn : Int), .int .i64 d'.num, .bool d'.down] 62)).alloc (.cells #[.int .i64 0, .int .i64 0, .bool false] 69) := ⟨_, rfl⟩
              have e1 : (((((w3.setCell ⟨g, 0, none⟩ (.int .i64 (d'.most : Int))).setCell ⟨g, 1, none⟩ (.slice A' d'.bs.length c')).setCell ⟨g, 2, none⟩ (.int .i64 (d'.syn : Int))).setCell ⟨g, 3, none⟩ (.int .i64 d'.num)).setCell ⟨g, 4, none⟩ (.bool d'.down)).heap.size = w3.heap.size := put5_size (w := w3) g _ _ _ _ _
              have h3V : ∀ k (o : Obj), k ≠ g → w3.heap[k]? = some o → V.heap[k]? = some o := fun k o hk hh => by rw [hV]; exact heap_old (heap_old ((put5_ne hk _ _ _ _ _).trans hh) _) _
              have hst3 := st5_disk hbs3 hlg3 hlo hbx3 hby3 hbw3 hgw
              have hb5V : Below (((((w3.setCell ⟨g, 0, none⟩ (.int .i64 (d'.most : Int))).setCell ⟨g, 1, none⟩ (.slice A' d'.bs.length c')).setCell ⟨g, 2, none⟩ (.int .i64 (d'.syn : Int))).setCell ⟨g, 3, none⟩ (.int .i64 d'.num)).setCell ⟨g, 4, none⟩ (.bool d'.down)).heap.size (((((w3.setCell ⟨g, 0, none⟩ (.int .i64 (d'.most : Int))).setCell ⟨g, 1, none⟩ (.slice A' d'.bs.length c')).setCell ⟨g, 2, none⟩ (.int .i64 (d'.syn : Int))).setCell ⟨g, 3, none⟩ (.int .i64 d'.num)).setCell ⟨g, 4, none⟩ (.bool d'.down)) V := by rw [hV]; exact two _ _ _
              have hstV : St5 w V p g h q r2 d' n s lb A' c' := hst3.below hb5V
              have hV2 : V.heap[h2]? = some (.cells #[.int .i64 0, .int .i64 0, .bool false] 69 (0, 0)) := by rw [hV, hh2]; exact heap_new' _ _ _ (by simp [e1])
              have hnil : BlkS V (fun b => b < V.heap.size) none [] := fun i x hx => by simp at hx
              have HS := Lib.hid (samel_any none none 0 0 [] [] V _ _ true hnil hnil (fun _ h => h) (fun _ h => h) (by simp) (by simp))
              have t5 : ((er3 : Int) != 0) = true := bne_iff_ne.2 (by omega)
              have t5' : ((er3 : Int) == 0) = false := beq_eq_false_iff_ne.2 (by omega)
              have t6 : ((er3 : Int) != (er3 : Int)) = false := by simp
              have HN := Lib.hid lg_nils
              go_upto_region 27 with fail
              rw [← hV]
              clear hV e1 h3V hst3 hb5V hbs2 hbs3 hbx2 hbx3 hby2 hby3 hlg2 hlg3 hb2 hb3 hbw3 hvd b0 b1 b2 b3 b4 f0 f1 f2 f3 f4 zg hv3 hV2 hh2
              have hn1 := HN.out
              go_wp2_with fail
              refine HS.out.mono ?_
              rintro e w8 ⟨rfl, hb8⟩
              go_wp2_with fail
              go_meet
              exact ⟨0, rfl, rfl, q, r2, d', n, s, lb, A', c', rfl, hstV.below hb8, by omega, by omega⟩
            | ok ws =>
              have hww := HOO.out ws rfl
              obtain ⟨A5, c5, q', mm, rfl, hc5, hm5, hmq, hr5, hq5, hblk5, -⟩ := hans
              have hq'w : w.heap.size ≤ q' := Nat.le_trans hsW (Nat.le_trans hm5 hmq)
              have hmw : mm < w2.heap.size := Nat.lt_of_le_of_lt hmq (lt_heap hq5)
              clear hm5 hmq hr5
              go_wp2_with fail
              refine (hro.out w2 hvd).mono ?_
              rintro e w3 ⟨v3, n3, m3, u3, er3, rfl, hv3, hb3, hans3⟩
              obtain ⟨A', c', rfl, hbs3⟩ := beside_ref hbs2 hb3 hv3
              obtain ⟨rfl, rfl, rfl, vs3, hown3, hblk3⟩ := hans3
              obtain ⟨A6, c6, rfl, hc6⟩ := rows_form hown3
              have hw3 := BlkS.of_own hown3 hblk3
              have hbx3 := heap_below hbx2 hb3
              have hby3 := heap_below hby2 hb3
              have hlg3 : LgAt w3 q p ⟨n, s, lb⟩ := heap_below hlg2 hb3
              have hbw3 := nxt hb2 hb3
              clear b0 b1 b2 b3 b4 f0 f1 f2 f3 f4
              obtain ⟨⟨b0, b1, b2, b3, b4⟩, f0, f1, f2, f3, f4⟩ := box5 hbx3
              have zg : g < w3.heap.size := lt_heap hbx3
              obtain ⟨h2, hh2⟩ : ∃ h2, h2 = w3.heap.size + 1 := ⟨_, rfl⟩
              obtain ⟨V, hV⟩ : ∃ V, V = ((((((w3.setCell ⟨g, 0, none⟩ (.int .i64 (d'.most : Int))).setCell ⟨g, 1, none⟩ (.slice A' d'.bs.length c')).setCell ⟨g, 2, none⟩ (.int .i64 (d'.syn : Int))).setCell ⟨g, 3, none⟩ (.int .i64 d'.num)).setCell ⟨g, 4, none⟩ (.bool d'.down)).alloc (.cells #[.int .i64 (d'.most : Int), .slice A' d'.bs.length c', .int .i64 (d'.syn : Int), .int .i64 d'.num, .bool d'.down] 62)).alloc (.cells #[.int .i64 (ws.length : Int), .int .i64 ((lrecs ws).length : Int), .bool false] 69) := ⟨_, rfl⟩
              have e1 : (((((w3.setCell ⟨g, 0, none⟩ (.int .i64 (d'.most : Int))).setCell ⟨g, 1, none⟩ (.slice A' d'.bs.length c')).setCell ⟨g, 2, none⟩ (.int .i64 (d'.syn : Int))).setCell ⟨g, 3, none⟩ (.int .i64 d'.num)).setCell ⟨g, 4, none⟩ (.bool d'.down)).heap.size = w3.heap.size := put5_size (w := w3) g _ _ _ _ _
              have h3V : ∀ k (o : Obj), k ≠ g → w3.heap[k]? = some o → V.heap[k]? = some o := fun k o hk hh => by rw [hV]; exact heap_old (heap_old ((put5_ne hk _ _ _ _ _).trans hh) _) _
              have hst3 := st5_disk hbs3 hlg3 hlo hbx3 hby3 hbw3 hgw
              have hb5V : Below (((((w3.setCell ⟨g, 0, none⟩ (.int .i64 (d'.most : Int))).setCell ⟨g, 1, none⟩ (.slice A' d'.bs.length c')).setCell ⟨g, 2, none⟩ (.int .i64 (d'.syn : Int))).setCell ⟨g, 3, none⟩ (.int .i64 d'.num)).setCell ⟨g, 4, none⟩ (.bool d'.down)).heap.size (((((w3.setCell ⟨g, 0, none⟩ (.int .i64 (d'.most : Int))).setCell ⟨g, 1, none⟩ (.slice A' d'.bs.length c')).setCell ⟨g, 2, none⟩ (.int .i64 (d'.syn : Int))).setCell ⟨g, 3, none⟩ (.int .i64 d'.num)).setCell ⟨g, 4, none⟩ (.bool d'.down)) V := by rw [hV]; exact two _ _ _
              have hstV : St5 w V p g h q r2 d' n s lb A' c' := hst3.below hb5V
              have hV2 : V.heap[h2]? = some (.cells #[.int .i64 (ws.length : Int), .int .i64 ((lrecs ws).length : Int), .bool false] 69 (0, 0)) := by rw [hV, hh2]; exact heap_new' _ _ _ (by simp [e1])
              have hqV : LgAt V q' p (plOf ws) := h3V _ _ (ty_ne (heap_below hq5 hb3) hbx3 (by decide)) (heap_below hq5 hb3)
              have hsV : w3.heap.size ≤ V.heap.size := by have := hb5V.size; rw [e1] at this; exact this
              have hcV : ∀ z : Addr, z.block < w3.heap.size → z.block ≠ g → V.cell? z = w3.cell? z := fun z hz hne => cell_same (by rw [hV]; exact (Below.heap_alloc _ _ _ (by simp [e1]; omega)).trans ((Below.heap_alloc _ _ _ (by rw [e1]; exact hz)).trans (put5_ne hne _ _ _ _ _)))
              have hw23 := hb3.size
              have hgw2 : g < w2.heap.size := lt_heap hbx2
              have hbcV : BlkS V (fun z => z < V.heap.size) A5 ws := hblk5.keep (fun z hz => (hcV z (by have := hz.2; omega) (by have := hz.1; omega)).trans (hb3.cell (by have := hz.2; omega))) (fun b hb => by have := hb.2; omega)
              have hwV : BlkS V (fun z => z < V.heap.size) A6 ws := hw3.keep (fun z hz => hcV z hz.2 (by have := hz.1; omega)) (fun b hb => by have := hb.2; omega)
              have HS := Lib.hid (samel_any A5 A6 c5 c6 ws ws V _ _ true hbcV hwV (fun _ h => h) (fun _ h => h) (by omega) (by simp))
              have HN := Lib.hid (lg_nilr ⟨q', 0, none⟩)
              have hlh : h < w3.heap.size := lt_heap hby3
              have m1 : h ≠ h2 := by omega
              have m2 : h2 ≠ h := by omega
              have HVV := Lib.hid (show V.heap[h2]? = some (.cells #[.int .i64 (ws.length : Int), .int .i64 ((lrecs ws).length : Int), .bool false] 69 (0, 0)) ∧ LgAt V q' p (plOf ws) ∧ St5 w V p g h q r2 d' n s lb A' c' from ⟨hV2, hqV, hstV⟩)
              have hbn := Lib.hid (show ws.length ≤ 67108864 + (j + 1) ∧ (lrecs ws).length ≤ 67108864 + 208 * (j + 1) from ⟨by omega, by omega⟩)
              go_upto_region 27 with fail
              rw [← hV, ← hh2]
              clear hV e1 h3V hst3 hb5V hbs2 hbs3 hbx2 hbx3 hby2 hby3 hlg2 hlg3 hb2 hb3 hbw3 hvd b0 b1 b2 b3 b4 f0 f1 f2 f3 f4 zg hv3 hV2 hh2 hqV hstV hcV hsV hown3 hblk3 hw3 hblk5 hbcV hwV hq5 hww hlh hw23
              have hn1 := HN.out
              go_wp2_with fail
              refine HS.out.mono ?_
              rintro e w8 ⟨rfl, hb8⟩
              have hst8 := Lib.hid (HVV.out.2.2.below hb8)
              have hq8 := Lib.hid (heap_below HVV.out.2.1 hb8)
              obtain ⟨⟨y0, y1, y2⟩, -⟩ := box3r (heap_below HVV.out.1 hb8)
              obtain ⟨⟨l0, l1, l2⟩, fl0, fl1, fl2⟩ := box3r hst8.out.bl
              clear hn1 HN HS HVV hb8
              go_upto_region 30 with fail
              go_region
              all_goals
                go_wp2_with fail
                go_meet
                exact ⟨0, rfl, rfl, q', r2, d', ws.length, (lrecs ws).length, false, A', c', rfl, (st5_log hst8.out hq8.out hq'w hhw).below ((Below.refl _ _).drew), hbn.out.1, hbn.out.2⟩
        have u4 : (x.k == 4) = false := beq_eq_false_iff_ne.2 h4
        clear h4
        by_cases h5 : x.k = 5
        · have u5 : (x.k == 5) = true := by rw [h5]; rfl
          clear h5
          as_aux_lemma =>
            go_wp2_with fail
            refine (arm_any x.n hn1 HST.out.bs.dk).mono ?_
            rintro e w2 ⟨rfl, r2, hd2, hk2, hr2⟩
            have hbs2 := HST.out.bs.to hd2 hk2 hr2
            have hlow := HST.out.bs.dk.low hk2
            have hb2 := HST.out.bel.trans hlow
            have hrel3 := hrel2.trans hlow
            have hbx2 := keep_k HST.out.bs.dk hk2 HST.out.bx (by decide) (by decide)
            have hby2 := keep_k HST.out.bs.dk hk2 HST.out.bl (by decide) (by decide)
            have hq2 := keep_k HST.out.bs.dk hk2 QW.out (by decide) (by decide)
            have hlg2 : LgAt w2 q p ⟨n, s, lb⟩ := HST.out.lg.kr HST.out.bs.dk hk2
            have hlo := HST.out.lo
            have hokd := HST.out.bs.dk.ok
            have hvd := Bs.of_own hbs2.own hokd.byte
            have hvx := HV.out w2 hrel3
            clear q0 q1 q2 hk2 hr2 hd2 hlow hrel2 hrel3 HST QW HV
            obtain ⟨⟨b0, b1, b2, b3, b4⟩, f0, f1, f2, f3, f4⟩ := box5 hbx2
            obtain ⟨⟨l0, l1, l2⟩, fl0, fl1, fl2⟩ := box3r hby2
            have q0 := cell_block hq2 0
            have q1 := cell_block hq2 1
            have q2 := cell_block hq2 2
            go_wp2_with fail
            refine (refarm_any A c d x.n hn1 w2 hokd).mono ?_
            rintro e w3 ⟨v3, rfl, hv3, hb3⟩
            obtain ⟨A', c', rfl, hbs3⟩ := beside_ref hbs2 hb3 hv3
            have hbx3 := heap_below hbx2 hb3
            have hby3 := heap_below hby2 hb3
            have hlg3 : LgAt w3 q p ⟨n, s, lb⟩ := heap_below hlg2 hb3
            have hbw3 := nxt hb2 hb3
            clear hvd hvx hv3 hbs2 hb2 hbx2 hby2 hlg2 hq2 hokd
            clear b0 b1 b2 b3 b4 f0 f1 f2 f3 f4 l0 l1 l2 fl0 fl1 fl2 q0 q1 q2
            generalize d.arm x.n = d' at *
            obtain ⟨⟨b0, b1, b2, b3, b4⟩, ⟨f0, f1, f2, f3, f4⟩⟩ := box5 hbx3
            obtain ⟨X, hX⟩ : ∃ X, X = ((((w3.setCell ⟨g, 0, none⟩ (.int .i64 (d'.most : Int))).setCell ⟨g, 1, none⟩ (.slice A' d'.bs.length c')).setCell ⟨g, 2, none⟩ (.int .i64 (d'.syn : Int))).setCell ⟨g, 3, none⟩ (.int .i64 d'.num)).setCell ⟨g, 4, none⟩ (.bool d'.down) := ⟨_, rfl⟩
            have hstX : St5 w X p g h q r2 d' n s lb A' c' := by rw [hX]; exact st5_disk hbs3 hlg3 hlo hbx3 hby3 hbw3 hgw
            go_wp2_with fail
            rw [← hX]
            clear hX hbs3 hbx3 hby3 hlg3 hbw3 b0 b1 b2 b3 b4 f0 f1 f2 f3 f4 hb3
            go_meet
            exact ⟨0, rfl, rfl, q, r2, d', n, s, lb, A', c', rfl, hstX, by omega, by omega⟩
        have u5 : (x.k == 5) = false := beq_eq_false_iff_ne.2 h5
        clear h5
        by_cases h6 : x.k = 6
        · have u6 : (x.k == 6) = true := by rw [h6]; rfl
          clear h6
          as_aux_lemma =>
            go_wp2_with fail
            refine (crash_any x.n hn0 hn1 HST.out.bs.dk).mono ?_
            rintro e w2 ⟨rfl, r2, hd2, hk2, hr2⟩
            have hbs2 := HST.out.bs.to hd2 hk2 hr2
            have hlow := HST.out.bs.dk.low hk2
            have hb2 := HST.out.bel.trans hlow
            have hrel3 := hrel2.trans hlow
            have hbx2 := keep_k HST.out.bs.dk hk2 HST.out.bx (by decide) (by decide)
            have hby2 := keep_k HST.out.bs.dk hk2 HST.out.bl (by decide) (by decide)
            have hq2 := keep_k HST.out.bs.dk hk2 QW.out (by decide) (by decide)
            have hlg2 : LgAt w2 q p ⟨n, s, lb⟩ := HST.out.lg.kr HST.out.bs.dk hk2
            have hlo := HST.out.lo
            have hokd := HST.out.bs.dk.ok
            have hvd := Bs.of_own hbs2.own hokd.byte
            have hvx := HV.out w2 hrel3
            clear q0 q1 q2 hk2 hr2 hd2 hlow hrel2 hrel3 HST QW HV
            obtain ⟨⟨b0, b1, b2, b3, b4⟩, f0, f1, f2, f3, f4⟩ := box5 hbx2
            obtain ⟨⟨l0, l1, l2⟩, fl0, fl1, fl2⟩ := box3r hby2
            have q0 := cell_block hq2 0
            have q1 := cell_block hq2 1
            have q2 := cell_block hq2 2
            go_wp2_with fail
            refine (refcrash_any A c d x.n w2 hokd hvd).mono ?_
            rintro e w3 ⟨v3, rfl, hv3, hb3⟩
            obtain ⟨A', c', rfl, hbs3⟩ := beside_ref hbs2 hb3 hv3
            have hbx3 := heap_below hbx2 hb3
            have hby3 := heap_below hby2 hb3
            have hlg3 : LgAt w3 q p ⟨n, s, lb⟩ := heap_below hlg2 hb3
            have hbw3 := nxt hb2 hb3
            clear hvd hvx hv3 hbs2 hb2 hbx2 hby2 hlg2 hq2 hokd
            clear b0 b1 b2 b3 b4 f0 f1 f2 f3 f4 l0 l1 l2 fl0 fl1 fl2 q0 q1 q2
            generalize d.crash x.n = d' at *
            obtain ⟨⟨b0, b1, b2, b3, b4⟩, ⟨f0, f1, f2, f3, f4⟩⟩ := box5 hbx3
            obtain ⟨X, hX⟩ : ∃ X, X = ((((w3.setCell ⟨g, 0, none⟩ (.int .i64 (d'.most : Int))).setCell ⟨g, 1, none⟩ (.slice A' d'.bs.length c')).setCell ⟨g, 2, none⟩ (.int .i64 (d'.syn : Int))).setCell ⟨g, 3, none⟩ (.int .i64 d'.num)).setCell ⟨g, 4, none⟩ (.bool d'.down) := ⟨_, rfl⟩
            have hstX : St5 w X p g h q r2 d' n s lb A' c' := by rw [hX]; exact st5_disk hbs3 hlg3 hlo hbx3 hby3 hbw3 hgw
            go_wp2_with fail
            rw [← hX]
            clear hX hbs3 hbx3 hby3 hlg3 hbw3 b0 b1 b2 b3 b4 f0 f1 f2 f3 f4 hb3
            go_meet
            exact ⟨0, rfl, rfl, q, r2, d', n, s, lb, A', c', rfl, hstX, by omega, by omega⟩
        have u6 : (x.k == 6) = false := beq_eq_false_iff_ne.2 h6
        clear h6
        by_cases h7 : x.k = 7
        · have u7 : (x.k == 7) = true := by rw [h7]; rfl
          clear h7
          as_aux_lemma =>
            go_wp2_with fail
            refine (append_any _ x.b HST.out.bs.dk (HV.out W hrel2)).mono ?_
            rintro e w2 ⟨rfl, r2, hd2, hk2, hr2⟩
            have hbs2 := HST.out.bs.to hd2 hk2 hr2
            have hlow := HST.out.bs.dk.low hk2
            have hb2 := HST.out.bel.trans hlow
            have hrel3 := hrel2.trans hlow
            have hbx2 := keep_k HST.out.bs.dk hk2 HST.out.bx (by decide) (by decide)
            have hby2 := keep_k HST.out.bs.dk hk2 HST.out.bl (by decide) (by decide)
            have hq2 := keep_k HST.out.bs.dk hk2 QW.out (by decide) (by decide)
            have hlg2 : LgAt w2 q p ⟨n, s, lb⟩ := HST.out.lg.kr HST.out.bs.dk hk2
            have hlo := HST.out.lo
            have hokd := HST.out.bs.dk.ok
            have hvd := Bs.of_own hbs2.own hokd.byte
            have hvx := HV.out w2 hrel3
            clear q0 q1 q2 hk2 hr2 hd2 hlow hrel2 hrel3 HST QW HV
            obtain ⟨⟨b0, b1, b2, b3, b4⟩, f0, f1, f2, f3, f4⟩ := box5 hbx2
            obtain ⟨⟨l0, l1, l2⟩, fl0, fl1, fl2⟩ := box3r hby2
            have q0 := cell_block hq2 0
            have q1 := cell_block hq2 1
            have q2 := cell_block hq2 2
            go_wp2_with fail
            refine (refapp_any A c _ d x.b w2 hokd hvd hvx (by omega)).mono ?_
            rintro e w3 ⟨v3, rfl, hv3, hb3⟩
            obtain ⟨A', c', rfl, hbs3⟩ := beside_ref hbs2 hb3 hv3
            have hbx3 := heap_below hbx2 hb3
            have hby3 := heap_below hby2 hb3
            have hlg3 : LgAt w3 q p ⟨n, s, lb⟩ := heap_below hlg2 hb3
            have hbw3 := nxt hb2 hb3
            clear hvd hvx hv3 hbs2 hb2 hbx2 hby2 hlg2 hq2 hokd
            clear b0 b1 b2 b3 b4 f0 f1 f2 f3 f4 l0 l1 l2 fl0 fl1 fl2 q0 q1 q2
            generalize (d.app x.b).1 = d' at *
            generalize (d.app x.b).2 = z at *
            obtain ⟨⟨b0, b1, b2, b3, b4⟩, ⟨f0, f1, f2, f3, f4⟩⟩ := box5 hbx3
            obtain ⟨X, hX⟩ : ∃ X, X = ((((w3.setCell ⟨g, 0, none⟩ (.int .i64 (d'.most : Int))).setCell ⟨g, 1, none⟩ (.slice A' d'.bs.length c')).setCell ⟨g, 2, none⟩ (.int .i64 (d'.syn : Int))).setCell ⟨g, 3, none⟩ (.int .i64 d'.num)).setCell ⟨g, 4, none⟩ (.bool d'.down) := ⟨_, rfl⟩
            have hstX : St5 w X p g h q r2 d' n s lb A' c' := by rw [hX]; exact st5_disk hbs3 hlg3 hlo hbx3 hby3 hbw3 hgw
            go_wp2_with fail
            rw [← hX]
            clear hX hbs3 hbx3 hby3 hlg3 hbw3 b0 b1 b2 b3 b4 f0 f1 f2 f3 f4 hb3
            go_meet
            exact ⟨z, rfl, rfl, q, r2, d', n, s, lb, A', c', rfl, hstX, by omega, by omega⟩
        have u7 : (x.k == 7) = false := beq_eq_false_iff_ne.2 h7
        clear h7
        go_wp2_with fail
        go_meet
        exact ⟨0, rfl, rfl, q, r, d, n, s, lb, A, c, rfl, HST.out, by omega, by omega⟩
      case rest =>
      obtain ⟨z, rfl, rfl, q', r', d', n', s', lb', A', c', rfl, hst, hn', hs'⟩ := hcut
      clear HST QW HV q0 q1 q2 hrel2
      have HS := Lib.hid hst
      obtain ⟨⟨b0, b1, b2, b3, b4⟩, -⟩ := box5 hst.bx
      obtain ⟨⟨l0, l1, l2⟩, -⟩ := box3r hst.bl
      have tz : ((z : Int) != (z : Int)) = false := by simp
      have tn : ((n' : Int) != (n' : Int)) = false := by simp
      have ts : ((s' : Int) != (s' : Int)) = false := by simp
      have tb : ((d'.bs.length : Int) != (d'.bs.length : Int)) = false := by simp
      have ty : ((d'.syn : Int) != (d'.syn : Int)) = false := by simp
      have td : (d'.down != d'.down) = false := by simp
      have LN : Hid (∀ k, Calls Try.prog 44 #[.pointer (some ⟨q', 0, none⟩)] (wc.drewN k) fun e w' => e = .returned (.int .i64 (n' : Int)) ∧ w' = wc.drewN k) := fun k => (lg_len (w := wc.drewN k) hst.lg).mono fun e w' h => ⟨h.1, h.2.symm⟩
      have LB : Hid (∀ k, Calls Try.prog 45 #[.pointer (some ⟨q', 0, none⟩)] (wc.drewN k) fun e w' => e = .returned (.int .i64 (s' : Int)) ∧ w' = wc.drewN k) := fun k => (lg_bytes (w := wc.drewN k) hst.lg).mono fun e w' h => ⟨h.1, h.2.symm⟩
      have SZ : Hid (∀ k, Calls Try.prog 46 #[.pointer (some ⟨p, 0, none⟩)] (wc.drewN k) fun e w' => e = .returned (.int .i64 (d'.bs.length : Int)) ∧ w' = wc.drewN k) := fun k => (size_any (hst.bs.dk.drewN k)).mono fun e w' h => ⟨h.1, h.2.symm⟩
      have SY : Hid (∀ k, Calls Try.prog 47 #[.pointer (some ⟨p, 0, none⟩)] (wc.drewN k) fun e w' => e = .returned (.int .i64 (d'.syn : Int)) ∧ w' = wc.drewN k) := fun k => (synced_any (hst.bs.dk.drewN k)).mono fun e w' h => ⟨h.1, h.2.symm⟩
      have DN : Hid (∀ k, Calls Try.prog 48 #[.pointer (some ⟨p, 0, none⟩)] (wc.drewN k) fun e w' => e = .returned (.bool d'.down) ∧ w' = wc.drewN k) := fun k => (down_any (hst.bs.dk.drewN k)).mono fun e w' h => ⟨h.1, h.2.symm⟩
      clear hst
      go_wp2_with fail
      go_quiet (first | (go_at_call 44; exact Calls.quiet_of_same (LN.out _)) | (go_at_call 45; exact Calls.quiet_of_same (LB.out _)) | (go_at_call 46; exact Calls.quiet_of_same (SZ.out _)) | (go_at_call 47; exact Calls.quiet_of_same (SY.out _)) | (go_at_call 48; exact Calls.quiet_of_same (DN.out _)) | (fail))
      go_wp2_with fail
      go_roundw
      case rel => exact ⟨j + 1, by omega, by omega, by go_num, q', r', d', n', s', lb', A', c', rfl, HS.out.below (bel_drewN (Below.refl _ _) _), hn', hs'⟩
      case measure => simp [intOf]; omega
    · have hex : (¬ j < l.length ∧ decide ((j : Int) < (l.length : Int)) = false) ∨ (j < l.length ∧ decide ((j : Int) < (l.length : Int)) = true ∧ ¬ j < 50 ∧ decide ((j : Int) < 50) = false) := by
        by_cases h1 : j < l.length
        · exact .inr ⟨h1, decide_eq_true (by omega), fun h2 => hgo ⟨h1, h2⟩, decide_eq_false (fun h2 => hgo ⟨h1, by omega⟩)⟩
        · exact .inl ⟨h1, decide_eq_false (by omega)⟩
      clear hgo
      have hbr := hst.bel
      clear hst
      rcases hex with ⟨h1, s1⟩ | ⟨h1, s1, h2, s2⟩
      all_goals
        go_wp2_with fail
        refine (awake05_any _).mono ?_
        rintro e w7 ⟨rfl, hb9⟩
        go_wp2_with fail
        go_ret
        exact ⟨rfl, nxt hbr hb9⟩

set_option maxRecDepth 100000 in
theorem lifted (os : Os) (started : os.Started) (H : Type) (enc : TypeId × Value → H) :
    ReturnsInHanded {} Try.checked os 7 .any (Rows.logPlaysSpec.pre6 enc Try.prog Try.f7 Rows.logPlaysRow.domain false) (Rows.logPlaysSpec.post enc Try.prog Try.f7 false true false false) := by
  refine returnsInHanded_of_change (C := Try.checked) knob_own started (by kernel_rfl) Try.func7
    (ChangeSpec.witness6 (enc := enc) (C := Try.checked) false ⟨#[], #[.int .i64 0, .slice none 0 0], []⟩ 8 (by kernel_rfl) (by kernel_rfl) (by kernel_rfl) (by kernel_rfl)) ?_
  intro W base args ds gs before hval0 hW hcnd _
  have hval : ∀ (j : Nat) t v, Try.f7.params[j]? = some t → args[j]? = some v → Value.okWide Try.prog W .any base t v := hval0
  have hW' := hW
  obtain ⟨p, q, hA0, hV, rfl, hfz, hnd⟩ := hW
  have hA : DataW.TrodAll enc Try.prog W 0 (fun _ => true) true Try.f7.params.toList args.toList ds p := hA0
  rw [Try.params7] at hA hval
  obtain ⟨v0, vs0, d0, ds0, p0, q0, hargs, rfl, rfl, h0, r0⟩ := trodAll_cons hA
  obtain ⟨v1, vs1, d1, ds1, p1, q1, rfl, rfl, rfl, h1, r1⟩ := trodAll_cons r0
  obtain ⟨rfl, rfl, rfl⟩ := trodAll_nil r1
  obtain rfl : args = #[v0, v1] := by cases args; simp_all
  obtain ⟨rfl, rfl⟩ := trodVars_none hV
  have lt0 : ∀ x ∈ p0, x.block < W.heap.size := by obtain ⟨m, hm⟩ := h0; exact DataW.trod_lt m _ _ _ hm
  have k0 := h0
  obtain ⟨a0, rfl, _, _, w0⟩ := open_int Try.underlying3 (hval 0 3 v0 rfl rfl) h0
  obtain ⟨a1, n1, c1, rfl⟩ := okWide_slice Try.underlying57 (hval 1 57 v1 rfl rfl)
  have k1 := h1
  have lt1 : ∀ x ∈ p1, x.block < W.heap.size := by obtain ⟨m, hm⟩ := k1; exact DataW.trod_lt m _ _ _ hm
  have w1 := ops_open h1
  clear hA0 hval0
  refine (walk W a0 a1 n1 c1 w0 w1).mono fun e W' ⟨he, bel⟩ => ?_
  subst he
  exact ⟨_, rfl, _, _, _, [], _, [], hW', trodAll_mk1 (shut_bool Try.underlying4 _), (trodAll_cons_mk (Below.trod laid_out (by kernel_rfl) (of_decide_eq_true (by kernel_rfl)) k0 bel lt0) (trodAll_cons_mk (Below.trod laid_out (by kernel_rfl) (of_decide_eq_true (by kernel_rfl)) k1 bel lt1) (trodAll_mk0))), rfl, bel.frame _, fun h => by cases h⟩

theorem over : Rows.logPlaysRow.holds Try.pinned (OpenSpec.ofChange Rows.logPlaysSpec) :=
  OpenClaim.holds_of_wide 7 Try.f7 rfl rfl rfl rfl rfl rfl rfl ⟨rfl, rfl, rfl, rfl, rfl⟩ rfl rfl rfl rfl rfl (by kernel_rfl) Try.func7 (by kernel_rfl)
    (of_decide_eq_true (by kernel_rfl)) (by unfold Func.isWrapper; first | (rw [if_pos (by decide +kernel)]; kernel_rfl) | (rw [if_neg (by decide +kernel)]; exact ⟨rfl, rfl⟩))
    (fun os started H enc _ => lifted os started H enc)

theorem proved : Rows.LogPlaysSaid := over
end Go.Proofs.Ytjcefnlidophoaa.logPlays
