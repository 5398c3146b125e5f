/- Texts Oi, Oj, Ok of this seat in one: see each part. -/
import Derived.Test.YtjhopajhcmkllaaOh
namespace Go.Proofs.Ytjhopajhcmkllaa
open Go.RowKit
set_option linter.unusedVariables false

/-- A datagram is a packet that an end sent to the other. -/
def GrOk (k : Nat) (e f : Ep) (z : Gr) : Prop := ∃ p, z.d = pkb p ∧ ((z.to = ((1 - k : Nat) : Int) ∧ PkOk k e p) ∨ (z.to = (k : Int) ∧ PkOk (1 - k) f p))
structure Once (B h g i o : Nat) (x y : En) (rn : Option Nat) (L : List Gr) (wr : World) : Prop where
  A : Arena wr B g o x y
  N : NtAt wr B h rn 2 L
  e : EpOk (o / 5) x.e y.e
  f : EpOk (1 - o / 5) y.e x.e
  l : ∀ z ∈ L, GrOk (o / 5) x.e y.e z
  s : x.e.S.length ≤ i
  s' : y.e.S.length ≤ i
  v : x.lf = x.e.p.life ∧ x.lf ≤ i + 1
  v' : y.lf = y.e.p.life ∧ y.lf ≤ i + 1
def OnceI (B h g i : Nat) (w wr : World) : Prop := ∃ (x y : En) (rn : Option Nat) (L : List Gr), Once B h g i 0 x y rn L wr ∧ Below B w wr
section
variable {w wr w' : World} {B h g i o k : Nat} {x y : En} {rn : Option Nat} {L : List Gr} {e f : Ep} {z : Gr}
theorem GrOk.symm (hz : GrOk k e f z) (hk : k ≤ 1) : GrOk (1 - k) f e z := by
  obtain ⟨p, h1, h2 | h2⟩ := hz
  · exact ⟨p, h1, .inr ⟨h2.1, by rw [show 1 - (1 - k) = k by omega]; exact h2.2⟩⟩
  · exact ⟨p, h1, .inl ⟨by rw [show 1 - (1 - k) = k by omega]; exact h2.1, h2.2⟩⟩
theorem Once.k1 (h1 : Once B h g i o x y rn L wr) : o / 5 ≤ 1 ∧ (5 - o) / 5 = 1 - o / 5 := by
  have := h1.A.o5
  omega
theorem Once.symm (h1 : Once B h g i o x y rn L wr) : Once B h g i (5 - o) y x rn L wr := by
  obtain ⟨a, b⟩ := h1.k1
  refine ⟨h1.A.symm, h1.N, by rw [b]; exact h1.f, by rw [b, show 1 - (1 - o / 5) = o / 5 by omega]; exact h1.e, fun z hz => by rw [b]; exact (h1.l z hz).symm a, h1.s', h1.s, h1.v', h1.v⟩
theorem Once.to (h1 : Once B h g i o x y rn L wr) (hb : Below B w wr) : OnceI B h g i w wr := by
  rcases h1.A.o5 with rfl | rfl
  · exact ⟨_, _, _, _, h1, hb⟩
  · exact ⟨_, _, _, _, h1.symm, hb⟩
/-- The one whose turn it is. -/
theorem OnceI.at (h1 : OnceI B h g i w wr) (hk : k ≤ 1) : ∃ x y rn L, Once B h g i (5 * k) x y rn L wr ∧ Below B w wr := by
  obtain ⟨x, y, rn, L, h2, hb⟩ := h1
  rcases (show k = 0 ∨ k = 1 by omega) with rfl | rfl
  · exact ⟨x, y, rn, L, h2, hb⟩
  · exact ⟨y, x, rn, L, h2.symm, hb⟩
theorem OnceI.below (h1 : OnceI B h g i w wr) (hb : Below wr.heap.size wr w') (hB : B ≤ w.heap.size) : OnceI B h g i w w' := by
  obtain ⟨x, y, rn, L, h2, hb2⟩ := h1
  exact ⟨x, y, rn, L, ⟨h2.A.below hb, h2.N.below hb, h2.e, h2.f, h2.l, h2.s, h2.s', h2.v, h2.v'⟩, hb2.trans (hb.mono (Nat.le_trans hB hb2.size))⟩
theorem OnceI.drew (h1 : OnceI B h g i w wr) (hB : B ≤ w.heap.size) : OnceI B h g i w wr.drew := h1.below (Below.refl _ _).drew hB
theorem OnceI.next (h1 : OnceI B h g i w wr) : OnceI B h g (i + 1) w wr := by
  obtain ⟨x, y, rn, L, h2, hb2⟩ := h1
  exact ⟨x, y, rn, L, ⟨h2.A, h2.N, h2.e, h2.f, h2.l, Nat.le_succ_of_le h2.s, Nat.le_succ_of_le h2.s', ⟨h2.v.1, Nat.le_succ_of_le h2.v.2⟩, ⟨h2.v'.1, Nat.le_succ_of_le h2.v'.2⟩⟩, hb2⟩
/-- A call at the first one. -/
theorem Once.step {x' : En} (h1 : Once B h g i o x y rn L wr) (ha : Arena w' B g o x' y) (hf : Fr g x wr w' x') (he : EpOk (o / 5) x'.e y.e) (hf' : EpOk (1 - o / 5) y.e x'.e) (hp : ∀ p, PkOk (o / 5) x.e p → PkOk (o / 5) x'.e p) {i' : Nat} (hs : x'.e.S.length ≤ i') (hv : x'.lf = x'.e.p.life ∧ x'.lf ≤ i' + 1) (hi : i ≤ i') : Once B h g i' o x' y rn L w' := by
  refine ⟨ha, Fr.net h1.A hf h1.N, he, hf', fun z hz => ?_, hs, Nat.le_trans h1.s' hi, hv, ⟨h1.v'.1, Nat.le_trans h1.v'.2 (by omega)⟩⟩
  obtain ⟨p, e1, e2 | e2⟩ := h1.l z hz
  · exact ⟨p, e1, .inl ⟨e2.1, hp p e2.2⟩⟩
  · exact ⟨p, e1, .inr e2⟩
/-- A call of the net. -/
theorem Once.net {L' : List Gr} (h1 : Once B h g i o x y rn L wr) (ha : AfterN wr B h rn 2 L' w') (hl : ∀ z ∈ L', GrOk (o / 5) x.e y.e z) : ∃ rn', Once B h g i o x y rn' L' w' ∧ Below B wr w' := by
  obtain ⟨r', n1, k1, -⟩ := ha
  exact ⟨r', ⟨h1.A.net h1.N k1, n1, h1.e, h1.f, hl, h1.s, h1.s', h1.v, h1.v'⟩, h1.N.belowOf k1⟩
theorem OnceI.finish (h1 : OnceI B h g i w wr) (hk : k ≤ 1) (hi : i ≤ 150) (hB : B ≤ w.heap.size) :
    Calls Try.prog 31 #[.pointer (some ⟨g, 5 * k, none⟩)] wr fun e w' => e = .returned (.bool true) ∧ OnceI B h g i w w' := by
  obtain ⟨x, y, rn, L, h2, hb⟩ := h1.at hk
  have hs := h2.s
  have hs' := h2.s'
  refine (finish_one h2.A h2.e (by omega) (Nat.le_trans hB hb.size)).mono ?_
  rintro e w' ⟨rfl, x', e1, e2, a1, f1⟩
  obtain ⟨f0, -, -, -, f5⟩ := fin_S x.e
  refine ⟨rfl, (h2.step a1 f1 (by rw [e1]; exact fin_ok h2.e) (by rw [e1]; exact fin_other h2.f) (fun p hp => by rw [e1]; exact hp.fin) (by rw [e1, f0]; exact hs) ⟨by rw [e1, e2, f5]; exact h2.v.1, by rw [e2]; exact h2.v.2⟩ (Nat.le_refl _)).to (hb.trans (Fr.low h2.A f1))⟩
theorem OnceI.again (h1 : OnceI B h g i w wr) (hk : k ≤ 1) (hi : i ≤ 150) (hB : B ≤ w.heap.size) :
    Calls Try.prog 32 #[.pointer (some ⟨g, 5 * k, none⟩), .int .i64 (k : Int)] wr fun e w' => e = .returned (.bool true) ∧ OnceI B h g (i + 1) w w' := by
  obtain ⟨x, y, rn, L, h2, hb⟩ := h1.at hk
  have hs := h2.s
  have hs' := h2.s'
  have hv := h2.v.2
  have h5 : 5 * k / 5 = k := by omega
  have hE := h2.e
  have hF := h2.f
  rw [h5] at hE hF
  refine (again_one h2.A hE hk h2.v.1 (by omega) (by omega) (by omega) (Nat.le_trans hB hb.size)).mono ?_
  rintro e w' ⟨rfl, x', e1, e2, a1, f1⟩
  refine ⟨rfl, (h2.step a1 f1 (by rw [e1, h5]; exact anew_ok hE) (by rw [e1, h5]; exact anew_other hF) (fun p hp => by rw [e1]; exact hp.anew) (by rw [e1]; exact Nat.le_succ_of_le hs) ⟨by rw [e1, e2, h2.v.1]; rfl, by rw [e2]; omega⟩ (Nat.le_succ _)).to (hb.trans (Fr.low h2.A f1))⟩
/-- A box of a datagram stays. -/
theorem Fr.gram {x' : En} (h : Arena wr B g o x y) (k : Fr g x wr w' x') {j : Nat} {C : Array Value} (hj : wr.heap[j]? = some (.cells C 65 (0, 0))) : w'.heap[j]? = wr.heap[j]? := by
  obtain ⟨D, hD, _⟩ := h.X
  refine k.block j (lt_heap hj) ?_ (h.a.s.q_ne hj (by decide)) (h.a.s.row_ne hj (by decide)) (fun u hu e => ?_)
  · rintro rfl
    rw [hD] at hj
    simp at hj
  · obtain ⟨_, c', hc⟩ := h.a.row hu e
    rw [hj] at hc
    simp at hc
def Gk (w w' : World) : Prop := ∀ (j : Nat) (C : Array Value), w.heap[j]? = some (.cells C 65 (0, 0)) → w'.heap[j]? = w.heap[j]?
theorem Once.take (h2 : Once B h g i o x y rn L wr) (hb : Below B w wr) (hi : i ≤ 150) (hB : B ≤ w.heap.size) {p : Pk} {v : Value} (hv : Bx wr B v (pkb p)) (acc : Bool) (hpk : PkOk (1 - o / 5) y.e p) :
    Calls Try.prog 28 #[.pointer (some ⟨g, o, none⟩), v, .bool acc] wr fun e w' => e = .returned (.bool true) ∧ OnceI B h g i w w' ∧ Gk wr w' := by
  obtain ⟨hk, -⟩ := h2.k1
  have hs := h2.s
  have hs' := h2.s'
  have hv1 := h2.v
  have hv2 := h2.v'
  have hE := h2.e
  have hF := h2.f
  have hD := pre_len hF
  refine (take_one h2.A hE hF hk hpk (hpk.right (by omega) (by omega) (by omega) (by omega) hF.short) v hv acc (by omega) (by omega) (Nat.le_trans hB hb.size)).mono ?_
  rintro e w' ⟨rfl, x', e1, e2, a1, f1⟩
  obtain ⟨g1, -, -, g4, -, -⟩ := got_S x.e p acc
  refine ⟨rfl, (h2.step a1 f1 (by rw [e1]; exact got_ok hE hF hk hpk acc) (by rw [e1]; exact got_other hF acc) (fun q hq => by rw [e1]; exact hq.got acc) (by rw [e1, g1]; exact hs) ⟨by rw [e1, e2, g4]; exact h2.v.1, by rw [e2]; exact h2.v.2⟩ (Nat.le_refl _)).to (hb.trans (Fr.low h2.A f1)), fun j C hj => Fr.gram h2.A f1 hj⟩
theorem Once.below (h2 : Once B h g i o x y rn L wr) (hb : Below wr.heap.size wr w') : Once B h g i o x y rn L w' := ⟨h2.A.below hb, h2.N.below hb, h2.e, h2.f, h2.l, h2.s, h2.s', h2.v, h2.v'⟩
theorem nth_at (L : List Gr) (k : Nat) (x : Gr) (hx : L[k]? = some x) : nthG L (k : Int) = some x := by unfold nthG; rw [if_pos (by omega)]; simpa using hx
theorem drop_sub (L : List Gr) (j : Int) : ∀ z ∈ dropL L j, z ∈ L := fun z hz => by
  unfold dropL at hz
  split at hz
  · exact List.mem_of_mem_eraseIdx hz
  · exact hz
theorem copy_sub (L : List Gr) (j : Int) : (∀ z ∈ copyL L j, z ∈ L) ∧ L.length ≤ (copyL L j).length := by
  unfold copyL
  split
  · exact ⟨fun z hz => hz, Nat.le_refl _⟩
  · split
    · exact ⟨fun z hz => hz, Nat.le_refl _⟩
    · rename_i x hx
      refine ⟨fun z hz => ?_, by simp⟩
      rcases List.mem_append.1 hz with h1 | h1
      · exact h1
      · simp at h1
        subst h1
        unfold nthG at hx
        split at hx
        · exact List.mem_of_getElem? hx
        · cases hx
/-- A datagram is taken from the net; its end takes it then. -/
theorem Once.netTake (h2 : Once B h g i 0 x y rn L wr) (hb : Below B w wr) (hi : i ≤ 150) (hB : B ≤ w.heap.size) (j : Nat) (hj : j < L.length) :
    Calls Try.prog 27 #[.pointer (some ⟨h, 0, none⟩), .int .i64 (j : Int)] wr fun e w1 => ∃ (fr : Int) (k l : Nat) (A : Option Addr) (c : Nat), k ≤ 1 ∧ e = .returned (.tuple #[.agg #[.int .i64 fr, .int .i64 (k : Int), .slice A l c], .bool true]) ∧
      ∀ w2, Below w1.heap.size w1 w2 → ∀ acc, Calls Try.prog 28 #[.pointer (some ⟨g, 5 * k, none⟩), .slice A l c, .bool acc] w2 fun e w' => e = .returned (.bool true) ∧ OnceI B h g i w w' ∧ Gk w2 w' := by
  refine (take_any h2.N (j : Int)).mono ?_
  have hz : L[j]? = some L[j] := List.getElem?_eq_getElem hj
  generalize L[j] = z at hz
  rintro e w1 ⟨a1, t1⟩
  rw [nth_at L j z hz] at t1
  obtain ⟨b, c, cur, fr, rfl, hwb, hh, hbs, -⟩ := t1
  obtain ⟨rn', h3, hb3⟩ := h2.net a1 (fun z hz => h2.l z (drop_sub _ _ z hz))
  have hX : Bx w1 B (.slice (some ⟨b, 0, none⟩) z.d.length c) z.d := Bx.of_blk7 hbs hh
  obtain ⟨p, e1, e2 | e2⟩ := h2.l z (List.mem_of_getElem? hz)
  · have hX' : Bx w1 B (.slice (some ⟨b, 0, none⟩) z.d.length c) (pkb p) := by have h := hX; rw [e1] at h ⊢; exact h
    refine ⟨z.fr, 1, z.d.length, _, c, Nat.le_refl _, by rw [e2.1], fun w2 hw2 acc => ?_⟩
    have h4 := (h3.below hw2).symm
    have := h4.take (w := w) (p := p) (hb.trans (hb3.trans (hw2.mono (by have := hb3.size; have := hb.size; omega)))) hi hB (Bx.below hX' hw2) acc e2.2
    exact this
  · have hX' : Bx w1 B (.slice (some ⟨b, 0, none⟩) z.d.length c) (pkb p) := by have h := hX; rw [e1] at h ⊢; exact h
    refine ⟨z.fr, 0, z.d.length, _, c, Nat.zero_le _, by rw [e2.1], fun w2 hw2 acc => ?_⟩
    have h4 := h3.below hw2
    have := h4.take (w := w) (p := p) (hb.trans (hb3.trans (hw2.mono (by have := hb3.size; have := hb.size; omega)))) hi hB (Bx.below hX' hw2) acc e2.2
    exact this
theorem Once.netCopy (h2 : Once B h g i o x y rn L wr) (j : Int) :
    Calls Try.prog 29 #[.pointer (some ⟨h, 0, none⟩), .int .i64 j] wr fun e w1 => (∃ E : Nat, e = .returned (.int .i64 (E : Int))) ∧ ∃ rn' L', L.length ≤ L'.length ∧ Once B h g i o x y rn' L' w1 ∧ Below B wr w1 := by
  refine (copy_any6 h2.N j).mono ?_
  rintro e w1 ⟨rfl, a1⟩
  obtain ⟨k1, k2⟩ := copy_sub L j
  obtain ⟨rn', h3, hb3⟩ := h2.net a1 (fun z hz => h2.l z (k1 z hz))
  exact ⟨⟨_, rfl⟩, rn', _, k2, h3, hb3⟩
theorem Once.netDrop (h2 : Once B h g i o x y rn L wr) (hb : Below B w wr) (j : Int) :
    Calls Try.prog 30 #[.pointer (some ⟨h, 0, none⟩), .int .i64 j] wr fun e w1 => (∃ b : Bool, e = .returned (.bool b)) ∧ OnceI B h g i w w1 := by
  refine (drop_any h2.N j).mono ?_
  rintro e w1 ⟨rfl, a1⟩
  obtain ⟨rn', h3, hb3⟩ := h2.net a1 (fun z hz => h2.l z (drop_sub _ _ z hz))
  exact ⟨⟨_, rfl⟩, h3.to (hb.trans hb3)⟩
/-- Some of what the first one sends have gone to the net. -/
def OnceJ (B h g i o : Nat) (x y : En) (v : Value) (w wz : World) : Prop := ∃ rn L b, Once B h g i o x y rn L wz ∧ RB wz b v x.e.p.packets ∧ Below B w wz
theorem OnceJ.to {v : Value} (h1 : OnceJ B h g i o x y v w wr) : OnceI B h g i w wr := by
  obtain ⟨rn, L, b, h2, -, hb⟩ := h1
  exact h2.to hb
theorem OnceJ.send {A : Option Addr} {n c t : Nat} (h1 : OnceJ B h g i o x y (.slice A n c) w wr) (ht : t < x.e.p.items.length) : ∃ (g2 : Nat) (Ax : Option Addr) (l cx : Nat), A = some ⟨g2, 0, none⟩ ∧ g2 < wr.heap.size ∧ wr.cell? ⟨g2, t, none⟩ = some (.slice Ax l cx) ∧
    Calls Try.prog 25 #[.pointer (some ⟨h, 0, none⟩), .int .i64 ((o / 5 : Nat) : Int), .int .i64 ((1 - o / 5 : Nat) : Int), .slice Ax l cx] wr fun e w1 => (∃ E : Nat, e = .returned (.int .i64 (E : Int))) ∧ OnceJ B h g i o x y (.slice A n c) w w1 := by
  obtain ⟨rn, L, b, h2, hv, hb⟩ := h1
  have hy : x.e.p.items[t]? = some x.e.p.items[t] := List.getElem?_eq_getElem ht
  generalize x.e.p.items[t] = u at hy
  have hpk := send_ok7 h2.e hy
  have hx : x.e.p.packets[t]? = some (pkb (x.e.p.pkt u.1 u.2)) := by
    rw [Se.packets_items, List.getElem?_map, hy]
    rfl
  obtain ⟨g2, Ax, cx, hA, hg, hc, hbx⟩ := hv.cell hx
  refine ⟨g2, Ax, _, cx, hA, hg, hc, (send_any h2.N _ _ _ _ hbx.bs).mono ?_⟩
  rintro e w1 ⟨rfl, a1⟩
  have hk := a1
  obtain ⟨r', -, k1, -⟩ := hk
  obtain ⟨rn', h3, hb3⟩ := h2.net a1 (fun z hz => by
    unfold sendL at hz
    split at hz
    · rcases List.mem_append.1 hz with h4 | h4
      · exact h2.l z h4
      · simp at h4
        subst h4
        exact ⟨_, rfl, .inl ⟨rfl, hpk⟩⟩
    · exact h2.l z hz)
  refine ⟨⟨_, rfl⟩, rn', _, b, h3, hv.keep k1.size (fun j hj => ?_) (fun b cur fr hb => k1.block b (lt_heap hb) (h2.N.q_ne hb (by decide)) (h2.N.row_ne hb (by decide))), hb.trans hb3⟩
  obtain ⟨_, cur, hcur⟩ := hv.blk hj
  exact k1.block j (lt_heap hcur) (h2.N.q_ne hcur (by decide)) (h2.N.row_ne hcur (by decide))
theorem OnceJ.start {v : Value} (h2 : Once B h g i o x y rn L wr) (hb : Below B w wr) (hB : B ≤ w.heap.size) (hv : RB w' wr.heap.size v x.e.p.packets) (hb' : Below wr.heap.size wr w') : OnceJ B h g i o x y v w w' :=
  ⟨rn, L, _, h2.below hb', hv, hb.trans (hb'.mono (Nat.le_trans hB hb.size))⟩
/-- The two rows that begins compares. -/
theorem Once.rows (h2 : Once B h g i o x y rn L wr) : ∃ A n c A' m c', x.vD = .slice A n c ∧ y.vS = .slice A' m c' ∧ n = x.e.D.length ∧ m = y.e.S.length ∧ m ≤ c' ∧ c' ≤ maxLen ∧ RB wr B (.slice A n c) x.e.D ∧ RB wr B (.slice A' m c') y.e.S ∧ x.e.D <+: y.e.S := by
  have hD := h2.A.a.rD
  have hS := h2.A.b.rS
  obtain ⟨A, c, e1, -, -⟩ := hD.slice
  obtain ⟨A', c', e2, e3, e4⟩ := hS.slice
  rw [e1] at hD
  rw [e2] at hS
  exact ⟨A, _, c, A', _, c', e1, e2, rfl, rfl, e3, e4, hD, hS, (List.prefix_append _ _).trans h2.e.pre⟩
end
end Go.Proofs.Ytjhopajhcmkllaa
namespace Go.Proofs.Ytjhopajhcmkllaa
open Go.RowKit
set_option linter.unusedVariables false

def cell5 (q : Option Addr) (l : Int) : Array Value := #[.pointer q, .int .i64 l, .slice none 0 0, .slice none 0 0, .slice none 0 0]
def FillI (w : World) (h g : Nat) (i : Value) (wr : World) : Prop :=
  NtAt wr w.heap.size h none 2 [] ∧ Below w.heap.size w wr ∧ w.heap.size ≤ g ∧
  ((i = .int .i64 0 ∧ wr.heap[g]? = some (.cells #[.pointer none, .int .i64 0, .slice none 0 0, .slice none 0 0, .slice none 0 0, .pointer none, .int .i64 0, .slice none 0 0, .slice none 0 0, .slice none 0 0] 60 (0, 0))) ∨
   (i = .int .i64 1 ∧ ∃ q r, SeAt wr w.heap.size q r (se0 0 1 1) ∧ wr.heap[g]? = some (.cells #[.pointer (some ⟨q, 0, none⟩), .int .i64 1, .slice none 0 0, .slice none 0 0, .slice none 0 0, .pointer none, .int .i64 0, .slice none 0 0, .slice none 0 0, .slice none 0 0] 60 (0, 0))) ∨
   (i = .int .i64 2 ∧ ∃ q r q' r', SeAt wr w.heap.size q r (se0 0 1 1) ∧ SeAt wr w.heap.size q' r' (se0 1 0 1) ∧ q ≠ q' ∧ Apart r r' ∧ wr.heap[g]? = some (.cells #[.pointer (some ⟨q, 0, none⟩), .int .i64 1, .slice none 0 0, .slice none 0 0, .slice none 0 0, .pointer (some ⟨q', 0, none⟩), .int .i64 1, .slice none 0 0, .slice none 0 0, .slice none 0 0] 60 (0, 0))))
theorem ep0_ok {k l : Nat} (hl : l = 1 - k) : EpOk k ⟨se0 k l 1, [], [], []⟩ ⟨se0 l k 1, [], [], []⟩ := by
  subst hl
  refine ⟨rfl, rfl, Nat.le_refl 1, rfl, rfl, Nat.le_refl 0, rfl, rfl, Nat.zero_le _, ?_, Nat.le_refl 0, fun d hd => ?_⟩
  · exact List.nil_prefix
  · exact absurd hd (by simp)
theorem FillI.done {w wr : World} {h g : Nat} (hf : FillI w h g (.int .i64 2) wr) : OnceI w.heap.size h g 0 w wr := by
  obtain ⟨hn, hb, hg, ⟨e, -⟩ | ⟨e, -⟩ | ⟨-, q, r, q', r', s1, s2, hq, hr, hh⟩⟩ := hf
  · simp at e
  · simp at e
  · refine ⟨⟨q, r, .slice none 0 0, .slice none 0 0, .slice none 0 0, 1, ⟨se0 0 1 1, [], [], []⟩⟩, ⟨q', r', .slice none 0 0, .slice none 0 0, .slice none 0 0, 1, ⟨se0 1 0 1, [], [], []⟩⟩, none, [], ⟨⟨.inl rfl, hg, ⟨_, hh, rfl, ⟨rfl, rfl, rfl, rfl, rfl⟩, ⟨rfl, rfl, rfl, rfl, rfl⟩⟩, ⟨s1, RB.nil _ _, RB.nil _ _, RB.nil _ _, Apart.none, Apart.none, Apart.none⟩, ⟨s2, RB.nil _ _, RB.nil _ _, RB.nil _ _, Apart.none, Apart.none, Apart.none⟩, hq, hr, fun u hu v hv => ?_⟩, hn, ep0_ok rfl, ep0_ok rfl, by simp, Nat.le_refl 0, Nat.le_refl 0, ⟨rfl, Nat.le_refl 1⟩, ⟨rfl, Nat.le_refl 1⟩⟩, hb⟩
    simp [En.rows] at hu
    subst hu
    exact Apart.none
section
variable {w w' : World} {B g h q N : Nat} {r : Option Nat} {p : Se} {L : List Gr} {C : Array Value}
theorem SeAt.kp7 (hs : SeAt w B q r p) (k : Kp g w w') (hg : w.heap[g]? = some (.cells C 60 (0, 0))) : SeAt w' B q r p := by
  have hT : ∀ (k : Nat) (C' : Array Value) (T : TypeId) (fr : Nat × Nat), w.heap[k]? = some (.cells C' T fr) → T ≠ 60 → w'.heap[k]? = w.heap[k]? := fun j C' T fr hC hT => by
    refine k.block j (lt_heap hC) (fun e => ?_)
    obtain rfl := Option.some.inj e
    rw [hg] at hC
    simp at hC
    exact hT hC.2.1.symm
  refine hs.keep k.size ?_ (fun j hj => ?_) (fun b cur fr hb => hT b cur _ fr hb (by decide))
  · obtain ⟨C, hC⟩ := hs.q_blk
    exact hT _ _ _ _ hC (by decide)
  · obtain ⟨C, hC⟩ := hs.r_blk hj
    exact hT _ _ _ _ hC (by decide)
theorem NtAt.kp7 (hn : NtAt w B h none N L) (k : Kp g w w') (hg : w.heap[g]? = some (.cells C 60 (0, 0))) : NtAt w' B h none N L :=
  hn.other (k.block h hn.lt (fun e => hn.q_ne hg (by decide) (Option.some.inj e).symm)) (fun j hj => by cases hj)
def st5 (w : World) (g o : Nat) (v0 v1 v2 v3 v4 : Value) : World := ((((w.setCell ⟨g, o, none⟩ v0).setCell ⟨g, o + 1, none⟩ v1).setCell ⟨g, o + 2, none⟩ v2).setCell ⟨g, o + 3, none⟩ v3).setCell ⟨g, o + 4, none⟩ v4
theorem st5_kp (w : World) (g o : Nat) (v0 v1 v2 v3 v4 : Value) : Kp g w (st5 w g o v0 v1 v2 v3 v4) := (((((Kp.refl g w).set rfl _).set rfl _).set rfl _).set rfl _).set rfl _
theorem st5_heap (hx : w.heap[g]? = some (.cells C 60 (0, 0))) (o : Nat) (v0 v1 v2 v3 v4 : Value) : (st5 w g o v0 v1 v2 v3 v4).heap[g]? = some (.cells (((((C.setIfInBounds o v0).setIfInBounds (o + 1) v1).setIfInBounds (o + 2) v2).setIfInBounds (o + 3) v3).setIfInBounds (o + 4) v4) 60 (0, 0)) :=
  heap_set (heap_set (heap_set (heap_set (heap_set hx _ _) _ _) _ _) _ _) _ _
theorem Kp.low {B : Nat} (k : Kp g w w') (hB : B ≤ g) (hw : B ≤ w.heap.size) : Below B w w' := ⟨k.os, k.tape, k.output, k.size, fun j hj => k.block j (by omega) (fun e => by have := Option.some.inj e; omega)⟩
end
theorem FillI.one {w wr w1 : World} {h g q : Nat} {r : Option Nat} (hn : NtAt wr w.heap.size h none 2 []) (hb : Below w.heap.size w wr) (hg : w.heap.size ≤ g) (hx : w1.heap[g]? = some (.cells #[.pointer none, .int .i64 0, .slice none 0 0, .slice none 0 0, .slice none 0 0, .pointer none, .int .i64 0, .slice none 0 0, .slice none 0 0, .slice none 0 0] 60 (0, 0)))
    (hs : SeAt w1 wr.heap.size q r (se0 0 1 1)) (hb1 : Below wr.heap.size wr w1) : FillI w h g (.int .i64 1) (st5 w1 g 0 (.pointer (some ⟨q, 0, none⟩)) (.int .i64 1) (.slice none 0 0) (.slice none 0 0) (.slice none 0 0)) := by
  have k := st5_kp w1 g 0 (.pointer (some ⟨q, 0, none⟩)) (.int .i64 1) (.slice none 0 0) (.slice none 0 0) (.slice none 0 0)
  have h1 := hb.size
  have h2 := hb1.size
  refine ⟨(hn.below hb1).kp7 k hx, (hb.trans (hb1.mono h1)).trans (k.low hg (by omega)), hg, .inr (.inl ⟨rfl, q, r, (hs.mono h1).kp7 k hx, st5_heap hx 0 _ _ _ _ _⟩)⟩
theorem FillI.two {w wr w1 : World} {h g q q' : Nat} {r r' : Option Nat} (hn : NtAt wr w.heap.size h none 2 []) (hb : Below w.heap.size w wr) (hg : w.heap.size ≤ g) (hs0 : SeAt wr w.heap.size q r (se0 0 1 1)) (hx : w1.heap[g]? = some (.cells #[.pointer (some ⟨q, 0, none⟩), .int .i64 1, .slice none 0 0, .slice none 0 0, .slice none 0 0, .pointer none, .int .i64 0, .slice none 0 0, .slice none 0 0, .slice none 0 0] 60 (0, 0)))
    (hs : SeAt w1 wr.heap.size q' r' (se0 1 0 1)) (hb1 : Below wr.heap.size wr w1) : FillI w h g (.int .i64 2) (st5 w1 g 5 (.pointer (some ⟨q', 0, none⟩)) (.int .i64 1) (.slice none 0 0) (.slice none 0 0) (.slice none 0 0)) := by
  have k := st5_kp w1 g 5 (.pointer (some ⟨q', 0, none⟩)) (.int .i64 1) (.slice none 0 0) (.slice none 0 0) (.slice none 0 0)
  have h1 := hb.size
  have h2 := hb1.size
  have h3 := hs0.lt
  have h4 := hs.low
  refine ⟨(hn.below hb1).kp7 k hx, (hb.trans (hb1.mono h1)).trans (k.low hg (by omega)), hg, .inr (.inr ⟨rfl, q, r, q', r', (hs0.below hb1).kp7 k hx, (hs.mono h1).kp7 k hx, by omega, fun j k1 k2 => ?_, st5_heap hx 5 _ _ _ _ _⟩)⟩
  have := (hs0.row_lt k1).2
  have := (hs.row_lt k2).1
  omega
def CutB (B : Nat) (s : Value) (w : World) : Prop := ∃ d : List Nat, d.length ≤ 20 ∧ (∀ y ∈ d, y < 256) ∧ Bx w B s d
end Go.Proofs.Ytjhopajhcmkllaa
namespace Go.Proofs.Ytjhopajhcmkllaa
open Go.RowKit
set_option linter.unusedVariables false

section
variable {w wr w' w2 w3 : World} {B h g i o : Nat} {x y x1 : En} {rn : Option Nat} {L : List Gr} {d : List Nat}
/-- The first one behind its session's Send. -/
structure Sent (B g o : Nat) (x y x1 : En) (d : List Nat) (wr w1 : World) : Prop where
  e : x1.e = ⟨{ x.e.p with last := x.e.p.last + 1, ds := x.e.p.ds ++ [d] }, x.e.S, x.e.D, x.e.A⟩
  lf : x1.lf = x.lf
  q : x1.q = x.q
  vS : x1.vS = x.vS
  A : Arena w1 B g o x1 y
  F : Fr g x wr w1 x1
theorem Sent.below (h1 : Sent B g o x y x1 d wr w2) (hb : Below w2.heap.size w2 w3) : Sent B g o x y x1 d wr w3 := ⟨h1.e, h1.lf, h1.q, h1.vS, h1.A.below hb, h1.F.trans (Fr.of_below hb)⟩
theorem Once.sent (h2 : Once B h g i o x y rn L wr) (hi : i ≤ 150) (hd : d.length ≤ 20) (hB : B ≤ wr.heap.size) {v : Value} (hv : Bx wr B v d) :
    Calls Try.prog 17 #[.pointer (some ⟨x.q, 0, none⟩), v] wr fun e w1 => (∃ n : Nat, e = .returned (.tuple #[.int .i64 (n : Int), .int .i64 0])) ∧ ∃ x1, Sent B g o x y x1 d wr w1 := by
  have h3 := h2.s
  have h4 := h2.e.last
  have h5 := h2.e.few
  have hE : x.e.p.sendE d = 0 := by unfold Se.sendE; rw [if_neg (by omega), if_neg (by omega)]
  refine (ssend_any h2.A.a.s v d hv (by omega) hB).mono ?_
  rintro e w1 ⟨rfl, r1, hs1, hk1, hw1⟩
  have hs : x.e.p.send d = { x.e.p with last := x.e.p.last + 1, ds := x.e.p.ds ++ [d] } := by unfold Se.send; rw [if_pos hE]
  rw [hs] at hs1
  have ha := h2.A.sess hs1 hk1 hw1 rfl
  refine ⟨⟨_, by rw [hE]; rfl⟩, _, ⟨?_, ?_, ?_, ?_, ha, Fr.sess hk1 hw1⟩⟩
  all_goals rfl
theorem Once.putS (h2 : Once B h g i o x y rn L wr) (hb : Below B w wr) (hd : d.length ≤ 20 ∧ ∀ y ∈ d, y < 256) (h1 : Sent B g o x y x1 d wr w2) {v' : Value} (hv : RB w3 B v' (x.e.S ++ [d])) (hg : w2.grownBy w3 x.vS.ownBlock) (hr : v'.ownBlock = x.vS.ownBlock ∨ v'.ownBlock = some w2.heap.size) :
    OnceI B h g (i + 1) w (w3.setCell ⟨g, o + 2, none⟩ v') := by
  have eS : x1.e.S = x.e.S := by rw [h1.e]
  have ha := h1.A.addS (v' := v') (d := d) (w' := w3) (by rw [eS]; exact hv) (by rw [h1.vS]; exact hg) (by rw [h1.vS]; exact hr)
  have hf := h1.F.trans ha.2
  have he : ({ x1 with vS := v', e := { x1.e with S := x1.e.S ++ [d] } } : En).e = x.e.put d := by
    show (⟨x1.e.p, x1.e.S ++ [d], x1.e.D, x1.e.A⟩ : Ep) = _
    rw [h1.e]
    rfl
  have hs := h2.s
  refine (h2.step ha.1 hf (by rw [he]; exact put_ok h2.e hd) (by rw [he]; exact put_other h2.f d) (fun p hp => by rw [he]; exact hp.put d) (by rw [he]; show (x.e.S ++ [d]).length ≤ i + 1; rw [List.length_append]; simp; omega) ⟨?_, ?_⟩ (Nat.le_succ i)).to (hb.trans (Fr.low h2.A hf))
  · rw [he]
    show x1.lf = x.e.p.life
    rw [h1.lf]; exact h2.v.1
  · show x1.lf ≤ i + 1 + 1
    rw [h1.lf]; have := h2.v.2; omega
end
end Go.Proofs.Ytjhopajhcmkllaa
