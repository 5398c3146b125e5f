/- Texts Ob, Oc of this seat in one: see each part. -/
import Derived.Test.YtjhopajhcmkllaaSop
namespace Go.Proofs.Ytjhopajhcmkllaa
set_option linter.unusedVariables false

/-- One end: its session, its life; what it sent, what is done, what was accepted. -/
structure Ep where
  p : Se
  S : List (List Nat)
  D : List (List Nat)
  A : List (List Nat)
/-- One end, of node k. -/
structure EpOk (k : Nat) (e o : Ep) : Prop where
  node : e.p.node = k
  peer : e.p.peer = 1 - k
  life : 1 ≤ e.p.life
  last : e.p.last = e.S.length
  ds : e.p.ds = e.S.drop (e.p.last - e.p.ds.length)
  few : e.p.ds.length ≤ e.p.last
  done : e.p.done = e.D.length
  acc : e.p.acc = e.D.length + e.A.length
  pl : e.p.pl ≤ o.p.life
  pre : e.D ++ e.A <+: o.S
  ack : e.p.last - e.p.ds.length ≤ o.D.length
  short : ∀ d ∈ e.S, d.length ≤ 20 ∧ ∀ y ∈ d, y < 256
/-- A packet that end k sent. -/
structure PkOk (k : Nat) (e : Ep) (x : Pk) : Prop where
  f : x.f = k
  l : x.l ≤ e.p.life
  a : x.a ≤ e.D.length
  d : (x.s = 0 ∧ x.d = []) ∨ (1 ≤ x.s ∧ e.S[x.s - 1]? = some x.d)
section
variable {k : Nat} {e o : Ep} {x : Pk}
theorem PkOk.right (h : PkOk k e x) (hk : k ≤ 1) (hl : e.p.life ≤ 1000) (hS : e.S.length ≤ 1000) (hD : e.D.length ≤ 1000) (hs : ∀ d ∈ e.S, d.length ≤ 20 ∧ ∀ y ∈ d, y < 256) : pright x = true := by
  obtain ⟨h1, h2, h3, h4⟩ := h
  have hd : x.s ≤ 1000 ∧ x.d.length ≤ 20 ∧ (x.s = 0 → x.d = []) := by
    rcases h4 with ⟨h5, h6⟩ | ⟨h5, h6⟩
    · rw [h5, h6]; simp
    · have := (List.getElem?_eq_some_iff.1 h6).1
      exact ⟨by omega, (hs _ (List.mem_of_getElem? h6)).1, fun h => by omega⟩
  exact pkt_ok (by omega) (by omega) (by omega) (by omega) (by omega) hd.2.2
theorem pre_len (h : EpOk k e o) : e.D.length + e.A.length ≤ o.S.length := by
  have := h.pre.length_le
  simpa using this
/-- What comes is never an error; it is told, if it is the next one, and then it is what was sent. -/
theorem recv_ok (h : EpOk k e o) (h' : EpOk (1 - k) o e) (hk : k ≤ 1) (hx : PkOk (1 - k) o x) (hr : pright x = true) :
    (x.l < e.p.pl ∧ e.p.recv (pkb x) = (e.p, none, 0)) ∨
    (e.p.pl ≤ x.l ∧ e.p.recv (pkb x) = ({ e.p with pl := x.l, ds := e.p.ds.drop (x.a - (e.p.last - e.p.ds.length)) }, if x.s = e.D.length + e.A.length + 1 then some (x.s, x.d) else none, 0)) := by
  rw [Se.recv_pkb _ hr]
  unfold Se.recvK
  have h1 := hx.f
  have h2 := h.peer
  have h3 := hx.a
  have h4 := h'.pre.length_le
  have h5 := h.last
  have h6 := pre_len h'
  rw [if_neg (by omega)]
  by_cases hl : x.l < e.p.pl
  · left
    rw [if_pos hl]
    exact ⟨hl, rfl⟩
  · right
    rw [if_neg hl, if_neg (by omega)]
    refine ⟨by omega, ?_⟩
    by_cases hs : x.s = e.p.acc + 1
    · rw [if_pos hs, if_pos (by rw [← h.acc]; exact hs)]
      rfl
    · rw [if_neg hs, if_neg (by rw [← h.acc]; exact hs)]
      rfl
/-- The end behind a packet. -/
def Ep.got (e : Ep) (x : Pk) (acc : Bool) : Ep := if x.l < e.p.pl then e else
  if x.s = e.D.length + e.A.length + 1 ∧ acc = true then ⟨{ e.p with pl := x.l, ds := e.p.ds.drop (x.a - (e.p.last - e.p.ds.length)), acc := e.p.acc + 1 }, e.S, e.D, e.A ++ [x.d]⟩
  else ⟨{ e.p with pl := x.l, ds := e.p.ds.drop (x.a - (e.p.last - e.p.ds.length)) }, e.S, e.D, e.A⟩
theorem got_ok (h : EpOk k e o) (h' : EpOk (1 - k) o e) (hk : k ≤ 1) (hx : PkOk (1 - k) o x) (acc : Bool) : EpOk k (e.got x acc) o := by
  have h6 := pre_len h'
  have hxa := hx.a
  have hfew := h.few
  have hlast := h.last
  unfold Ep.got
  split
  · exact h
  · have hdl : (e.p.ds.drop (x.a - (e.p.last - e.p.ds.length))).length = e.p.ds.length - (x.a - (e.p.last - e.p.ds.length)) := by rw [List.length_drop]
    have hds : e.p.ds.drop (x.a - (e.p.last - e.p.ds.length)) = e.S.drop (e.p.last - (e.p.ds.drop (x.a - (e.p.last - e.p.ds.length))).length) := by
      rw [hdl]
      refine (congrArg (List.drop (x.a - (e.p.last - e.p.ds.length))) h.ds).trans ?_
      rw [List.drop_drop]
      congr 1
      omega
    have hack : e.p.last - (e.p.ds.drop (x.a - (e.p.last - e.p.ds.length))).length ≤ o.D.length := by
      rw [hdl]
      have := h.ack
      omega
    split
    · rename_i hs
      refine ⟨h.node, h.peer, h.life, h.last, hds, by show (e.p.ds.drop _).length ≤ e.p.last; rw [hdl]; omega, h.done, ?_, hx.l, ?_, hack, h.short⟩
      · show e.p.acc + 1 = e.D.length + (e.A ++ [x.d]).length
        rw [h.acc]
        simp
        omega
      · show e.D ++ (e.A ++ [x.d]) <+: o.S
        rcases hx.d with ⟨h0, -⟩ | ⟨h1, h2⟩
        · omega
        · rw [← List.append_assoc]
          obtain ⟨t, ht⟩ := h.pre
          have hlen : x.s - 1 = (e.D ++ e.A).length := by simp; omega
          rw [← ht, hlen, List.getElem?_append_right (Nat.le_refl _), Nat.sub_self] at h2
          cases t with
          | nil => simp at h2
          | cons y t =>
            simp at h2
            subst h2
            exact ⟨t, by rw [← ht]; simp⟩
    · exact ⟨h.node, h.peer, h.life, h.last, hds, by show (e.p.ds.drop _).length ≤ e.p.last; rw [hdl]; omega, h.done, h.acc, hx.l, h.pre, hack, h.short⟩
/-- The other end keeps what it holds. -/
theorem got_other (h' : EpOk (1 - k) o e) (acc : Bool) : EpOk (1 - k) o (e.got x acc) := by
  unfold Ep.got
  split
  · exact h'
  · split
    · exact ⟨h'.node, h'.peer, h'.life, h'.last, h'.ds, h'.few, h'.done, h'.acc, h'.pl, h'.pre, h'.ack, h'.short⟩
    · exact ⟨h'.node, h'.peer, h'.life, h'.last, h'.ds, h'.few, h'.done, h'.acc, h'.pl, h'.pre, h'.ack, h'.short⟩
/-- finish. -/
def Ep.fin (e : Ep) : Ep := if e.A = [] then e else ⟨{ e.p with done := e.D.length + e.A.length }, e.S, e.D ++ e.A, []⟩
theorem fin_ok (h : EpOk k e o) : EpOk k e.fin o := by
  unfold Ep.fin
  split
  · exact h
  · refine ⟨h.node, h.peer, h.life, h.last, h.ds, h.few, by simp, ?_, h.pl, by simpa using h.pre, h.ack, h.short⟩
    show e.p.acc = _
    rw [h.acc]
    simp
theorem fin_other (h' : EpOk (1 - k) o e) : EpOk (1 - k) o e.fin := by
  unfold Ep.fin
  split
  · exact h'
  · refine ⟨h'.node, h'.peer, h'.life, h'.last, h'.ds, h'.few, h'.done, h'.acc, h'.pl, h'.pre, ?_, h'.short⟩
    have := h'.ack
    simp
    omega
/-- again. -/
def Ep.anew (e : Ep) : Ep := ⟨e.p.anew e.p.node e.p.peer (e.p.life + 1), e.S, e.D, []⟩
theorem anew_ok (h : EpOk k e o) : EpOk k e.anew o := by
  refine ⟨h.node, h.peer, by show 1 ≤ e.p.life + 1; omega, h.last, h.ds, h.few, h.done, ?_, Nat.zero_le _, ?_, h.ack, h.short⟩
  · show e.p.done = e.D.length + 0
    rw [h.done]
    rfl
  · show e.D ++ [] <+: o.S
    rw [List.append_nil]
    exact List.IsPrefix.trans (List.prefix_append _ _) h.pre
theorem anew_other (h' : EpOk (1 - k) o e) : EpOk (1 - k) o e.anew :=
  ⟨h'.node, h'.peer, h'.life, h'.last, h'.ds, h'.few, h'.done, h'.acc, Nat.le_succ_of_le h'.pl, h'.pre, h'.ack, h'.short⟩
/-- Send. -/
def Ep.put (e : Ep) (d : List Nat) : Ep := ⟨{ e.p with last := e.p.last + 1, ds := e.p.ds ++ [d] }, e.S ++ [d], e.D, e.A⟩
theorem put_ok (h : EpOk k e o) {d : List Nat} (hd : d.length ≤ 20 ∧ ∀ y ∈ d, y < 256) : EpOk k (e.put d) o := by
  have hfew := h.few
  have hlast := h.last
  refine ⟨h.node, h.peer, h.life, by show e.p.last + 1 = (e.S ++ [d]).length; simp; omega, ?_, by show (e.p.ds ++ [d]).length ≤ e.p.last + 1; simp; omega, h.done, h.acc, h.pl, h.pre, ?_, ?_⟩
  · show e.p.ds ++ [d] = (e.S ++ [d]).drop (e.p.last + 1 - (e.p.ds ++ [d]).length)
    rw [List.length_append, List.length_singleton, show e.p.last + 1 - (e.p.ds.length + 1) = e.p.last - e.p.ds.length by omega, List.drop_append_of_le_length (by omega), ← h.ds]
  · show e.p.last + 1 - (e.p.ds ++ [d]).length ≤ o.D.length
    have := h.ack
    simp
    omega
  · intro y hy
    rcases List.mem_append.1 hy with hy | hy
    · exact h.short y hy
    · simp at hy
      subst hy
      exact hd
theorem put_other (h' : EpOk (1 - k) o e) (d : List Nat) : EpOk (1 - k) o (e.put d) :=
  ⟨h'.node, h'.peer, h'.life, h'.last, h'.ds, h'.few, h'.done, h'.acc, h'.pl, h'.pre.trans (List.prefix_append _ _), h'.ack, h'.short⟩
theorem PkOk.put (h : PkOk k e x) (d : List Nat) : PkOk k (e.put d) x :=
  ⟨h.f, h.l, h.a, h.d.imp id fun ⟨h1, h2⟩ => ⟨h1, by show (e.S ++ [d])[x.s - 1]? = _; rw [List.getElem?_append_left (List.getElem?_eq_some_iff.1 h2).1]; exact h2⟩⟩
theorem PkOk.anew (h : PkOk k e x) : PkOk k e.anew x := ⟨h.f, Nat.le_succ_of_le h.l, h.a, h.d⟩
theorem PkOk.fin (h : PkOk k e x) : PkOk k e.fin x := by
  unfold Ep.fin
  split
  · exact h
  · exact ⟨h.f, h.l, by have := h.a; simp; omega, h.d⟩
theorem PkOk.got {y : Pk} (h : PkOk k e x) (acc : Bool) : PkOk k (e.got y acc) x := by
  unfold Ep.got
  split
  · exact h
  · split <;> exact ⟨h.f, h.l, h.a, h.d⟩
/-- What an end sends. -/
theorem send_ok7 (h : EpOk k e o) {i : Nat} {y : Nat × List Nat} (hy : e.p.items[i]? = some y) : PkOk k e (e.p.pkt y.1 y.2) := by
  refine ⟨h.node, Nat.le_refl _, by show e.p.done ≤ _; rw [h.done]; omega, ?_⟩
  rcases Se.items_at hy with ⟨-, -, rfl⟩ | ⟨-, h2, h3⟩
  · exact .inl ⟨rfl, rfl⟩
  · right
    refine ⟨by show 1 ≤ y.1; omega, ?_⟩
    show e.S[y.1 - 1]? = some y.2
    rw [h.ds, List.getElem?_drop] at h3
    rw [← h3]
    unfold Se.first at h2
    congr 1
    omega
end
end Go.Proofs.Ytjhopajhcmkllaa
namespace Go.Proofs.Ytjhopajhcmkllaa
set_option linter.unusedVariables false

def Ep.first (e : Ep) : Nat := e.p.last - e.p.ds.length
/-- What an end sends at once. -/
def Ep.outs (o : Ep) : List Pk := o.p.items.map fun y => o.p.pkt y.1 y.2
def Ep.gots (e : Ep) : List Pk → Ep
  | [] => e
  | x :: l => (e.got x true).gots l
theorem gots_snoc (e : Ep) (l : List Pk) (x : Pk) : e.gots (l ++ [x]) = (e.gots l).got x true := by
  induction l generalizing e with
  | nil => rfl
  | cons y l ih => exact ih _
section
variable {k : Nat} {e o : Ep}
theorem got_S (e : Ep) (x : Pk) (acc : Bool) : (e.got x acc).S = e.S ∧ (e.got x acc).D = e.D ∧ (e.got x acc).p.last = e.p.last ∧ (e.got x acc).p.life = e.p.life ∧ (e.got x acc).p.node = e.p.node ∧ e.A.length ≤ (e.got x acc).A.length := by
  unfold Ep.got
  split
  · simp
  · split <;> simp
/-- One packet of what the other end sends now. -/
theorem got_step (h : EpOk k e o) (h' : EpOk (1 - k) o e) {i : Nat} {y : Nat × List Nat} (hy : o.p.items[i]? = some y) (hi : o.first + i ≤ e.D.length + e.A.length ∨ o.p.ds = []) :
    (o.first + (i + 1) ≤ e.D.length + (e.got (o.p.pkt y.1 y.2) true).A.length ∨ o.p.ds = []) ∧ o.D.length ≤ (e.got (o.p.pkt y.1 y.2) true).first ∧ e.first ≤ (e.got (o.p.pkt y.1 y.2) true).first := by
  have hpl := h.pl
  have hfew := h.few
  have hlast := h.last
  have h6 := pre_len h'
  have hl : ¬ (o.p.pkt y.1 y.2).l < e.p.pl := by show ¬ o.p.life < e.p.pl; omega
  have ha : (o.p.pkt y.1 y.2).a = o.D.length := h'.done
  have hs : (o.p.pkt y.1 y.2).s = y.1 := rfl
  have hdl : ∀ n, (e.p.ds.drop n).length = e.p.ds.length - n := fun n => List.length_drop
  unfold Ep.got
  rw [if_neg hl]
  refine ⟨?_, ?_, ?_⟩
  · rcases Se.items_at hy with ⟨h1, -, -⟩ | ⟨h1, h2, h3⟩
    · exact .inr h1
    · rcases hi with hi | hi
      · left
        have h2' : y.1 = o.first + 1 + i := h2
        split
        · simp
          omega
        · rename_i hn
          rw [hs] at hn
          show o.first + (i + 1) ≤ e.D.length + e.A.length
          have : ¬ (y.1 = e.D.length + e.A.length + 1) := fun h => hn ⟨h, rfl⟩
          omega
      · exact .inr hi
  · split
    · show o.D.length ≤ e.p.last - (e.p.ds.drop _).length
      rw [hdl, ha]
      omega
    · show o.D.length ≤ e.p.last - (e.p.ds.drop _).length
      rw [hdl, ha]
      omega
  · split
    · show e.p.last - e.p.ds.length ≤ e.p.last - (e.p.ds.drop _).length
      rw [hdl, ha]
      omega
    · show e.p.last - e.p.ds.length ≤ e.p.last - (e.p.ds.drop _).length
      rw [hdl, ha]
      omega
/-- All packets of what the other end sends now. -/
theorem gots_ok (h : EpOk k e o) (h' : EpOk (1 - k) o e) (hk : k ≤ 1) (j : Nat) (hj : j ≤ o.p.items.length) :
    EpOk k (e.gots (o.outs.take j)) o ∧ EpOk (1 - k) o (e.gots (o.outs.take j)) ∧ (e.gots (o.outs.take j)).S = e.S ∧ (e.gots (o.outs.take j)).D = e.D ∧ (e.gots (o.outs.take j)).p.life = e.p.life ∧ (o.first + j ≤ e.D.length + (e.gots (o.outs.take j)).A.length ∨ o.p.ds = []) ∧ (1 ≤ j → o.D.length ≤ (e.gots (o.outs.take j)).first) ∧ e.first ≤ (e.gots (o.outs.take j)).first := by
  induction j with
  | zero =>
    rw [List.take_zero]
    refine ⟨h, h', rfl, rfl, rfl, .inl ?_, fun h => absurd h (by omega), Nat.le_refl _⟩
    have := h'.ack
    show o.p.last - o.p.ds.length + 0 ≤ e.D.length + e.A.length
    omega
  | succ j ih =>
    obtain ⟨i1, i2, i3, i4, i4', i5, i6, i7⟩ := ih (by omega)
    have hjl : j < o.p.items.length := by omega
    have hy : o.p.items[j]? = some o.p.items[j] := List.getElem?_eq_getElem hjl
    have hx : o.outs[j]? = some (o.p.pkt o.p.items[j].1 o.p.items[j].2) := by
      unfold Ep.outs
      rw [List.getElem?_map, hy]
      rfl
    have hxl := List.getElem?_eq_some_iff.1 hx
    have e1 : o.outs.take (j + 1) = o.outs.take j ++ [o.p.pkt o.p.items[j].1 o.p.items[j].2] := by
      rw [List.take_succ_eq_append_getElem hxl.1, hxl.2]
    rw [e1, gots_snoc]
    generalize he : e.gots (o.outs.take j) = e1 at *
    have hpk := send_ok7 i2 hy
    obtain ⟨s1, s2, s3⟩ := got_step i1 i2 hy (by rw [i4]; exact i5)
    obtain ⟨g1, g2, -, g3, -, -⟩ := got_S e1 (o.p.pkt o.p.items[j].1 o.p.items[j].2) true
    refine ⟨got_ok i1 i2 hk hpk true, got_other i2 true, g1.trans i3, g2.trans i4, g3.trans i4', ?_, fun _ => s2, Nat.le_trans i7 s3⟩
    rw [i4] at s1
    exact s1
/-- A round of fair: what the other end sends comes, and is done. -/
def Ep.round (e o : Ep) : Ep := (e.gots o.outs).fin
theorem fin_S (e : Ep) : e.fin.S = e.S ∧ e.fin.D.length = e.D.length + e.A.length ∧ e.fin.A = [] ∧ e.fin.first = e.first ∧ e.fin.p.life = e.p.life := by
  unfold Ep.fin
  split
  · rename_i h
    rw [h]
    simp
  · simp [Ep.first]
theorem round_ok (h : EpOk k e o) (h' : EpOk (1 - k) o e) (hk : k ≤ 1) : EpOk k (e.round o) o ∧ EpOk (1 - k) o (e.round o) ∧ (e.round o).S = e.S ∧ (e.round o).A = [] ∧ (e.round o).p.life = e.p.life ∧
    min (o.first + 8) o.S.length ≤ (e.round o).D.length ∧ e.D.length ≤ (e.round o).D.length ∧ o.D.length ≤ (e.round o).first ∧ e.first ≤ (e.round o).first := by
  have hlen := Se.items_len o.p
  obtain ⟨i1, i2, i3, i4, i4', i5, i6, i7⟩ := gots_ok h h' hk o.p.items.length (Nat.le_refl _)
  rw [List.take_of_length_le (by unfold Ep.outs; simp)] at i1 i2 i3 i4 i4' i5 i6 i7
  obtain ⟨f1, f2, f3, f4, f5⟩ := fin_S (e.gots o.outs)
  unfold Ep.round
  refine ⟨fin_ok i1, fin_other i2, f1.trans i3, f3, f5.trans i4', ?_, by rw [f2, i4]; exact Nat.le_add_right _ _, by rw [f4]; exact i6 (by omega), by rw [f4]; exact i7⟩
  rw [f2, i4]
  have hfew := h'.few
  have hlast := h'.last
  have hack := h'.ack
  have hf : o.first = o.p.last - o.p.ds.length := rfl
  rcases i5 with i5 | i5
  · omega
  · rw [i5] at hf hfew hack
    simp at hf hfew hack
    omega
end
/-- How far both are behind so many rounds. -/
structure Prog (i : Nat) (e f : Ep) : Prop where
  a : min (8 * (i / 2)) e.S.length ≤ e.first
  b : min (8 * (i / 2)) f.S.length ≤ e.D.length
  c : min (8 * ((i + 1) / 2)) e.S.length ≤ f.D.length
  d : min (8 * ((i - 1) / 2)) f.S.length ≤ f.first
theorem prog_zero (e f : Ep) : Prog 0 e f := ⟨by simp, by simp, by simp, by simp⟩
theorem prog_even {i : Nat} {e f : Ep} (h : EpOk 0 e f) (h' : EpOk 1 f e) (hi : i % 2 = 0) (hp : Prog i e f) : Prog (i + 1) e (f.round e) := by
  obtain ⟨r1, r2, r3, r4, r5, r6, r7, r8, r9⟩ := round_ok h' h (Nat.le_refl 1)
  have ha := hp.a
  have hb := hp.b
  refine ⟨?_, ?_, ?_, ?_⟩
  · rw [show (i + 1) / 2 = i / 2 by omega]; exact ha
  · rw [show (i + 1) / 2 = i / 2 by omega, r3]; exact hb
  · rw [show (i + 1 + 1) / 2 = i / 2 + 1 by omega]; omega
  · rw [show (i + 1 - 1) / 2 = i / 2 by omega, r3]; omega
theorem prog_odd {i : Nat} {e f : Ep} (h : EpOk 0 e f) (h' : EpOk 1 f e) (hi : i % 2 = 1) (hp : Prog i e f) : Prog (i + 1) (e.round f) f := by
  obtain ⟨r1, r2, r3, r4, r5, r6, r7, r8, r9⟩ := round_ok h h' (Nat.zero_le 1)
  have hc := hp.c
  have hd := hp.d
  rw [show (i - 1) / 2 = i / 2 by omega] at hd
  rw [show (i + 1) / 2 = i / 2 + 1 by omega] at hc
  refine ⟨?_, ?_, ?_, ?_⟩
  · rw [show (i + 1) / 2 = i / 2 + 1 by omega, r3]; omega
  · rw [show (i + 1) / 2 = i / 2 + 1 by omega]; omega
  · rw [show (i + 1 + 1) / 2 = i / 2 + 1 by omega, r3]; omega
  · rw [show (i + 1 - 1) / 2 = i / 2 by omega]; exact hd
theorem prog_end {e f : Ep} (h : EpOk 0 e f) (h' : EpOk 1 f e) (hp : Prog 400 e f) (hs : e.S.length ≤ 1000) (hs' : f.S.length ≤ 1000) : e.D = f.S ∧ f.D = e.S ∧ e.p.ds = [] ∧ f.p.ds = [] := by
  obtain ⟨a, b, c, d⟩ := hp
  have p1 := pre_len h
  have p2 := pre_len h'
  have e1 : e.D.length = f.S.length := by omega
  have e2 : f.D.length = e.S.length := by omega
  have ea : e.A = [] := List.eq_nil_of_length_eq_zero (by omega)
  have fa : f.A = [] := List.eq_nil_of_length_eq_zero (by omega)
  have q1 := h.pre
  have q2 := h'.pre
  rw [ea, List.append_nil] at q1
  rw [fa, List.append_nil] at q2
  have l1 := h.last
  have l2 := h'.last
  have w1 := h.few
  have w2 := h'.few
  have f1 : e.first = e.p.last - e.p.ds.length := rfl
  have f2 : f.first = f.p.last - f.p.ds.length := rfl
  exact ⟨q1.eq_of_length e1, q2.eq_of_length e2, List.eq_nil_of_length_eq_zero (by omega), List.eq_nil_of_length_eq_zero (by omega)⟩
end Go.Proofs.Ytjhopajhcmkllaa
