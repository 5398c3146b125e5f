/- Helpers of layer 8's WordsBlanks: rows of tokens, what is said again. -/
import Derived.Test.YtndppffaijcjdaaDoorWm
import Derived.Laws.OwnMore
namespace Go.Proofs.YtndppffaijcjdaaDoor
open Go.RowKit
set_option linter.unusedVariables false

theorem nxt_quoted (s : List Nat) (h : ∀ x ∈ s, x < 256) (hn : s.length ≤ 8000) : nxtV (quoW s) 0 = ansV 2 (strOf s) 0 1 0 (quoW s).length 0 0 := by
  have h1 := tok_quo s h
  have h2 := quoW_len s
  have e : atW (quoW s) 0 = 0 := by unfold atW; rw [List.drop_zero, h1.2]
  have e2 : lnW (quoW s) 0 = 1 := by unfold lnW; rw [e]; rfl
  unfold nxtV
  rw [if_neg (by omega), if_neg (by omega)]
  simp only [Int.toNat_zero]
  rw [e, e2, List.drop_zero, h1.1]
  simp [ansV, wrdV, flt]
structure Wd where
  t : Tk
  b : List Nat
  ln : Nat
  a : Nat
  e : Nat
def Wd.p (x : Wd) : Tk × List Nat := (x.t, x.b)
def wC (x : Wd) : List Value := [.int .u8 (x.t.k : Int), .string (strOf x.t.s), .int .i64 (x.t.n : Int), .int .i64 (x.ln : Int), .int .i64 (x.a : Int), .int .i64 (x.e : Int)]
def wCs (L : List Wd) : List Value := L.flatMap wC
theorem wCs_snoc (L : List Wd) (x : Wd) : wCs (L ++ [x]) = wCs L ++ wC x := by simp [wCs]
theorem wC_one (x : Wd) : ∀ u ∈ wC x, u.oneCell' = true := by
  intro u hu
  simp [wC] at hu
  rcases hu with rfl | rfl | rfl | rfl | rfl | rfl <;> rfl
theorem word_info : (Tryd.prog.info? 24).map (fun i => (i.zero, i.size, i.bytes)) = some (some (.agg #[.int .u8 0, .string ⟨#[]⟩, .int .i64 0, .int .i64 0, .int .i64 0, .int .i64 0]), 6, 56) := by kernel_rfl
theorem wpList_wapp {w : World} {ops : Array Oper} {rest : List Oper} {o : Oper} {a : Act} {Q : Exit → Act → World → Prop} (hgd : o.guard = none) (s x : Operand)
    (ho : o.op = .call { callee := .builtin .append, args := #[s, x], argTypes := #[33, 33] })
    {base : Nat} {v : Value} {L : List Wd} (hs : a.eval s = v) (hown : w.ownsRow base 24 6 v L.length (wCs L)) {B : Nat} {A : Option Addr} {c : Nat} {y : Wd} (hx : a.eval x = .slice A 1 c)
    (hr : At w B A (wC y)) (hn : L.length ≤ 100000) (hbase : base ≤ w.heap.size)
    (h : ∀ v' w', w'.ownsRow base 24 6 v' (L ++ [y]).length (wCs (L ++ [y])) → Below base w w' → w.grownBy w' v.ownBlock → wpList Tryd.prog ops Q rest (a.put o.dst v') w') :
    wpList Tryd.prog ops Q (o :: rest) a w := by
  obtain ⟨i0, hi0, hz0, hz1, hz2⟩ := info_parts word_info
  refine wpList_append_at w hgd s x 33 ho base 24 i0 _ 6 56 Tryd.underlying33 hi0 hz0 hz1 hz2 rfl (by omega) v L.length (wCs L) hs hown B A 1 c (wC y) hx hr
    (by simp [wC]) (wC_one y) (by unfold maxLen; omega) (by omega) hbase ?_
  intro v' w' h1 h2 _
  refine h v' w' ?_ ((Below.refl _ _).grown h2 hbase (fun k hk => (World.ownsRow.lt hown k hk).1)) h2
  rw [List.length_append, wCs_snoc]
  exact h1
theorem wCs_at : ∀ (L : List Wd) (i : Nat) (x : Wd), L[i]? = some x → ∀ f, f < 6 → (wCs L)[i * 6 + f]? = (wC x)[f]?
  | [], i, x, h, _, _ => by simp at h
  | y :: r, 0, x, h, f, hf => by
    simp at h
    subst h
    show (wC y ++ wCs r)[0 * 6 + f]? = _
    rw [Nat.zero_mul, Nat.zero_add, List.getElem?_append_left (by simp [wC]; omega)]
  | y :: r, i + 1, x, h, f, hf => by
    have ih := wCs_at r i x (by simpa using h) f hf
    show (wC y ++ wCs r)[(i + 1) * 6 + f]? = _
    have hl : (wC y).length = 6 := rfl
    rw [List.getElem?_append_right (by omega), hl, show (i + 1) * 6 + f - 6 = i * 6 + f by omega]
    exact ih
/-- A row of tokens that is read. -/
def WAt (w : World) (A : Option Addr) (L : List Wd) : Prop := ∀ (i : Nat) (x : Wd), L[i]? = some x → ∃ g, A = some ⟨g, 0, none⟩ ∧ w.cell? ⟨g, i * 6, none⟩ = some (.int .u8 (x.t.k : Int)) ∧ w.cell? ⟨g, i * 6 + 1, none⟩ = some (.string (strOf x.t.s)) ∧ w.cell? ⟨g, i * 6 + 2, none⟩ = some (.int .i64 (x.t.n : Int))
theorem WAt.below {w w' : World} {A : Option Addr} {L : List Wd} (h : WAt w A L) (hb : Below w.heap.size w w') : WAt w' A L := fun i x hx => by
  obtain ⟨g, h1, h2, h3, h4⟩ := h i x hx
  have hlt : g < w.heap.size := World.block_lt_of_cell? _ _ h2
  exact ⟨g, h1, (hb.cell (p := ⟨g, i * 6, none⟩) hlt).trans h2, (hb.cell (p := ⟨g, i * 6 + 1, none⟩) hlt).trans h3, (hb.cell (p := ⟨g, i * 6 + 2, none⟩) hlt).trans h4⟩
theorem wrow_form {w : World} {base : Nat} {v : Value} {L : List Wd} (h : w.ownsRow base 24 6 v L.length (wCs L)) : ∃ A c, v = .slice A L.length c ∧ L.length ≤ c ∧ WAt w A L := by
  have h' := h
  rcases h.2 with ⟨h1, h2⟩ | ⟨g, cap, cur, h1, h2, h3, h4, h5, _⟩
  · subst h1
    have hl : L = [] := List.eq_nil_of_length_eq_zero h2
    subst hl
    exact ⟨none, 0, rfl, by simp, fun i x hx => by simp at hx⟩
  · subst h1
    refine ⟨some ⟨g, 0, none⟩, cap, rfl, h4, fun i x hx => ⟨g, rfl, ?_, ?_, ?_⟩⟩
    all_goals
      have hi := (List.getElem?_eq_some_iff.1 hx).1
      rw [World.ownsRow.cellAt h' _ (by omega)]
    · exact wCs_at L i x hx 0 (by omega)
    · exact wCs_at L i x hx 1 (by omega)
    · exact wCs_at L i x hx 2 (by omega)
theorem At.made' (w : World) (arr : Array Value) (t : TypeId) (g : Nat) (hg : g = w.heap.size) : At (w.alloc (.cells arr t)) (w.heap.size + 1) (some ⟨g, 0, none⟩) arr.toList := by
  subst hg
  exact At.made w arr t
theorem wrow_below {w w' : World} {base : Nat} {v : Value} {L : List Wd} (h : w.ownsRow base 24 6 v L.length (wCs L)) (hb : Below w.heap.size w w') : w'.ownsRow base 24 6 v L.length (wCs L) :=
  World.ownsRow.kept (row := none) h ⟨hb.os, hb.tape, hb.output, hb.size, fun k hk _ => hb.block k hk⟩ (by cases hv : v.ownBlock <;> simp)
theorem nxt_says (q r : List (Tk × List Nat)) (p : Tk × List Nat) (hq : ∀ x ∈ q, Pc x.1 x.2) (hp : Pc p.1 p.2) (hl : (says (q ++ p :: r)).length ≤ 32768) :
    nxtV (says (q ++ p :: r)) (plc q) = ansV p.1.k (strOf p.1.s) p.1.n (q.length + 1) (says q).length (plc (q ++ [p])) 0 0 := by
  obtain ⟨h1, h2, h3, h4⟩ := says_next q r p hq hp
  have h0 := (says_at q (p :: r)).1
  unfold nxtV
  rw [if_neg (by omega), if_neg (by omega), Int.toNat_natCast, h3, h2, h1, ← h4]
  rfl
theorem nxt_says_end (q : List (Tk × List Nat)) (hl : (says q).length ≤ 32768) :
    nxtV (says q) (plc q) = ansV 6 ⟨#[]⟩ 0 (lnW (says q) (plc q)) (says q).length (says q).length 0 0 := by
  obtain ⟨h1, h2⟩ := says_end q
  have h0 := (says_at q []).1
  rw [List.append_nil] at h0
  unfold nxtV
  rw [if_neg (by omega), if_neg (by omega), Int.toNat_natCast, h2, h1]
  rfl
end Go.Proofs.YtndppffaijcjdaaDoor
