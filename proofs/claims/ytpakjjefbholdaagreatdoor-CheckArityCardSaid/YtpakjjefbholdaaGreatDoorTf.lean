/- Rows of structs of the call's own beside the parser; what keeps the number that is going on. -/
import Derived.Test.YtpakjjefbholdaaGreatDoorTe
namespace Go.Proofs.YtpakjjefbholdaaGreatDoor
open Go.RowKit
set_option linter.unusedVariables false

/-- A row of the call's own that reads as these structs; the call began in w. -/
def RowX (w wr : World) (E : TypeId) (sz : Nat) (v : Value) (l : List Nd) : Prop :=
  ∃ xs, wr.ownsRow w.heap.size E sz v l.length xs ∧ Flat wr (fun b => Nw w wr b ∧ some b ≠ v.ownBlock) sz xs l
section
variable {w wr w' : World} {E : TypeId} {sz q : Nat} {v : Value} {l : List Nd}
theorem RowX.nil (w wr : World) (E : TypeId) (sz : Nat) : RowX w wr E sz (.slice none 0 0) [] := ⟨[], World.ownsRow_nil _ _ _ _, Flat.nil _ _ _⟩
theorem RowX.form (h : RowX w wr E sz v l) : ∃ A c, v = .slice A l.length c ∧ l.length ≤ c ∧ c ≤ maxLen := by
  obtain ⟨xs, h, -⟩ := h
  rcases h.2 with ⟨h1, h2⟩ | ⟨g, cap, cur, he, _, _, h3, h4, _⟩
  · exact ⟨none, 0, by rw [h1, h2], by omega, by unfold maxLen; omega⟩
  · exact ⟨_, cap, he, h3, h4⟩
theorem RowX.rd (h : RowX w wr E sz v l) : Rd wr (Nw w wr) (.row sz l) v := by
  obtain ⟨xs, h1, h2⟩ := h
  exact (h2.keep (S' := Nw w wr) (fun _ _ => rfl) (fun b hb => hb.1)).row h1 (fun b h3 h4 => ⟨h3, h4⟩)
theorem own_ge {base : Nat} {xs : List Value} {n : Nat} (h : wr.ownsRow base E sz v n xs) : v.ownBlock = none ∨ ∃ g, v.ownBlock = some g ∧ base ≤ g ∧ g < wr.heap.size := by
  rcases h.2 with ⟨h1, _⟩ | ⟨g, cap, cur, he, hg, hh, _⟩
  · subst h1; exact .inl rfl
  · subst he; exact .inr ⟨g, rfl, hg, lt_heap hh⟩
theorem RowX.kp (h : RowX w wr E sz v l) (k : Kp q wr w') (hq : q < w.heap.size) : RowX w w' E sz v l := by
  obtain ⟨xs, h1, h2⟩ := h
  refine ⟨xs, World.ownsRow.kept (row := some q) h1 k ?_, h2.keep (fun p hp => k.cellq hp.1.2 (by have := hp.1.1; omega)) (fun b hb => ⟨⟨hb.1.1, Nat.lt_of_lt_of_le hb.1.2 k.size⟩, hb.2⟩)⟩
  rcases own_ge h1 with h3 | ⟨g, h3, h4, _⟩
  · exact .inl h3
  · right
    rw [h3]
    intro e
    have := Option.some.inj e
    omega
/-- A struct in an array of one that was just made is a row of one. -/
theorem RowX.lit (w wr : World) (E : TypeId) (arr : Array Value) (x : Nd) (n : Nat) (hs : arr.size = n) (hw : w.heap.size ≤ wr.heap.size) (hx : Rd wr (Nw w wr) x (.agg arr)) : RowX w (wr.alloc (.cells arr E)) E n (.slice (some ⟨wr.heap.size, 0, none⟩) 1 1) [x] := by
  have h1 := World.ownsRow_lit (e := E) (size := n) (base := w.heap.size) wr arr 1 hw (by unfold maxLen; omega) (by omega)
  refine ⟨arr.toList, h1, ?_⟩
  have h2 : Rd (wr.alloc (.cells arr E)) (fun b => Nw w (wr.alloc (.cells arr E)) b ∧ some b ≠ (Value.slice (some ⟨wr.heap.size, 0, none⟩) 1 1).ownBlock) x (.agg arr) := by
    refine Rd.keep (fun p hp => ((Below.refl _ wr).alloc (Nat.le_refl _) _).cell hp.2) (fun b hb => ⟨⟨hb.1, ?_⟩, ?_⟩) _ _ hx
    · have := hb.2
      simp
      omega
    · intro e
      have e : some b = some wr.heap.size := e
      have := Option.some.inj e
      have := hb.2
      omega
  have h3 := (Flat.nil (wr.alloc (.cells arr E)) (fun b => Nw w (wr.alloc (.cells arr E)) b ∧ some b ≠ (Value.slice (some ⟨wr.heap.size, 0, none⟩) 1 1).ownBlock) n).snoc (vs := arr.toList) (x := x) (by simpa using hs) (by simpa using h2)
  simpa using h3
/-- A struct more: the world behind an append. -/
theorem RowX.snoc {w5 w6 : World} {v' : Value} {xs news : List Value} {x : Nd} (h1 : w5.ownsRow w.heap.size E sz v l.length xs) (h2 : Flat w5 (fun b => Nw w w5 b ∧ some b ≠ v.ownBlock) sz xs l)
    (hx : Rd w5 (fun b => Nw w w5 b ∧ some b ≠ v.ownBlock) x (.agg news.toArray)) (hn : news.length = sz) (ho : w6.ownsRow w.heap.size E sz v' (l.length + 1) (xs ++ news)) (hg : w5.grownBy w6 v.ownBlock) (hor : v'.ownBlock = v.ownBlock ∨ v'.ownBlock = some w5.heap.size) : RowX w w6 E sz v' (l ++ [x]) := by
  refine ⟨xs ++ news, by simpa using ho, ?_⟩
  refine (h2.snoc hn hx).keep (fun p hp => ?_) (fun b hb => ⟨⟨hb.1.1, Nat.lt_of_lt_of_le hb.1.2 hg.size⟩, ?_⟩)
  · exact World.cell?_of_block (hg.block p.block hp.1.2 hp.2)
  · rcases hor with e | e
    · rw [e]; exact hb.2
    · rw [e]
      intro e2
      have := Option.some.inj e2
      have := hb.1.2
      omega
end
section
variable {T : List Nat} {p : Pst}
theorem step_g (T : List Nat) (p : Pst) : (p.step T).g = p.g := by unfold Pst.step; split <;> (try split) <;> (try split) <;> rfl
theorem fail_g (e : Nat) (p : Pst) : (p.fail e).g = p.g := by unfold Pst.fail; split <;> rfl
theorem one_g (T : List Nat) (k : Nat) (l : List (List Nat)) (p : Pst) : (p.one T k l).2.g = p.g := by
  unfold Pst.one
  split
  · exact step_g T p
  · rfl
theorem must_g (T : List Nat) (s : List Nat) (p : Pst) : (p.must T s).2.g = p.g := by
  unfold Pst.must
  split
  · show (Pst.fail 101 _).g = _
    rw [fail_g, one_g]
  · exact one_g _ _ _ _
theorem name_g (T : List Nat) (p : Pst) : (p.name T).2.g = p.g := by
  unfold Pst.name
  split
  · exact step_g T p
  · exact fail_g _ p
theorem begin_g (p : Pst) : p.begin.g = p.g + 1 := by
  unfold Pst.begin
  split
  · show (p.fail 102).g + 1 = _
    rw [fail_g]
  · rfl
theorem fin_g (p : Pst) : p.fin.g = p.g - 1 := rfl
/-- A rule that leaves as many going on as there were. -/
def Gk {α : Type} (R : Rr α) : Prop := ∀ p r, R p = some r → r.2.g = p.g
theorem moreF_g {α : Type} {one : Rr α} (h : Gk one) : ∀ (m : Nat) (l : List α), Gk (moreF T one m l)
  | 0, l, p, r, hr => by simp [moreF] at hr
  | m + 1, l, p, r, hr => by
    rw [moreF] at hr
    split at hr
    · cases hr
      show ((p.one T 5 [[44]]).2.must T [41]).2.g = p.g
      rw [must_g, one_g]
    · cases ho : one (p.one T 5 [[44]]).2 with
      | none => rw [ho] at hr; cases hr
      | some y =>
        obtain ⟨x, q⟩ := y
        rw [ho] at hr
        have := moreF_g h m _ _ _ hr
        rw [this]
        have := h _ _ ho
        rw [show q.g = _ from this, one_g]
theorem listF_g {α : Type} {one : Rr α} (h : Gk one) (m : Nat) : Gk (listF T one m) := by
  intro p r hr
  unfold listF at hr
  split at hr
  · cases hr
    exact must_g _ _ _
  · split at hr
    · cases hr
      show (Pst.one _ _ _ _).2.g = _
      rw [one_g, must_g]
    · split at hr
      · cases hr
      · rename_i x q ho
        have h1 := moreF_g h m _ _ _ hr
        have h2 := h _ _ ho
        rw [h1, show q.g = _ from h2, one_g, must_g]
theorem withF_g {or : Rr Ex} (h : Gk or) (m k : Nat) : Gk (withF T or m k) := by
  intro p r hr
  unfold withF at hr
  split at hr
  · cases hr
  · rename_i l q ho
    cases hr
    show q.g = _
    rw [show q.g = _ from listF_g h m _ _ ho, name_g]
theorem keyedF_g {or : Rr Ex} (h : Gk or) (m : Nat) : Gk (keyedF T or m) := by
  intro p r hr
  unfold keyedF at hr
  split at hr
  · cases hr; exact one_g _ _ _ _
  · split at hr
    · cases hr; exact one_g _ _ _ _
    · split at hr
      · cases hr; exact one_g _ _ _ _
      · split at hr
        · split at hr
          · cases hr
          · rename_i x q ho
            cases hr
            show (q.must T [41]).2.g = _
            rw [must_g, show q.g = _ from h _ _ ho, must_g, one_g]
        · split at hr
          · rw [withF_g h m 10 _ _ hr, one_g]
          · split at hr
            · rw [withF_g h m 11 _ _ hr, one_g]
            · cases hr
              show (Pst.fail _ _).g = _
              rw [fail_g, one_g]
theorem primaryF_g {or : Rr Ex} (h : Gk or) (m : Nat) : Gk (primaryF T or m) := by
  intro p r hr
  unfold primaryF at hr
  split at hr
  · cases hr; exact step_g _ _
  · split at hr
    · cases hr; exact step_g _ _
    · split at hr
      · cases hr; exact step_g _ _
      · split at hr
        · exact keyedF_g h m _ _ hr
        · split at hr
          · cases hr
          · rename_i l q ho
            cases hr
            exact listF_g h m _ _ ho
theorem placesF_g {or : Rr Ex} (h : Gk or) : ∀ (m : Nat) (x : Ex), Gk (placesF T or m x)
  | 0, x, p, r, hr => by simp [placesF] at hr
  | m + 1, x, p, r, hr => by
    rw [placesF] at hr
    split at hr
    · cases hr; exact one_g _ _ _ _
    · split at hr
      · cases hr
      · rename_i y q ho
        rw [placesF_g h m _ _ _ hr, must_g, show q.g = _ from h _ _ ho, one_g]
theorem postF_g {or : Rr Ex} (h : Gk or) (m : Nat) : Gk (postF T or m) := by
  intro p r hr
  unfold postF at hr
  split at hr
  · cases hr
  · rename_i x q ho
    rw [placesF_g h m _ _ _ hr, show q.g = _ from primaryF_g h m _ _ ho]
theorem unaryF_g {or : Rr Ex} (h : Gk or) (m : Nat) : ∀ j : Nat, Gk (unaryF T or m j)
  | 0, p, r, hr => by simp [unaryF] at hr
  | j + 1, p, r, hr => by
    rw [unaryF] at hr
    split at hr
    · split at hr
      · cases hr
      · rename_i x q ho
        cases hr
        show q.g - 1 = _
        rw [show q.g = _ from unaryF_g h m j _ _ ho, one_g, begin_g]
        omega
    · split at hr
      · cases hr
      · rename_i x q ho
        cases hr
        show q.g - 1 = _
        rw [show q.g = _ from postF_g h m _ _ ho, one_g, begin_g]
        omega
theorem twoF_g {below : Rr Ex} (h : Gk below) (sg : List (List Nat)) : ∀ (m : Nat) (x : Ex), Gk (twoF T below sg m x)
  | 0, x, p, r, hr => by cases hr; rfl
  | m + 1, x, p, r, hr => by
    rw [twoF] at hr
    split at hr
    · cases hr; exact one_g _ _ _ _
    · split at hr
      · cases hr
      · rename_i y q ho
        rw [twoF_g h sg m _ _ _ hr, show q.g = _ from h _ _ ho, one_g]
theorem twosF_g {below : Rr Ex} (h : Gk below) (most : Nat) (sg : List (List Nat)) : Gk (twosF T below most sg) := by
  intro p r hr
  unfold twosF at hr
  split at hr
  · cases hr
  · rename_i x q ho
    rw [twoF_g h sg most _ _ _ hr, show q.g = _ from h _ _ ho]
theorem orF_g : ∀ n : Nat, Gk (orF T n)
  | 0, p, r, hr => by simp [orF] at hr
  | n + 1, p, r, hr => by
    rw [orF] at hr
    exact twosF_g (twosF_g (twosF_g (twosF_g (twosF_g (unaryF_g (orF_g n) n n) _ _) _ _) _ _) _ _) _ _ _ _ hr
theorem stmtsF_g {stmt : Rr Sm} (h : Gk stmt) : ∀ (m : Nat) (l : List Sm), Gk (stmtsF T stmt m l)
  | 0, l, p, r, hr => by simp [stmtsF] at hr
  | m + 1, l, p, r, hr => by
    rw [stmtsF] at hr
    split at hr
    · cases hr; rfl
    · split at hr
      · cases hr; exact one_g _ _ _ _
      · split at hr
        · cases hr
        · rename_i y q ho
          rw [stmtsF_g h m _ _ _ hr, show q.g = _ from h _ _ ho, one_g]
theorem bodyF_g {stmt : Rr Sm} (h : Gk stmt) (m : Nat) : Gk (bodyF T stmt m) := by
  intro p r hr
  unfold bodyF at hr
  rw [stmtsF_g h m _ _ _ hr, must_g]
theorem branchF_g {or : Rr Ex} {body : Rr (List Sm)} (h : Gk or) (hb : Gk body) (k ln : Nat) : Gk (branchF T or body k ln) := by
  intro p r hr
  unfold branchF at hr
  split at hr
  · cases hr
  · rename_i x q ho
    split at hr
    · cases hr
    · rename_i b u hb1
      have e1 : u.g = p.g := by rw [show u.g = _ from hb _ _ hb1, must_g, show q.g = _ from h _ _ ho, must_g]
      split at hr
      · split at hr
        · split at hr
          · cases hr
          · rename_i c u2 hb2
            cases hr
            show u2.g = _
            rw [show u2.g = _ from hb _ _ hb2, one_g, e1]
        · cases hr
          show (Pst.one _ _ _ _).2.g = _
          rw [one_g, e1]
      · cases hr
        exact e1
theorem stmtK_g {or : Rr Ex} {body : Rr (List Sm)} (h : Gk or) (hb : Gk body) (m k ln : Nat) : Gk (stmtK T or body m k ln) := by
  intro p r hr
  unfold stmtK at hr
  split at hr
  · split at hr
    · cases hr
    · rename_i x q ho
      cases hr
      show (q.must T [59]).2.g = _
      rw [must_g, show q.g = _ from h _ _ ho, must_g, name_g]
  · split at hr
    · exact branchF_g h hb k ln _ _ hr
    · split at hr
      · split at hr
        · cases hr
        · rename_i x q ho
          cases hr
          show (q.must T [59]).2.g = _
          rw [must_g, show q.g = _ from h _ _ ho]
      · split at hr
        · split at hr
          · cases hr
          · rename_i x q ho
            split at hr
            · cases hr
            · rename_i l u hl
              cases hr
              show (u.must T [59]).2.g = _
              rw [must_g, show u.g = _ from listF_g h m _ _ hl, name_g, show q.g = _ from postF_g h m _ _ ho]
        · split at hr
          · split at hr
            · cases hr
            · rename_i l u hl
              cases hr
              show (u.must T [59]).2.g = _
              rw [must_g, show u.g = _ from listF_g h m _ _ hl, name_g]
          · cases hr
            exact must_g _ _ _
theorem stmtF_g {or : Rr Ex} (h : Gk or) (m : Nat) : ∀ n : Nat, Gk (stmtF T or m n)
  | 0, p, r, hr => by simp [stmtF] at hr
  | n + 1, p, r, hr => by
    rw [stmtF] at hr
    split at hr
    · cases hr
    · rename_i x q ho
      cases hr
      show q.g - 1 = _
      rw [show q.g = _ from stmtK_g h (bodyF_g (stmtF_g h m n) m) m _ _ _ _ ho, one_g, begin_g]
      omega
end
end Go.Proofs.YtpakjjefbholdaaGreatDoor
