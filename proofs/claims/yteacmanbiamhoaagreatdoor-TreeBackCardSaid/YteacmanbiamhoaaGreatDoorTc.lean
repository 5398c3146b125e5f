/- Package tree: the parser in memory; a text among some. -/
import Derived.Test.YteacmanbiamhoaaGreatDoorTb
import Derived.Deep.RegionHeld3
namespace Go.Proofs.YteacmanbiamhoaaGreatDoor
open Go.RowKit
set_option linter.unusedVariables false

/-- A row of texts. -/
def Tx (w : World) (A : Option Addr) (l : List (List Nat)) : Prop := ∀ i s, l[i]? = some s → ∃ b o, A = some ⟨b, o, none⟩ ∧ w.cell? ⟨b, o + i, none⟩ = some (.string (strOf s))
theorem Tx.made (w : World) (arr : Array Value) (t : TypeId) (l : List (List Nat)) (h : arr.toList = l.map fun s => .string (strOf s)) : Tx (w.alloc (.cells arr t)) (some ⟨w.heap.size, 0, none⟩) l := fun i s hs => by
  refine ⟨w.heap.size, 0, rfl, ?_⟩
  have h1 := heap_alloc_new w (.cells arr t)
  have h2 : arr[i]? = some (.string (strOf s)) := by
    have : arr.toList[i]? = some (.string (strOf s)) := by rw [h, List.getElem?_map, hs]; rfl
    simpa using this
  rw [cell_block h1, Nat.zero_add]
  exact h2
theorem Tx.cells {w : World} {g : Nat} {l : List (List Nat)} {t : TypeId} (h : w.heap[g]? = some (.cells (l.map fun s => Value.string (strOf s)).toArray t (0, 0))) : Tx w (some ⟨g, 0, none⟩) l := fun i s hs => by
  refine ⟨g, 0, rfl, ?_⟩
  rw [cell_block h, Nat.zero_add]
  simp [hs]
set_option maxRecDepth 100000 in
set_option maxHeartbeats 800000 in
theorem index_any (l : List (List Nat)) (s : List Nat) (A : Option Addr) (c : Nat) (w : World) (ht : Tx w A l) (h8 : ∀ t ∈ l, ∀ x ∈ t, x < 256) (hs : ∀ x ∈ s, x < 256) (hl : l.length ≤ 1000) :
    Calls Tryz.prog 265 #[.slice A l.length c, .string (strOf s)] w fun e w' => ∃ z : Int, e = .returned (.int .i64 z) ∧ decide (0 ≤ z) = decide (s ∈ l) ∧ w' = w := by
  go_enter Tryz.func265, Tryz.ntmps265
  go_wp2_with fail
  go_loopw [8, 5] (fun i x wr => ∃ j : Nat, j ≤ l.length ∧ i = .int .i64 (j : Int) ∧ wr = w ∧ s ∉ l.take j) (fun i _ _ => l.length - (intOf i).toNat)
  case atStart => exact ⟨0, Nat.zero_le _, rfl, rfl, by simp⟩
  case round =>
    obtain ⟨j, hj, rfl, rfl, hm⟩ := hrel
    by_cases hlt : j < l.length
    · obtain ⟨t, hlt2⟩ : ∃ t, l[j]? = some t := ⟨l[j], List.getElem?_eq_getElem hlt⟩
      obtain ⟨b, o, rfl, hc⟩ := ht j t hlt2
      have HM : Hid (s ∉ l.take j) := Lib.hid hm
      have HS := Lib.hid (List.take_add_one (l := l) (i := j))
      have ht8 : ∀ x ∈ t, x < 256 := h8 t (List.mem_of_getElem? hlt2)
      have he : ((strOf s).toList == (strOf t).toList) = decide (s = t) := strOf_eq s t hs ht8
      by_cases hst : s = t
      · have he2 : ((strOf s).toList == (strOf t).toList) = true := by rw [he]; exact decide_eq_true hst
        have HI : Hid (s ∈ l) := Lib.hid (by rw [hst]; exact List.mem_of_getElem? hlt2)
        clear he hst hm
        go_wp2_with fail
        go_ret
        exact ⟨(j : Int), rfl, by rw [decide_eq_true HI.out]; exact decide_eq_true (by omega), rfl⟩
      · have he2 : ((strOf s).toList == (strOf t).toList) = false := by rw [he]; exact decide_eq_false hst
        have HN : Hid (s ∉ l.take (j + 1)) := Lib.hid (by
          rw [HS.out, hlt2]
          simp only [List.mem_append, not_or]
          exact ⟨HM.out, by simpa using hst⟩)
        clear he hst hm
        go_wp2_with fail
        go_roundw
        case rel => exact ⟨j + 1, by omega, by go_num, by first | rfl | trivial, HN.out⟩
        case measure => simp [intOf]; omega
    · have hj' : j = l.length := by omega
      have HN : Hid (s ∉ l) := Lib.hid (by rw [hj', List.take_length] at hm; exact hm)
      clear hm
      go_wp2_with fail
      go_ret
      exact ⟨-1, rfl, by rw [decide_eq_false HN.out]; rfl, rfl⟩
set_option maxHeartbeats 800000 in
theorem contains_any (l : List (List Nat)) (s : List Nat) (A : Option Addr) (c : Nat) (w : World) (ht : Tx w A l) (h8 : ∀ t ∈ l, ∀ x ∈ t, x < 256) (hs : ∀ x ∈ s, x < 256) (hl : l.length ≤ 1000) :
    Calls Tryz.prog 216 #[.slice A l.length c, .string (strOf s)] w fun e w' => e = .returned (.bool (decide (s ∈ l))) ∧ w' = w := by
  obtain ⟨b, hb⟩ : ∃ b, Hid (decide (s ∈ l) = b) := ⟨_, Lib.hid rfl⟩
  rw [hb.out]
  go_enter Tryz.func216, Tryz.ntmps216
  go_wp2_with fail
  refine (index_any l s A c w ht h8 hs hl).mono ?_
  rintro e w' ⟨z, rfl, hz, rfl⟩
  rw [hb.out] at hz
  go_wp2_with fail
  go_ret
  exact ⟨by rw [← hz]; rfl, rfl⟩

/-! The parser in memory. -/
structure Lv where
  bp : Nat
  bb : Nat
  bm : Nat
  bs : Nat
  sa : Nat
structure Ru where
  mul : Lv
  add : Lv
  cmp : Lv
  and : Lv
  or : Lv
def at0 (b : Nat) : Value := .pointer (some ⟨b, 0, none⟩)
/-- The function value of a rule of two; of the rule of one. -/
def lvF (l : Lv) : Value := .func (.func 167) #[] #[at0 l.bb, at0 l.bm, at0 l.bp, at0 l.bs]
def unF (q : Nat) : Value := .func (.func 109) #[at0 q] #[]
structure LvAt (w : World) (q : Nat) (l : Lv) (below : Value) (most : Int) (sg : List (List Nat)) : Prop where
  p : w.heap[l.bp]? = some (.cells #[at0 q] 95 (0, 0))
  b : w.heap[l.bb]? = some (.cells #[below] 102 (0, 0))
  m : w.heap[l.bm]? = some (.cells #[.int .i64 most] 3 (0, 0))
  s : w.heap[l.bs]? = some (.cells #[.slice (some ⟨l.sa, 0, none⟩) sg.length sg.length] 41 (0, 0))
  a : w.heap[l.sa]? = some (.cells (sg.map fun s => Value.string (strOf s)).toArray 9 (0, 0))
  np : l.bp ≠ q
  nb : l.bb ≠ q
  nm : l.bm ≠ q
  ns : l.bs ≠ q
  na : l.sa ≠ q
theorem LvAt.kp {w w' : World} {q : Nat} {l : Lv} {below : Value} {most : Int} {sg : List (List Nat)} (h : LvAt w q l below most sg) (k : Kp q w w') : LvAt w' q l below most sg :=
  ⟨k.heap h.p h.np, k.heap h.b h.nb, k.heap h.m h.nm, k.heap h.s h.ns, k.heap h.a h.na, h.np, h.nb, h.nm, h.ns, h.na⟩
structure RuAt (w : World) (q : Nat) (R : Ru) : Prop where
  mul : LvAt w q R.mul (unF q) 32768 sMul
  add : LvAt w q R.add (lvF R.mul) 32768 sAdd
  cmp : LvAt w q R.cmp (lvF R.add) 1 sCmp
  and : LvAt w q R.and (lvF R.cmp) 32768 sAnd
  or : LvAt w q R.or (lvF R.and) 32768 sOr
theorem RuAt.kp {w w' : World} {q : Nat} {R : Ru} (h : RuAt w q R) (k : Kp q w w') : RuAt w' q R := ⟨h.mul.kp k, h.add.kp k, h.cmp.kp k, h.and.kp k, h.or.kp k⟩
def pcells (T : List Nat) (R : Ru) (p : Pst) : Array Value := #[.string (strOf T), .int .u8 (p.k : Int), .string (strOf p.s), .int .i64 (p.n : Int), .int .i64 (p.ln : Int), .int .i64 (p.a : Int), .int .i64 (p.e : Int), .int .i64 (p.er : Int), .int .i64 (p.fl : Int), .int .i64 (p.g : Int), lvF R.or]
def wordV (p : Pst) : Value := .agg #[.int .u8 (p.k : Int), .string (strOf p.s), .int .i64 (p.n : Int), .int .i64 (p.ln : Int), .int .i64 (p.a : Int), .int .i64 (p.e : Int)]
def fltV (p : Pst) : Value := .agg #[.int .i64 (p.er : Int), .int .i64 (p.fl : Int)]
def Sok (s : List Nat) : Prop := (∀ x ∈ s, x < 256) ∧ s.length ≤ 32768
/-- What is known of a text: what the next token is, at any world that has the laid variables. -/
structure TxtOk (w0 : World) (T : List Nat) : Prop where
  next : ∀ (p : Pst) (w : World), Below w0.heap.size w0 w → Calls Tryz.prog 172 #[.string (strOf T), .int .i64 (p.e : Int)] w fun e w' => e = .returned (.tuple #[wordV (p.step T), fltV (p.step T)]) ∧ Below w.heap.size w w'
  ok : ∀ p : Pst, Sok (p.step T).s
/-- The parser at block q, in a world that goes on from w0. -/
structure Cx (w0 : World) (T : List Nat) (R : Ru) (q : Nat) (w : World) (p : Pst) : Prop where
  hb : Below w0.heap.size w0 w
  hq : w0.heap.size ≤ q
  hp : w.heap[q]? = some (.cells (pcells T R p) 104 (0, 0))
  hr : RuAt w q R
  ok : Sok p.s
theorem Cx.lt {w0 : World} {T : List Nat} {R : Ru} {q : Nat} {w : World} {p : Pst} (h : Cx w0 T R q w p) : q < w.heap.size := lt_heap h.hp
theorem Cx.on {w0 : World} {T : List Nat} {R : Ru} {q : Nat} {w w' : World} {p p' : Pst} (h : Cx w0 T R q w p) (k : Kp q w w') (hp : w'.heap[q]? = some (.cells (pcells T R p') 104 (0, 0))) (ok : Sok p'.s) : Cx w0 T R q w' p' :=
  ⟨h.hb.trans (k.below h.hq h.hb.size), h.hq, hp, h.hr.kp k, ok⟩
theorem Cx.below {w0 : World} {T : List Nat} {R : Ru} {q : Nat} {w w' : World} {p : Pst} (h : Cx w0 T R q w p) (k : Below w.heap.size w w') : Cx w0 T R q w' p :=
  h.on (Kp.of_below k) (heap_below h.hp k) h.ok
theorem Cx.alloc {w0 : World} {T : List Nat} {R : Ru} {q : Nat} {w : World} {p : Pst} (h : Cx w0 T R q w p) (o : Obj) : Cx w0 T R q (w.alloc o) p := h.below ((Below.refl _ _).alloc (Nat.le_refl _) o)
theorem Cx.drew {w0 : World} {T : List Nat} {R : Ru} {q : Nat} {w : World} {p : Pst} (h : Cx w0 T R q w p) : Cx w0 T R q w.drew p := h.on ((Kp.refl q w).drew) h.hp h.ok
end Go.Proofs.YteacmanbiamhoaaGreatDoor
