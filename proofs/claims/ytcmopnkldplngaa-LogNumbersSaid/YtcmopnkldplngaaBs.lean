/- The contracts of bytes once more, over values that read as bytes. -/
import Derived.Test.YtcmopnkldplngaaSeal
import Derived.Test.YtcmopnkldplngaaLow
namespace Go.Proofs.Ytcmopnkldplngaa
open Go.RowKit

/-- The value v is a slice of bytes that reads as l in w. -/
def Bs (w : World) (v : Value) (l : List Nat) : Prop := (∃ A c, v = .slice A l.length c ∧ l.length ≤ c ∧ At w w.heap.size A (bv l)) ∧ (∀ x ∈ l, x < 256)

section
variable {w w' : World} {v : Value} {l : List Nat}
theorem Bs.below (h : Bs w v l) (hb : Below w.heap.size w w') : Bs w' v l := by
  obtain ⟨⟨A, c, e, hc, ha⟩, h8⟩ := h
  exact ⟨⟨A, c, e, hc, (ha.below hb).more hb.size⟩, h8⟩
theorem Bs.keep {B : Nat} (h : Bs w v l) (hb : Below B w w') (hB : w.heap.size ≤ B) : Bs w' v l := h.below (hb.mono hB)
theorem Bs.alloc (h : Bs w v l) (o : Obj) : Bs (w.alloc o) v l := h.below ((Below.refl _ _).alloc (Nat.le_refl _) o)
theorem Bs.drew (h : Bs w v l) : Bs w.drew v l := h
theorem Bs.drewN (h : Bs w v l) (k : Nat) : Bs (w.drewN k) v l := h
theorem Bs.nil (w : World) : Bs w (.slice none 0 0) [] := ⟨⟨none, 0, rfl, by simp, At.nil _ _ _⟩, by simp⟩
theorem Bs.of_own {base : Nat} (h : Own w base v l) (h8 : ∀ x ∈ l, x < 256) : Bs w v l := by
  obtain ⟨A, c, e, hc, _, ha, _⟩ := h.form
  exact ⟨⟨A, c, e, hc, ha⟩, h8⟩
theorem Bs.of_at {A : Option Addr} {n c : Nat} (ha : At w w.heap.size A (bv l)) (hl : l.length = n) (hc : n ≤ c) (h8 : ∀ x ∈ l, x < 256) : Bs w (.slice A n c) l := by
  subst hl
  exact ⟨⟨A, c, rfl, hc, ha⟩, h8⟩
theorem Bs.made' (w : World) (arr : Array Value) (t : TypeId) (l : List Nat) (n g : Nat) (hg : g = w.heap.size) (he : arr.toList = bv l) (hn : l.length = n) (h8 : ∀ x ∈ l, x < 256) (fr : Nat × Nat := (0, 0)) : Bs (w.alloc (.cells arr t fr)) (.slice (some ⟨g, 0, none⟩) n n) l := by
  subst hg
  refine Bs.of_at ?_ hn (Nat.le_refl _) h8
  have := At.made w arr t fr
  rw [he] at this
  simpa using this
theorem Bs.parts {A : Option Addr} {n c : Nat} (h : Bs w (.slice A n c) l) : l.length = n ∧ n ≤ c ∧ At w w.heap.size A (bv l) ∧ (∀ x ∈ l, x < 256) := by
  obtain ⟨⟨A', c', e, hc, ha⟩, h8⟩ := h
  injection e with e1 e2 e3
  subst e1
  subst e2
  subst e3
  exact ⟨rfl, hc, ha, h8⟩
/-- 's[:i]'. -/
theorem Bs.pre {A : Option Addr} {n c : Nat} (h : Bs w (.slice A n c) l) (i : Nat) (hi : i ≤ n) : Bs w (.slice A i c) (l.take i) := by
  obtain ⟨h1, h2, h3, h4⟩ := h.parts
  refine Bs.of_at ?_ (by simp; omega) (by omega) (fun x hx => h4 x (List.mem_of_mem_take hx))
  rw [bv_take]
  exact h3.take i
/-- What was just made of bytes. -/
theorem Bs.made (w : World) (arr : Array Value) (t : TypeId) (l : List Nat) (n : Nat) (he : arr.toList = bv l) (hn : l.length = n) (h8 : ∀ x ∈ l, x < 256) : Bs (w.alloc (.cells arr t)) (.slice (some ⟨w.heap.size, 0, none⟩) n n) l := by
  refine Bs.of_at ?_ hn (Nat.le_refl _) h8
  have := At.made w arr t
  rw [he] at this
  simpa using this
end

theorem crc_bs (v : Value) (l : List Nat) (w : World) (h : Bs w v l) (hn : l.length ≤ 1099511627776) :
    Calls Try.prog 38 #[v] w fun e w' => e = .returned (.int .u32 (crcN l : Nat)) ∧ w = w' := by
  obtain ⟨⟨A, c, rfl, hc, ha⟩, h8⟩ := h
  exact crc_any A _ c l w _ rfl ha hn h8
theorem be4_bytes (s : Nat) (hs : s < 4294967296) : ∀ x ∈ be4 s, x < 256 := by
  intro x hx
  simp [be4] at hx
  omega
theorem crcN_lt (l : List Nat) : crcN l < 4294967296 := by unfold crcN; omega
theorem same_bs (v v' : Value) (l l' : List Nat) (r : Bool) (w : World) (h : Bs w v l) (h' : Bs w v' l') (hr : decide (l = l') = r) :
    Calls Try.prog 34 #[v, v'] w fun e w' => e = .returned (.bool r) ∧ w = w' := by
  obtain ⟨⟨A, c, rfl, hc, ha⟩, h8⟩ := h
  obtain ⟨⟨A', c', rfl, hc', ha'⟩, h8'⟩ := h'
  exact same_any A A' _ _ c c' l l' r w _ rfl rfl ha ha' h8 h8' hr
theorem copy_bs (v : Value) (l : List Nat) (w : World) (h : Bs w v l) (hn : l.length ≤ 1099511627776) :
    Calls Try.prog 11 #[v] w fun e w' => ∃ u, e = .returned u ∧ Own w' w.heap.size u l ∧ Bs w' u l ∧ Below w.heap.size w w' := by
  obtain ⟨⟨A, c, rfl, hc, ha⟩, h8⟩ := h
  refine (copy_any A _ c l w _ rfl ha hn).mono ?_
  rintro e w' ⟨u, rfl, ho, hb⟩
  exact ⟨u, rfl, ho, Bs.of_own ho h8, hb⟩
end Go.Proofs.Ytcmopnkldplngaa
