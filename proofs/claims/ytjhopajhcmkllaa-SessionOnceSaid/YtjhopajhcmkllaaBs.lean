/- The contracts of bytes once more, over values that read as bytes. -/
import Derived.Test.YtjhopajhcmkllaaInt
import Derived.Test.YtjhopajhcmkllaaGetBlob
import Derived.Test.YtjhopajhcmkllaaSeal
import Derived.Test.YtjhopajhcmkllaaLow
namespace Go.Proofs.Ytjhopajhcmkllaa
open Go.RowKit

/-- The value v is a slice of bytes that reads as l in w. -/
def Bs (w : World) (v : Value) (l : List Nat) : Prop := (∃ A c, v = .slice A l.length c ∧ l.length ≤ c ∧ At w w.heap.size A (bv l)) ∧ (∀ x ∈ l, x < 256)

section
variable {w w' : World} {v : Value} {l : List Nat}
theorem Bs.below (h : Bs w v l) (hb : Below w.heap.size w w') : Bs w' v l := by
  obtain ⟨⟨A, c, e, hc, ha⟩, h8⟩ := h
  exact ⟨⟨A, c, e, hc, (ha.below hb).more hb.size⟩, h8⟩
theorem Bs.keep {B : Nat} (h : Bs w v l) (hb : Below B w w') (hB : w.heap.size ≤ B) : Bs w' v l := h.below (hb.mono hB)
theorem Bs.alloc (h : Bs w v l) (o : Obj) : Bs (w.alloc o) v l := h.below ((Below.refl _ _).alloc (Nat.le_refl _) o)
theorem Bs.drew (h : Bs w v l) : Bs w.drew v l := h
theorem Bs.drewN (h : Bs w v l) (k : Nat) : Bs (w.drewN k) v l := h
theorem Bs.nil (w : World) : Bs w (.slice none 0 0) [] := ⟨⟨none, 0, rfl, by simp, At.nil _ _ _⟩, by simp⟩
theorem Bs.of_own {base : Nat} (h : Own w base v l) (h8 : ∀ x ∈ l, x < 256) : Bs w v l := by
  obtain ⟨A, c, e, hc, _, ha, _⟩ := h.form
  exact ⟨⟨A, c, e, hc, ha⟩, h8⟩
theorem Bs.of_at {A : Option Addr} {n c : Nat} (ha : At w w.heap.size A (bv l)) (hl : l.length = n) (hc : n ≤ c) (h8 : ∀ x ∈ l, x < 256) : Bs w (.slice A n c) l := by
  subst hl
  exact ⟨⟨A, c, rfl, hc, ha⟩, h8⟩
theorem Bs.made' (w : World) (arr : Array Value) (t : TypeId) (l : List Nat) (n g : Nat) (hg : g = w.heap.size) (he : arr.toList = bv l) (hn : l.length = n) (h8 : ∀ x ∈ l, x < 256) (fr : Nat × Nat := (0, 0)) : Bs (w.alloc (.cells arr t fr)) (.slice (some ⟨g, 0, none⟩) n n) l := by
  subst hg
  refine Bs.of_at ?_ hn (Nat.le_refl _) h8
  have := At.made w arr t fr
  rw [he] at this
  simpa using this
theorem Bs.parts {A : Option Addr} {n c : Nat} (h : Bs w (.slice A n c) l) : l.length = n ∧ n ≤ c ∧ At w w.heap.size A (bv l) ∧ (∀ x ∈ l, x < 256) := by
  obtain ⟨⟨A', c', e, hc, ha⟩, h8⟩ := h
  injection e with e1 e2 e3
  subst e1
  subst e2
  subst e3
  exact ⟨rfl, hc, ha, h8⟩
/-- 's[:i]'. -/
theorem Bs.pre {A : Option Addr} {n c : Nat} (h : Bs w (.slice A n c) l) (i : Nat) (hi : i ≤ n) : Bs w (.slice A i c) (l.take i) := by
  obtain ⟨h1, h2, h3, h4⟩ := h.parts
  refine Bs.of_at ?_ (by simp; omega) (by omega) (fun x hx => h4 x (List.mem_of_mem_take hx))
  rw [bv_take]
  exact h3.take i
/-- What was just made of bytes. -/
theorem Bs.made (w : World) (arr : Array Value) (t : TypeId) (l : List Nat) (n : Nat) (he : arr.toList = bv l) (hn : l.length = n) (h8 : ∀ x ∈ l, x < 256) : Bs (w.alloc (.cells arr t)) (.slice (some ⟨w.heap.size, 0, none⟩) n n) l := by
  refine Bs.of_at ?_ hn (Nat.le_refl _) h8
  have := At.made w arr t
  rw [he] at this
  simpa using this
end

theorem uint_bs (v : Value) (l : List Nat) (x : Nat) (w : World) (h : Bs w v l) (hn : l.length ≤ 1099511627776) (hx : x < 18446744073709551616) :
    Calls Try.prog 75 #[v, .int .u64 (x : Int)] w fun e w' => ∃ v', e = .returned v' ∧ Own w' w.heap.size v' (l ++ varint x) ∧ Bs w' v' (l ++ varint x) ∧ Below w.heap.size w w' := by
  obtain ⟨⟨A, c, rfl, hc, ha⟩, h8⟩ := h
  refine (uint_any A _ c l x w _ rfl ha hn (Nat.le_refl _) hx).mono ?_
  rintro e w' ⟨v', rfl, ho, hb⟩
  refine ⟨v', rfl, ho, Bs.of_own ho ?_, hb⟩
  intro y hy
  rcases List.mem_append.1 hy with hy | hy
  · exact h8 y hy
  · exact varint_bytes x (by omega) y hy
theorem blob_bs (v : Value) (l : List Nat) (v' : Value) (l' : List Nat) (w : World) (h : Bs w v l) (h' : Bs w v' l') (hn : l.length ≤ 1099511627776) (hn' : l'.length ≤ 1099511627776) :
    Calls Try.prog 77 #[v, v'] w fun e w' => ∃ u, e = .returned u ∧ Own w' w.heap.size u (l ++ varint l'.length ++ l') ∧ Bs w' u (l ++ varint l'.length ++ l') ∧ Below w.heap.size w w' := by
  obtain ⟨⟨A, c, rfl, hc, ha⟩, h8⟩ := h
  obtain ⟨⟨A', c', rfl, hc', ha'⟩, h8'⟩ := h'
  refine (blob_any A _ c l A' _ c' l' w _ rfl ha hn rfl ha' hn' (Nat.le_refl _)).mono ?_
  rintro e w' ⟨u, rfl, ho, hb⟩
  refine ⟨u, rfl, ho, Bs.of_own ho ?_, hb⟩
  intro y hy
  rcases List.mem_append.1 hy with hy | hy
  · rcases List.mem_append.1 hy with hy | hy
    · exact h8 y hy
    · exact varint_bytes _ (by omega) y hy
  · exact h8' y hy
theorem getuint_bs (v : Value) (l : List Nat) (at_ : Nat) (w : World) (h : Bs w v l) (hn : l.length ≤ 1099511627776) (hat : at_ ≤ l.length) :
    Calls Try.prog 73 #[v, .int .i64 (at_ : Int)] w (GuPost (gu l at_) w) := by
  obtain ⟨⟨A, c, rfl, hc, ha⟩, h8⟩ := h
  exact getuint_any A _ c l at_ w _ rfl ha hn h8 hat
theorem gus_mem (r : List Nat) (l : List Nat) (at_ : Nat) (most : Int) (h8 : ∀ x ∈ l, x < 256) (h : (gb l at_ most).1 = r) : ∀ x ∈ r, x < 256 := by
  subst h
  intro x hx
  unfold gb at hx
  split at hx
  · simp at hx
  · split at hx
    · simp at hx
    · split at hx
      · simp at hx
      · exact h8 x (List.mem_of_mem_drop (List.mem_of_mem_take hx))
def GbsPost (r : List Nat × Nat × Nat) (w : World) (e : Ending) (w' : World) : Prop := ∃ v, e = .returned (.tuple #[v, .int .i64 (r.2.1 : Int), .int .i64 (r.2.2 : Int)]) ∧ Own w' w.heap.size v r.1 ∧ Bs w' v r.1 ∧ Below w.heap.size w w'
theorem getblob_bs (v : Value) (l : List Nat) (at_ : Nat) (most : Int) (w : World) (h : Bs w v l) (hn : l.length ≤ 1099511627776) (hat : at_ ≤ l.length) (hm : -9223372036854775808 ≤ most) (hm' : most ≤ 9223372036854775807) :
    Calls Try.prog 69 #[v, .int .i64 (at_ : Int), .int .i64 most] w (GbsPost (gb l at_ most) w) := by
  obtain ⟨⟨A, c, rfl, hc, ha⟩, h8⟩ := h
  refine (getblob_any A _ c l at_ most w _ rfl ha (Nat.le_refl _) hc hn h8 hat hm hm').mono ?_
  rintro e w' ⟨u, rfl, ho, hb⟩
  exact ⟨u, rfl, ho, Bs.of_own ho (gus_mem _ l at_ most h8 rfl), hb⟩
theorem crc_bs (v : Value) (l : List Nat) (w : World) (h : Bs w v l) (hn : l.length ≤ 1099511627776) :
    Calls Try.prog 78 #[v] w fun e w' => e = .returned (.int .u32 (crcN l : Nat)) ∧ w = w' := by
  obtain ⟨⟨A, c, rfl, hc, ha⟩, h8⟩ := h
  exact crc_any A _ c l w _ rfl ha hn h8
theorem be4_bytes (s : Nat) (hs : s < 4294967296) : ∀ x ∈ be4 s, x < 256 := by
  intro x hx
  simp [be4] at hx
  omega
theorem crcN_lt (l : List Nat) : crcN l < 4294967296 := by unfold crcN; omega
theorem seal_bs (v : Value) (l : List Nat) (w : World) (h : Bs w v l) (hn : l.length ≤ 1099511627776) :
    Calls Try.prog 76 #[v] w fun e w' => ∃ u, e = .returned u ∧ Own w' w.heap.size u (l ++ be4 (crcN l)) ∧ Bs w' u (l ++ be4 (crcN l)) ∧ Below w.heap.size w w' := by
  obtain ⟨⟨A, c, rfl, hc, ha⟩, h8⟩ := h
  refine (seal_any A _ c l w _ rfl ha (Nat.le_refl _) hn h8).mono ?_
  rintro e w' ⟨u, rfl, ho, hb⟩
  refine ⟨u, rfl, ho, Bs.of_own ho ?_, hb⟩
  intro y hy
  rcases List.mem_append.1 hy with hy | hy
  · exact h8 y hy
  · exact be4_bytes _ (crcN_lt l) y hy
def UssPost (r : List Nat × Nat) (w : World) (e : Ending) (w' : World) : Prop := ∃ v, e = .returned (.tuple #[v, .int .i64 (r.2 : Int)]) ∧ Own w' w.heap.size v r.1 ∧ Bs w' v r.1 ∧ Below w.heap.size w w'
theorem unseal_bs (v : Value) (l : List Nat) (w : World) (h : Bs w v l) (hn : l.length ≤ 1099511627776) :
    Calls Try.prog 72 #[v] w (UssPost (us l) w) := by
  obtain ⟨⟨A, c, rfl, hc, ha⟩, h8⟩ := h
  refine (unseal_any A _ c l w _ rfl ha (Nat.le_refl _) hc hn h8).mono ?_
  rintro e w' ⟨u, rfl, ho, hb⟩
  refine ⟨u, rfl, ho, Bs.of_own ho ?_, hb⟩
  intro y hy
  unfold us at hy
  split at hy
  · simp at hy
  · split at hy
    · exact h8 y (List.mem_of_mem_take hy)
    · simp at hy
theorem same_bs (v v' : Value) (l l' : List Nat) (r : Bool) (w : World) (h : Bs w v l) (h' : Bs w v' l') (hr : decide (l = l') = r) :
    Calls Try.prog 54 #[v, v'] w fun e w' => e = .returned (.bool r) ∧ w = w' := by
  obtain ⟨⟨A, c, rfl, hc, ha⟩, h8⟩ := h
  obtain ⟨⟨A', c', rfl, hc', ha'⟩, h8'⟩ := h'
  exact same_any A A' _ _ c c' l l' r w _ rfl rfl ha ha' h8 h8' hr
theorem copy_bs (v : Value) (l : List Nat) (w : World) (h : Bs w v l) (hn : l.length ≤ 1099511627776) :
    Calls Try.prog 24 #[v] w fun e w' => ∃ u, e = .returned u ∧ Own w' w.heap.size u l ∧ Bs w' u l ∧ Below w.heap.size w w' := by
  obtain ⟨⟨A, c, rfl, hc, ha⟩, h8⟩ := h
  refine (copy_any A _ c l w _ rfl ha hn).mono ?_
  rintro e w' ⟨u, rfl, ho, hb⟩
  exact ⟨u, rfl, ho, Bs.of_own ho h8, hb⟩
end Go.Proofs.Ytjhopajhcmkllaa
