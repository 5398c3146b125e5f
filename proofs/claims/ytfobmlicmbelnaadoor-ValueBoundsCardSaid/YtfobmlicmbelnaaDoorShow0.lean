/- drover/value.Show's closure: its calls, in memory. (Shelf: the library's contracts at this dump, by the shelf's plain mode.) -/
import Derived.Test.YtfobmlicmbelnaaDoorBuild
import Derived.Test.YtfobmlicmbelnaaDoorQuote
import Derived.Test.YtfobmlicmbelnaaDoorShelf
import Derived.Lib.AppendIntMem
namespace Go.Proofs.YtfobmlicmbelnaaDoor
open Go.RowKit

/-- The table that FormatInt reads, in every world that keeps what lies below block B. -/
def Tab (w : World) (B : Nat) : Prop := Lib.TabBelow Tryd.prog B w "internal/strconv.uint64pow10" .u64 Lib.pow10Tab
theorem Tab.below {w w' : World} {B : Nat} (h : Tab w B) (hb : Below B w w') : Tab w' B := fun w2 h2 => h w2 (hb.trans h2)
theorem Tab.is {w : World} {B : Nat} (h : Tab w B) : Lib.TabIs Tryd.prog w "internal/strconv.uint64pow10" .u64 Lib.pow10Tab := h w (Below.refl _ _)

theorem strCells_strOf (l : List Nat) (h8 : ∀ x ∈ l, x < 256) : Lib.strCells (strOf l) = bv l := by
  show ((l.map UInt8.ofNat).toArray.toList).map _ = _
  rw [List.toList_toArray, List.map_map]
  refine List.map_congr_left fun x hx => ?_
  have := h8 x hx
  simp [UInt8.toNat_ofNat', Nat.mod_eq_of_lt this]
theorem strOf_itoa (n : Int) : (⟨(Lib.itoa n).toArray⟩ : ByteArray) = strOf (itoaN n) := by
  unfold strOf itoaN
  rw [List.map_map]
  congr 2
  conv => lhs; rw [← List.map_id (Lib.itoa n)]
  refine List.map_congr_left fun x _ => ?_
  simp
theorem BuF.mid {B b : Nat} {bs : List Value} {w w' : World} (h : BuF B b bs w) (hb : Below w.heap.size w w') : BuF B b bs w' := by
  have key : ∀ p, Lib.BuilderAtF 61 5 B b p bs w → Lib.BuilderAtF 61 5 B b p bs w' := by
    rintro p ⟨hB, v, hbk, hown, hne⟩
    exact ⟨hB, v, heap_below hbk hb, World.ownsRowF.kept hown (row := none) ⟨hb.os, hb.tape, hb.output, hb.size, fun k hk _ => hb.block k hk⟩ (by cases hv : v.ownBlock <;> simp), hne⟩
  exact h.elim (fun h => .inl (key _ h)) (fun h => .inr (key _ h))
/-- A string written behind the text so far. -/
theorem write_str (B b : Nat) (pre s : List Nat) (w : World) (h : BuF B b (bv pre) w) (h8 : ∀ x ∈ s, x < 256) (hlen : pre.length + s.length ≤ 140737488355328) (hBw : B ≤ w.heap.size) :
    Calls Tryd.prog 34 #[.pointer (some ⟨b, 0, none⟩), .string (strOf s)] w fun e w' => e = .returned (.tuple #[.int .i64 s.length, .nilIface]) ∧ BuF B b (bv (pre ++ s)) w' ∧ Below B w w' ∧ Ot b w w' := by
  refine (writeString_any B b (bv pre) (strOf s) w h (by rw [strOf_size, bv_length]; exact hlen) hBw).mono ?_
  rintro e w' ⟨rfl, h1, h2, h3⟩
  rw [strCells_strOf s h8, ← bv_append] at h1
  exact ⟨by rw [strOf_size], h1, h2, h3⟩
theorem write_byte (B b : Nat) (pre : List Nat) (c : Nat) (w : World) (h : BuF B b (bv pre) w) (hlen : pre.length + 1 ≤ 140737488355328) (hBw : B ≤ w.heap.size) :
    Calls Tryd.prog 48 #[.pointer (some ⟨b, 0, none⟩), .int .u8 (c : Int)] w fun e w' => e = .returned .nilIface ∧ BuF B b (bv (pre ++ [c])) w' ∧ Below B w w' ∧ Ot b w w' := by
  refine (writeByte_any B b (bv pre) c w h (by rw [bv_length]; exact hlen) hBw).mono ?_
  rintro e w' ⟨rfl, h1, h2, h3⟩
  exact ⟨rfl, by rw [bv_append]; exact h1, h2, h3⟩
theorem format_any (n : Int) (h0 : -9223372036854775808 ≤ n) (h1 : n ≤ 9223372036854775807) (w : World) (B : Nat) (ht : Tab w B) :
    Calls Tryd.prog 45 #[.int .i64 n, .int .i64 10] w fun e w' => e = .returned (.string (strOf (itoaN n))) ∧ Below w.heap.size w w' := by
  refine (Tryd.strconv_FormatInt_10 n h0 h1 w ht.is).mono ?_
  rintro e w' ⟨rfl, k, os, rfl⟩
  exact ⟨by rw [strOf_itoa], Lib.below_grow _ _ (Nat.le_refl _) k os⟩
theorem formatBool_any (x : Bool) (w : World) :
    Calls Tryd.prog 46 #[.bool x] w fun e w' => e = .returned (.string (strOf (if x then [116, 114, 117, 101] else [102, 97, 108, 115, 101]))) ∧ w = w' := by
  refine (Tryd.strconv_FormatBool x w).mono ?_
  rintro e w' ⟨rfl, rfl⟩
  refine ⟨?_, rfl⟩
  cases x <;> rfl
end Go.Proofs.YtfobmlicmbelnaaDoor
