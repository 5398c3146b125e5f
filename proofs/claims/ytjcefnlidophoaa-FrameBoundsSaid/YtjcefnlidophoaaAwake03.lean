/- drover/droverlaw03.awake: the walk. -/
import Derived.Test.YtjcefnlidophoaaIs03
import Derived.Test.YtjcefnlidophoaaSamep
import Derived.Test.YtjcefnlidophoaaUnpack2
import Derived.Test.YtjcefnlidophoaaFa
import Derived.BigQuiet
import Derived.Lib.SlBytesConst
namespace Go.Proofs.Ytjcefnlidophoaa
open Go.RowKit

theorem pget_put {p : Pk} (hr : pright p = true) : pget (penc p ++ be4 (crcN (penc p))) = .ok p := by
  obtain ⟨h1, h2, h3, h4, h5, -⟩ := pright_iff.1 hr
  have hl : (penc p).length ≤ 1048626 := by
    have n1 := (varint_length p.f).2
    have n2 := (varint_length p.l).2
    have n3 := (varint_length p.s).2
    have n4 := (varint_length p.a).2
    have n5 := (varint_length p.d.length).2
    simp [penc, gB]
    omega
  unfold pget
  rw [if_neg (by rw [List.length_append, be4_length]; omega), us_seal]
  rw [if_neg (by simp)]
  exact pdec_penc hr
def slP : List Nat := [1, 2, 3, 4, 1, 120] ++ be4 (crcN [1, 2, 3, 4, 1, 120])
theorem pack03 (A : Option Addr) (c : Nat) (w : World) (hd : Bs w (.slice A 1 c) [120]) : Calls Try.prog 16 #[.agg #[.int .i64 1, .int .i64 2, .int .i64 3, .int .i64 4, .slice A 1 c]] w
    fun e w' => Below w.heap.size w w' ∧ ∃ u, e = .returned (.tuple #[u, .int .i64 0]) ∧ Bs w' u slP := by
  refine (pack_any 1 2 3 4 [120] A c w hd (by omega) (by omega) (by omega) (by omega)).mono ?_
  rintro e w' ⟨hb, -, h⟩
  obtain ⟨u, rfl, -, hu⟩ := h (by decide +kernel)
  refine ⟨hb, u, rfl, ?_⟩
  rw [show penc ⟨(1 : Int).toNat, (2 : Int).toNat, (3 : Int).toNat, (4 : Int).toNat, [120]⟩ = [1, 2, 3, 4, 1, 120] by decide +kernel] at hu
  exact hu
theorem unpack03 (u : Value) (w : World) (hu : Bs w u slP) : Calls Try.prog 21 #[u] w
    fun e w' => Below w.heap.size w w' ∧ ∃ A c, e = .returned (.tuple #[.agg #[.int .i64 1, .int .i64 2, .int .i64 3, .int .i64 4, .slice A 1 c], .int .i64 0]) ∧ Bs w' (.slice A 1 c) [120] := by
  have hg : pget slP = .ok ⟨1, 2, 3, 4, [120]⟩ := by
    have := pget_put (p := ⟨1, 2, 3, 4, [120]⟩) (by decide +kernel)
    rw [show penc ⟨1, 2, 3, 4, [120]⟩ = [1, 2, 3, 4, 1, 120] by decide +kernel] at this
    exact this
  refine (unpack_any u slP w hu (by simp [slP, be4])).mono ?_
  rw [hg]
  rintro e w' ⟨hb, A, c, rfl, -, h⟩
  exact ⟨hb, A, c, rfl, h⟩
theorem get03 (u : Value) (w : World) (hu : Bs w u [7, 0, 0, 0, 1, 2, 3, 4]) : Calls Try.prog 19 #[u] w
    fun e w' => Below w.heap.size w w' ∧ e = .returned (.tuple #[.agg #[.int .u8 0, .slice none 0 0, .slice none 0 0, .slice none 0 0], .int .i64 12]) := by
  have hu12 : us [7, 0, 0, 0, 1, 2, 3, 4] = ([], 12) := by decide +kernel
  have hg : mget [7, 0, 0, 0, 1, 2, 3, 4] = .error 12 := by
    unfold mget
    rw [if_neg (by simp), hu12, if_pos (by simp)]
  refine (getm_any u _ w hu (by simp)).mono ?_
  rw [hg]
  rintro e w' ⟨hb, h⟩
  exact ⟨hb, h⟩
theorem mrep7 (w : World) (S : Nat → Prop) : MRep w S (.agg #[.int .u8 7, .slice none 0 0, .slice none 0 0, .slice none 0 0]) ⟨7, [], [], []⟩ :=
  ⟨⟨by decide, by simp, by simp, by simp⟩, none, 0, none, 0, none, 0, rfl, Nat.le_refl _, Nat.le_refl _, Nat.le_refl _, fun h => absurd rfl h, RepsS.nil _ _ _, fun i x hx => by simp at hx⟩
theorem mrep7n (w : World) (S : Nat → Prop) (g : Nat) (T : TypeId) (fr : Nat × Nat) (h : w.heap[g]? = some (.cells #[.int .i64 1, .int .i64 (-1)] T fr)) (hS : S g) : MRep w S (.agg #[.int .u8 7, .slice (some ⟨g, 0, none⟩) 2 2, .slice none 0 0, .slice none 0 0]) ⟨7, [1, -1], [], []⟩ :=
  ⟨⟨by decide, by intro n hn; simp at hn; omega, by simp, by simp⟩, some ⟨g, 0, none⟩, 2, none, 0, none, 0, rfl, Nat.le_refl _, Nat.le_refl _, Nat.le_refl _, fun _ => ⟨g, 0, rfl, hS, fun i x hx => by
    rw [show 0 + i = i by omega, cell_block h i, ← Array.getElem?_toList]
    exact hx⟩, RepsS.nil _ _ _, fun i x hx => by simp at hx⟩
theorem samep03 (A A' : Option Addr) (c c' : Nat) (w : World) (hd : Bs w (.slice A 1 c) [120]) (hd' : Bs w (.slice A' 1 c') [120]) :
    Calls Try.prog 17 #[.agg #[.int .i64 1, .int .i64 2, .int .i64 3, .int .i64 4, .slice A 1 c], .agg #[.int .i64 1, .int .i64 2, .int .i64 3, .int .i64 4, .slice A' 1 c']] w fun e w' => e = .returned (.bool true) ∧ Below w.heap.size w w' := by
  refine (samep_any 1 2 3 4 1 2 3 4 [120] [120] A A' c c' w hd hd').mono ?_
  rintro e w' ⟨rfl, h⟩
  exact ⟨congrArg Ending.returned (congrArg Value.bool (decide_eq_true ⟨rfl, rfl, rfl, rfl, rfl⟩)), h⟩
structure Aw (w : World) (g1 g4 : Nat) (A1 A4 : Option Addr) (c1 c4 : Nat) (u : Value) (cur : World) : Prop where
  bel : Below w.heap.size w cur
  p1 : cur.heap[g1]? = some (.cells #[.int .i64 1, .int .i64 2, .int .i64 3, .int .i64 4, .slice A1 1 c1] 29 (0, 0))
  p4 : cur.heap[g4]? = some (.cells #[.int .i64 1, .int .i64 2, .int .i64 3, .int .i64 4, .slice A4 1 c4] 29 (0, 0))
  d1 : Bs cur (.slice A1 1 c1) [120]
  d4 : Bs cur (.slice A4 1 c4) [120]
  b : Bs cur u slP
theorem Aw.below {w cur cur' : World} {g1 g4 : Nat} {A1 A4 : Option Addr} {c1 c4 : Nat} {u : Value} (h : Aw w g1 g4 A1 A4 c1 c4 u cur) (hb : Below cur.heap.size cur cur') : Aw w g1 g4 A1 A4 c1 c4 u cur' :=
  ⟨nxt h.bel hb, heap_below h.p1 hb, heap_below h.p4 hb, h.d1.below hb, h.d4.below hb, h.b.below hb⟩
theorem Aw.alloc {w cur : World} {g1 g4 : Nat} {A1 A4 : Option Addr} {c1 c4 : Nat} {u : Value} (h : Aw w g1 g4 A1 A4 c1 c4 u cur) (o : Obj) : Aw w g1 g4 A1 A4 c1 c4 u (cur.alloc o) :=
  h.below ((Below.refl _ _).alloc (Nat.le_refl _) o)
set_option maxRecDepth 100000 in
set_option maxHeartbeats 3200000 in
theorem awake03_any (w : World) : Calls Try.prog 12 #[] w fun e w' => e = .returned (.bool true) ∧ Below w.heap.size w w' := by
  have hcv : ∀ (w : World) (C : Array Value) (n c g : Nat), g = w.heap.size → (convert 27 27 (.slice (some ⟨g, 0, none⟩) n c)).run Try.prog (w.alloc (.cells C 5)) = .ok (.slice (some ⟨g, 0, none⟩) n c) (w.alloc (.cells C 5 (C.size, C.size + 1))) := by
    intro w C n c g hg
    subst hg
    exact Lib.run_convert_bytes_const (P := Try.prog) w 27 5 C n c Try.underlying27 Try.underlying5
  obtain ⟨X0, hX0⟩ : ∃ X : World, X = (w.alloc (.cells #[.int .u8 120] 5 (1, 2))).alloc (.cells #[.int .i64 1, .int .i64 2, .int .i64 3, .int .i64 4, .slice (some ⟨w.heap.size, 0, none⟩) 1 1] 29) := ⟨_, rfl⟩
  have hbX : Below w.heap.size w X0 := by rw [hX0]; exact two _ _ _
  have p1 : X0.heap[w.heap.size + 1]? = some (.cells #[.int .i64 1, .int .i64 2, .int .i64 3, .int .i64 4, .slice (some ⟨w.heap.size, 0, none⟩) 1 1] 29 (0, 0)) := by rw [hX0]; exact heap_new' _ _ _ (by simp)
  have d1 : Bs X0 (.slice (some ⟨w.heap.size, 0, none⟩) 1 1) [120] := by rw [hX0]; exact (Bs.made' w #[.int .u8 120] 5 [120] 1 w.heap.size rfl rfl rfl (by simp) (1, 2)).alloc _
  obtain ⟨c0, c1, c2, c3, c4⟩ := box5f p1
  have hpack := Lib.hid (pack03 _ _ X0 d1)
  rw [hX0] at c0 c1 c2 c3 c4 hpack
  go_enter Try.func12, Try.ntmps12
  go_wp2_with fail
  refine hpack.out.mono ?_
  rw [← hX0]
  rintro e w1 ⟨hb1, u, rfl, hu⟩
  clear hpack c0 c1 c2 c3 c4
  have p1 := heap_below p1 hb1
  have d1 := d1.below hb1
  have hbw1 := nxt hbX hb1
  clear hX0 hbX hb1
  go_wp2_with fail
  refine (unpack03 u w1 hu).mono ?_
  rintro e w2 ⟨hb2, A4, c4, rfl, d4⟩
  have hbB := (Below.refl w2.heap.size w2).alloc (Nat.le_refl _) (.cells #[.int .i64 1, .int .i64 2, .int .i64 3, .int .i64 4, .slice A4 1 c4] 29)
  have aw2 : Aw w (w.heap.size + 1) w2.heap.size _ A4 _ c4 u (w2.alloc (.cells #[.int .i64 1, .int .i64 2, .int .i64 3, .int .i64 4, .slice A4 1 c4] 29)) :=
    ⟨nxt (nxt hbw1 hb2) hbB, heap_below (heap_below p1 hb2) hbB, heap_new _ _, (d1.below hb2).below hbB, d4.below hbB, (hu.below hb2).below hbB⟩
  clear hu d1 p1 hbw1 hb2 d4 hbB
  have m8 := Bs.made' (w2.alloc (.cells #[.int .i64 1, .int .i64 2, .int .i64 3, .int .i64 4, .slice A4 1 c4] 29)) #[.int .u8 7, .int .u8 0, .int .u8 0, .int .u8 0, .int .u8 1, .int .u8 2, .int .u8 3, .int .u8 4] 5 [7, 0, 0, 0, 1, 2, 3, 4] 8 (w2.heap.size + 1) (by simp) rfl rfl (by simp)
  have aw3 := aw2.alloc (.cells #[.int .u8 7, .int .u8 0, .int .u8 0, .int .u8 0, .int .u8 1, .int .u8 2, .int .u8 3, .int .u8 4] 5)
  have hget := Lib.hid (get03 _ _ m8)
  clear aw2 m8
  go_wp2_with fail
  refine hget.out.mono ?_
  rintro e w3 ⟨hb3, rfl⟩
  have aw4 := aw3.below hb3
  clear aw3 hget hb3
  have aw5 := (aw4.alloc (.cells #[.int .u8 0, .slice none 0 0, .slice none 0 0, .slice none 0 0] 26)).alloc (.cells #[.int .u8 7, .int .u8 0, .int .u8 0, .int .u8 0] 5)
  have m4 := Bs.made' (w3.alloc (.cells #[.int .u8 0, .slice none 0 0, .slice none 0 0, .slice none 0 0] 26)) #[.int .u8 7, .int .u8 0, .int .u8 0, .int .u8 0] 5 [7, 0, 0, 0] 4 (w3.heap.size + 1) (by simp) rfl rfl (by simp)
  have his := Lib.hid (is03_any ⟨7, [], [], []⟩ _ _ [7, 0, 0, 0] _ (mrep7 _ _) (by decide +kernel) m4 (by decide +kernel))
  clear aw4 m4
  go_wp2_with fail
  refine his.out.mono ?_
  rintro e w4 ⟨rfl, hb4⟩
  have aw6 := aw5.below hb4
  clear aw5 his hb4
  have aw7 := (aw6.alloc (.cells #[.int .i64 1, .int .i64 (-1)] 2)).alloc (.cells #[.int .u8 7, .int .u8 2, .int .u8 2, .int .u8 1, .int .u8 0, .int .u8 0] 5)
  have m6 := Bs.made' (w4.alloc (.cells #[.int .i64 1, .int .i64 (-1)] 2)) #[.int .u8 7, .int .u8 2, .int .u8 2, .int .u8 1, .int .u8 0, .int .u8 0] 5 [7, 2, 2, 1, 0, 0] 6 (w4.heap.size + 1) (by simp) rfl rfl (by simp)
  have hnm : ((w4.alloc (.cells #[.int .i64 1, .int .i64 (-1)] 2)).alloc (.cells #[.int .u8 7, .int .u8 2, .int .u8 2, .int .u8 1, .int .u8 0, .int .u8 0] 5)).heap[w4.heap.size]? = some (.cells #[.int .i64 1, .int .i64 (-1)] 2 (0, 0)) := heap_old (heap_new _ _) _
  have his := Lib.hid (is03_any ⟨7, [1, -1], [], []⟩ _ _ [7, 2, 2, 1, 0, 0] _ (mrep7n _ _ _ _ _ hnm (lt_heap hnm)) (by decide +kernel) m6 (by decide +kernel))
  clear aw6 m6 hnm
  go_wp2_with fail
  refine his.out.mono ?_
  rintro e w5 ⟨rfl, hb5⟩
  have aw8 := aw7.below hb5
  clear aw7 his hb5
  have aw9 := aw8.alloc (.cells #[.int .u8 1, .int .u8 2, .int .u8 3, .int .u8 4, .int .u8 1, .int .u8 120] 5)
  have m7 := Bs.made' w5 #[.int .u8 1, .int .u8 2, .int .u8 3, .int .u8 4, .int .u8 1, .int .u8 120] 5 [1, 2, 3, 4, 1, 120] 6 w5.heap.size rfl rfl rfl (by simp)
  have hsl := Lib.hid (refseal_bs _ _ _ m7 (by simp))
  clear aw8 m7
  go_wp2_with fail
  refine hsl.out.mono ?_
  rintro e w6 ⟨u6, rfl, -, hu6, hb6⟩
  have aw10 := aw9.below hb6
  have hu6 : Bs w6 u6 slP := hu6
  clear aw9 hsl hb6
  have hsm := Lib.hid (same_bs u u6 slP slP true w6 aw10.b hu6 (by simp))
  obtain ⟨c0, c1, c2, c3, c4'⟩ := box5f aw10.p1
  obtain ⟨e0, e1, e2, e3, e4⟩ := box5f aw10.p4
  have hsp := Lib.hid (samep03 _ _ _ _ w6 aw10.d1 aw10.d4)
  have hbel := aw10.bel
  clear aw10 hu6
  go_wp2_with fail
  refine hsm.out.mono ?_
  rintro e w7 ⟨rfl, rfl⟩
  go_wp2_with fail
  refine hsp.out.mono ?_
  rintro e w8 ⟨rfl, hb8⟩
  have hbel8 := nxt hbel hb8
  go_wp2_with fail
  go_ret
  exact ⟨rfl, hbel8⟩
end Go.Proofs.Ytjcefnlidophoaa
