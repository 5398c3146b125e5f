/- droverlaw03.FrameBounds returns true whatever its arguments: as many numbers, values and blobs as may be, and no more; numbers of a packet up to 2^62; no data with Seq 0. For every input, without conditions. -/
import Derived.Test.YtjcefnlidophoaaRow
import Derived.Test.YtjcefnlidophoaaAwake03
import Derived.Test.YtjcefnlidophoaaMopen
import Derived.Test.YtjcefnlidophoaaPopen
import Derived.Test.YtjcefnlidophoaaSmallm
import Derived.Deep.RegionHeld3
import Derived.Deep.DeepCutAuto
import Derived.Deep.OwnRows
import Derived.BigQuiet
import Derived.Lib.SmallJoins
namespace Go.Proofs.Ytjcefnlidophoaa.frameBounds
open Go.ChangeShapes Go.WideShapes Go.ChangeAt Go.RowKit
set_option linter.unusedVariables false

set_option maxRecDepth 100000 in
theorem arr4i_open {H : Type} {enc : TypeId × Value → H} {W : World} {base : Nat} {v : Value} {d : DataW H} {p : List MemPlace} (hv : Value.okWide Try.prog W .any base 40 v)
    (h : DataW.Trod enc Try.prog W 0 (fun _ => true) true 40 v d p) :
    ∃ x y z u : Int, v = .agg #[.int .i64 x, .int .i64 y, .int .i64 z, .int .i64 u] ∧ (Lit.int .i64 x).wf = true ∧ (Lit.int .i64 y).wf = true ∧ (Lit.int .i64 z).wf = true ∧ (Lit.int .i64 u).wf = true := by
  have hC : Try.prog.cellsOf 40 = 4 := by kernel_rfl
  have hE : Try.prog.cellsOf 2 = 1 := by kernel_rfl
  simp only [Value.okWide, Try.underlying40] at hv
  obtain ⟨cs, rfl, hs, _⟩ := hv
  obtain ⟨c0, c1, c2, c3, rfl⟩ := Joins.array4 (hs.trans hC)
  obtain ⟨fuel, hf⟩ := h
  obtain ⟨xs, m, _, _, _, hx, hi⟩ := DataW.trod_array Try.underlying40 hf
  have hcs : (Value.agg #[c0, c1, c2, c3]).cells.toList = [c0, c1, c2, c3] := rfl
  rw [hcs] at hi
  have h0 := hi 0 (by omega)
  have h1 := hi 1 (by omega)
  have h2 := hi 2 (by omega)
  have h3 := hi 3 (by omega)
  rw [hE] at h0 h1 h2 h3
  rw [List.getElem?_eq_getElem (by omega)] at h0 h1 h2 h3
  obtain ⟨x, e0, _, k0⟩ := DataW.trod_int Try.underlying2 h0
  obtain ⟨y, e1, _, k1⟩ := DataW.trod_int Try.underlying2 h1
  obtain ⟨z, e2, _, k2⟩ := DataW.trod_int Try.underlying2 h2
  obtain ⟨u, e3, _, k3⟩ := DataW.trod_int Try.underlying2 h3
  simp at e0 e1 e2 e3
  subst e0
  subst e1
  subst e2
  subst e3
  exact ⟨x, y, z, u, rfl, k0, k1, k2, k3⟩
def vZero : Va := .mk 1 0 [] []
def bndM (a b c : Nat) : Ms := ⟨7, List.replicate a 0, List.replicate b vZero, List.replicate c []⟩
theorem flat_rep {α β : Type} (f : α → List β) (x : α) (n : Nat) : ((List.replicate n x).flatMap f).length = n * (f x).length := by
  induction n with
  | zero => simp
  | succ n ih => rw [List.replicate_succ, List.flatMap_cons, List.length_append, ih, Nat.succ_mul]; omega
theorem bnd_len (a b c : Nat) (ha : a < 80) (hb : b < 80) (hc : c < 24) : (menc (bndM a b c)).length + 4 ≤ 1048576 := by
  have h1 := varint_length a
  have h2 := varint_length b
  have h3 := varint_length c
  have e1 : (gN 0).length = 1 := rfl
  have e2 : (enc 16 vZero).length = 2 := rfl
  have e3 : (gB []).length = 1 := rfl
  unfold menc bndM
  simp only [List.length_append, flat_rep, List.length_replicate, e1, e2, e3, List.length_cons, List.length_nil]
  omega
theorem bnd_right (a b c : Nat) (ha : a < 80) (hb : b < 80) (hc : c < 24) : mright (bndM a b c) = true ↔ a ≤ 64 ∧ b ≤ 64 ∧ c ≤ 16 := by
  rw [mright_iff]
  have hl := bnd_len a b c ha hb hc
  have hr : right vZero = true := by decide
  unfold bndM at *
  simp only [List.length_replicate]
  constructor
  · rintro ⟨h1, h2, -, h4, -, -⟩
    exact ⟨h1, h2, h4⟩
  · rintro ⟨h1, h2, h4⟩
    refine ⟨h1, h2, fun v hv => ?_, h4, fun l h => ?_, hl⟩
    · rw [List.eq_of_mem_replicate hv]; exact hr
    · rw [List.eq_of_mem_replicate h]; simp
theorem bnd_ok (a b c : Nat) : MOk (bndM a b c) := by
  refine ⟨by simp [bndM], fun n hn => ?_, fun v hv => ?_, fun l hl => ?_⟩
  · rw [List.eq_of_mem_replicate hn]; omega
  · rw [List.eq_of_mem_replicate hv]; simp [vZero, Ok]
  · rw [List.eq_of_mem_replicate hl]; simp
def Zs (C : Array Value) (j : Nat) : Prop := ∀ i, i < j → C[i * 4]? = some (.int .u8 1) ∧ C[i * 4 + 1]? = some (.int .i64 0) ∧ C[i * 4 + 2]? = some (.string ⟨#[]⟩) ∧ C[i * 4 + 3]? = some (.slice none 0 0)
theorem zs_step {C : Array Value} {j m : Nat} (hC : C.size = m * 4) (hj : j < m) (h : Zs C j) :
    Zs ((((C.setIfInBounds (j * 4) (.int .u8 1)).setIfInBounds (j * 4 + 1) (.int .i64 0)).setIfInBounds (j * 4 + 2) (.string ⟨#[]⟩)).setIfInBounds (j * 4 + 3) (.slice none 0 0)) (j + 1) := by
  intro i hi
  by_cases hij : i = j
  · subst hij
    simp only [Array.getElem?_setIfInBounds, Array.size_setIfInBounds]
    refine ⟨?_, ?_, ?_, ?_⟩
    · rw [if_neg (by omega), if_neg (by omega), if_neg (by omega), if_pos trivial, if_pos (by omega)]
    · rw [if_neg (by omega), if_neg (by omega), if_pos trivial, if_pos (by omega)]
    · rw [if_neg (by omega), if_pos trivial, if_pos (by omega)]
    · rw [if_pos trivial, if_pos (by omega)]
  · obtain ⟨h0, h1, h2, h3⟩ := h i (by omega)
    simp only [Array.getElem?_setIfInBounds, Array.size_setIfInBounds]
    refine ⟨?_, ?_, ?_, ?_⟩
    · rw [if_neg (by omega), if_neg (by omega), if_neg (by omega), if_neg (by omega), h0]
    · rw [if_neg (by omega), if_neg (by omega), if_neg (by omega), if_neg (by omega), h1]
    · rw [if_neg (by omega), if_neg (by omega), if_neg (by omega), if_neg (by omega), h2]
    · rw [if_neg (by omega), if_neg (by omega), if_neg (by omega), if_neg (by omega), h3]
theorem one_made (z : Value) (n i : Nat) (hi : i < n) : (madeCells #[z] n)[i]? = some z := by simp [madeCells, hi, Nat.mod_one]
theorem bnd_rep {w : World} {a b c g1 g2 g3 : Nat} {C : Array Value} (h1 : w.heap[g1]? = some (.cells (madeCells #[.int .i64 0] a) 2 (0, 0))) (h2 : w.heap[g2]? = some (.cells C 43 (0, 0))) (hC : Zs C b) (h3 : w.heap[g3]? = some (.cells (madeCells #[.slice none 0 0] c) 27 (0, 0))) :
    MRep w (fun x => x < w.heap.size) (.agg #[.int .u8 7, .slice (some ⟨g1, 0, none⟩) a a, .slice (some ⟨g2, 0, none⟩) b b, .slice (some ⟨g3, 0, none⟩) c c]) (bndM a b c) := by
  refine ⟨bnd_ok a b c, some ⟨g1, 0, none⟩, a, some ⟨g2, 0, none⟩, b, some ⟨g3, 0, none⟩, c, by simp [bndM], by simp [bndM], by simp [bndM], by simp [bndM], ?_, ?_, ?_⟩
  · intro _
    refine ⟨g1, 0, rfl, lt_heap h1, fun i x hx => ?_⟩
    have hi : i < a := by
      have := (List.getElem?_eq_some_iff.1 hx).1
      simpa [zv, bndM] using this
    have hx' : x = .int .i64 0 := by simpa [zv, bndM, hi] using hx.symm
    rw [Nat.zero_add, cell_block h1, one_made _ _ _ hi, hx']
  · refine ⟨fun _ => .agg #[.int .u8 1, .int .i64 0, .string ⟨#[]⟩, .slice none 0 0], fun i hi => ?_, fun i t ht => ?_⟩
    · have hi' : i < b := by simpa [bndM] using hi
      obtain ⟨e0, e1, e2, e3⟩ := hC i hi'
      refine ⟨g2, 0, _, _, _, _, rfl, lt_heap h2, rfl, fun j v hv => ?_⟩
      rw [Nat.zero_add, cell_block h2]
      match j, hv with
      | 0, hv => rw [Nat.add_zero, e0]; exact hv
      | 1, hv => rw [e1]; exact hv
      | 2, hv => rw [e2]; exact hv
      | 3, hv => rw [e3]; exact hv
      | j + 4, hv => simp at hv
    · have : t = vZero := by
        have h := List.getElem?_eq_some_iff.1 ht
        exact List.eq_of_mem_replicate (List.mem_of_getElem? ht)
      subst this
      exact (RepsS.nil w _ none).mk (k := 1) (n := 0) (s := []) (c := 0) (by omega) (by omega) (by omega) (by simp) (by simp) (by simp) (by simp)
  · intro i x hx
    have hi : i < c := by
      have := (List.getElem?_eq_some_iff.1 hx).1
      simpa [bndM] using this
    have hx' : x = [] := List.eq_of_mem_replicate (List.mem_of_getElem? hx)
    subst hx'
    refine ⟨g3, 0, none, 0, rfl, lt_heap h3, ?_, by simp, fun h => absurd rfl h, by simp⟩
    rw [Nat.zero_add, cell_block h3, one_made _ _ _ hi]
    rfl
def rng (z : Int) : Bool := decide (0 ≤ z) && decide (z ≤ 4611686018427387904)
theorem pint_none (a b c d : Int) : pint a b c d [] = [a, b, c, d].all rng := by
  have hb : (big : Int) = 4611686018427387904 := rfl
  unfold pint rng
  rw [hb]
  simp [Bool.decide_and, Bool.and_assoc]
theorem pint_one (a b c d : Int) : pint a b c d [1] = ([a, b, c, d].all rng && (c != 0)) := by
  have hb : (big : Int) = 4611686018427387904 := rfl
  unfold pint rng
  rw [hb]
  by_cases hc : c = 0
  · subst hc
    simp
  · have hc' : (c != 0) = true := bne_iff_ne.2 hc
    simp [Bool.decide_and, Bool.and_assoc, hc, hc']
theorem val_info : (Try.prog.info? 43).map (fun i => (i.zero, i.size, i.bytes)) = some (some (.agg #[.int .u8 0, .int .i64 0, .string ⟨#[]⟩, .slice none 0 0]), 4, 56) := by kernel_rfl
theorem i64_info : (Try.prog.info? 2).map (fun i => (i.zero, i.size, i.bytes)) = some (some (.int .i64 0), 1, 8) := by kernel_rfl
theorem sl_info : (Try.prog.info? 27).map (fun i => (i.zero, i.size, i.bytes)) = some (some (.slice none 0 0), 1, 24) := by kernel_rfl
/-- The message in memory. -/
def BM (W : World) (a b c G g1 g2 g3 j : Nat) (w : World) : Prop := ∃ C, w.heap[G]? = some (.cells #[.int .u8 7, .slice (some ⟨g1, 0, none⟩) a a, .slice (some ⟨g2, 0, none⟩) b b, .slice (some ⟨g3, 0, none⟩) c c] 26 (0, 0)) ∧
  w.heap[g1]? = some (.cells (madeCells #[.int .i64 0] a) 2 (0, 0)) ∧ w.heap[g2]? = some (.cells C 43 (0, 0)) ∧ w.heap[g3]? = some (.cells (madeCells #[.slice none 0 0] c) 27 (0, 0)) ∧ C.size = b * 4 ∧ Zs C j ∧ W.heap.size ≤ g2 ∧ Below W.heap.size W w
def IsBM (W : World) (a b c : Nat) (s : Value) (w : World) : Prop := ∃ G g1 g2 g3, s = .pointer (some ⟨G, 0, none⟩) ∧ BM W a b c G g1 g2 g3 0 w
theorem alloc4 (W : World) (o0 o1 o2 o3 : Obj) : (((((W.alloc o0).alloc o1).alloc o2).alloc o3).drew).heap[W.heap.size]? = some o0 ∧ (((((W.alloc o0).alloc o1).alloc o2).alloc o3).drew).heap[W.heap.size + 1]? = some o1 ∧ (((((W.alloc o0).alloc o1).alloc o2).alloc o3).drew).heap[W.heap.size + 1 + 1]? = some o2 ∧
    (((((W.alloc o0).alloc o1).alloc o2).alloc o3).drew).heap[W.heap.size + 1 + 1 + 1]? = some o3 ∧ Below W.heap.size W ((((W.alloc o0).alloc o1).alloc o2).alloc o3).drew :=
  ⟨heap_old (heap_old (heap_old (heap_new W o0) o1) o2) o3, heap_old (heap_old (heap_new' (W.alloc o0) o1 (W.heap.size + 1) (by simp)) o2) o3, heap_old (heap_new' ((W.alloc o0).alloc o1) o2 (W.heap.size + 1 + 1) (by simp)) o3, heap_new' (((W.alloc o0).alloc o1).alloc o2) o3 (W.heap.size + 1 + 1 + 1) (by simp),
    (nxt (two W o0 o1) (nxt ((Below.refl _ _).alloc (Nat.le_refl _) o2) ((Below.refl _ _).alloc (Nat.le_refl _) o3))).drew⟩
/-- What is told of a right message's bytes, or of one that is none. -/
def PutQ (ok : Bool) (w : World) (e : Ending) (w' : World) : Prop := Below w.heap.size w w' ∧ ∃ (u : Option Addr) (n k er : Nat), e = .returned (.tuple #[.slice u n k, .int .i64 (er : Int)]) ∧ ((ok = true ∧ er = 0 ∧ 0 < n) ∨ (ok = false ∧ er = 14 ∧ n = 0))
theorem putq {m : Ms} {w w' : World} {e : Ending} (h : OutPm m w e w') : PutQ (mright m) w e w' := by
  obtain ⟨hb, hno, hyes⟩ := h
  refine ⟨hb, ?_⟩
  cases hr : mright m with
  | false => exact ⟨none, 0, 0, 14, hno hr, .inr ⟨rfl, rfl, rfl⟩⟩
  | true =>
    obtain ⟨u, e1, -, hu⟩ := hyes hr
    obtain ⟨⟨A, c, rfl, -, -⟩, -⟩ := hu
    exact ⟨A, _, c, 0, e1, .inl ⟨rfl, rfl, by rw [List.length_append, be4_length]; omega⟩⟩
theorem packq {ok : Bool} {l : List Nat} {w w' : World} {e : Ending} (h : OutPack ok l w e w') : PutQ ok w e w' := by
  obtain ⟨hb, hno, hyes⟩ := h
  refine ⟨hb, ?_⟩
  cases ok with
  | false => exact ⟨none, 0, 0, 14, hno rfl, .inr ⟨rfl, rfl, rfl⟩⟩
  | true =>
    obtain ⟨u, e1, -, hu⟩ := hyes rfl
    obtain ⟨⟨A, c, rfl, -, -⟩, -⟩ := hu
    exact ⟨A, _, c, 0, e1, .inl ⟨rfl, rfl, by rw [List.length_append, be4_length]; omega⟩⟩
theorem all_snoc (p : Int → Bool) (l : List Int) (j : Nat) (h : j < l.length) : (l.take (j + 1)).all p = ((l.take j).all p && p l[j]) := by
  rw [List.take_succ_eq_append_getElem h, List.all_append]
  simp

set_option maxRecDepth 100000 in
set_option maxHeartbeats 6400000 in
theorem walk (w : World) (a0 : Int) (a1 : Int) (a2 : Int) (x3 y3 z3 u3 : Int) (b4 : Bool) (w0 : (Lit.int .u8 a0).wf = true) (w1 : (Lit.int .u8 a1).wf = true) (w2 : (Lit.int .u8 a2).wf = true) (w3 : (Lit.int .i64 x3).wf = true ∧ (Lit.int .i64 y3).wf = true ∧ (Lit.int .i64 z3).wf = true ∧ (Lit.int .i64 u3).wf = true) (w4 : b4 = b4) :
    Calls Try.prog 4 #[.int .u8 a0, .int .u8 a1, .int .u8 a2, .agg #[.int .i64 x3, .int .i64 y3, .int .i64 z3, .int .i64 u3], .bool b4] w fun e w' => e = .returned (.bool true) ∧ Below w.heap.size w w' := by
  obtain ⟨x, rfl, hx8⟩ := wf_u8 w0
  obtain ⟨y, rfl, hy8⟩ := wf_u8 w1
  obtain ⟨z, rfl, hz8⟩ := wf_u8 w2
  obtain ⟨r0, r1, r2, r3⟩ := w3
  have R0 := wf_i64 r0
  have R1 := wf_i64 r1
  have R2 := wf_i64 r2
  have R3 := wf_i64 r3
  clear w0 w1 w2 r0 r1 r2 r3
  obtain ⟨W, hW⟩ : ∃ W, W = w.alloc (.cells #[.int .i64 x3, .int .i64 y3, .int .i64 z3, .int .i64 u3] 40) := ⟨_, rfl⟩
  obtain ⟨Bn, hBn⟩ : ∃ B, B = w.heap.size := ⟨_, rfl⟩
  have qn : W.heap[Bn]? = some (.cells #[.int .i64 x3, .int .i64 y3, .int .i64 z3, .int .i64 u3] 40 (0, 0)) := by rw [hW, hBn]; exact heap_new _ _
  have hbW : Below w.heap.size w W := by rw [hW]; exact (Below.refl _ _).alloc (Nat.le_refl _) _
  go_enter Try.func4, Try.ntmps4
  go_upto_region 1 with fail
  rw [← hW, ← hBn]
  clear hW hBn
  go_cut [11, 12, 13] (fun s1 s2 s3 wx => ∃ a b c : Nat, s1 = .int .i64 (a : Int) ∧ s2 = .int .i64 (b : Int) ∧ s3 = .int .i64 (c : Int) ∧ a < 80 ∧ b < 80 ∧ c < 24 ∧ W = wx)
  case first =>
    go_wp2_with fail
    go_meet
    exact ⟨x % 80, y % 80, z % 24, by go_num, by go_num, by go_num, by omega, by omega, by omega, rfl⟩
  case rest =>
  obtain ⟨a, b, c, rfl, rfl, rfl, ha, hb, hc, rfl⟩ := hcut
  clear hx8 hy8 hz8
  have hmk1 : ∀ w : World, (Instr.makeSlice 22 (.int .i64 (a : Int)) (.int .i64 (a : Int))).run Try.prog w = .ok (.slice (some ⟨w.heap.size, 0, none⟩) a a) (w.alloc (.cells (madeCells #[.int .i64 0] a) 2)) :=
    fun w => run_make_row' 22 2 _ 8 Try.underlying22 i64_info rfl .i64 .i64 a (by omega) (by omega) w
  have hmk3 : ∀ w : World, (Instr.makeSlice 24 (.int .i64 (c : Int)) (.int .i64 (c : Int))).run Try.prog w = .ok (.slice (some ⟨w.heap.size, 0, none⟩) c c) (w.alloc (.cells (madeCells #[.slice none 0 0] c) 27)) :=
    fun w => run_make_row' 24 27 _ 24 Try.underlying24 sl_info rfl .i64 .i64 c (by omega) (by omega) w
  obtain ⟨CV, hCV⟩ : ∃ C : Array Value, C = madeCells (Value.agg #[.int .u8 0, .int .i64 0, .string ⟨#[]⟩, .slice none 0 0]).cells (b * 4) := ⟨_, rfl⟩
  have hmk2 : ∀ w : World, (Instr.makeSlice 23 (.int .i64 (b : Int)) (.int .i64 (b : Int))).run Try.prog w = .ok (.slice (some ⟨w.heap.size, 0, none⟩) b b) (w.alloc (.cells CV 43)) := fun w => by
    obtain ⟨iv, hiv, hz1, hz2, hz3⟩ := info_parts val_info
    have := run_make (P := Try.prog) w 23 43 iv _ Try.underlying23 hiv hz1 .i64 .i64 b b (by omega) (Int.le_refl _) (by rw [hz3]; omega) (by omega)
    rw [hz2] at this
    rw [hCV]
    exact this
  have hCS : CV.size = b * 4 := by rw [hCV]; exact size_madeCells _ _
  clear hCV
  have M1 := Lib.hid hmk1
  have M2 := Lib.hid hmk2
  have M3 := Lib.hid hmk3
  have HCS := Lib.hid hCS
  have QN := Lib.hid qn
  clear hmk1 hmk2 hmk3 hCS qn
  go_upto_region 2 with fail
  go_cut [14] (fun s wx => IsBM W a b c s wx)
  case first =>
    as_aux_lemma =>
      obtain ⟨C1, hm1⟩ : ∃ C, C = madeCells #[Value.int .i64 0] a := ⟨_, rfl⟩
      obtain ⟨C3, hm3⟩ : ∃ C, C = madeCells #[Value.slice none 0 0] c := ⟨_, rfl⟩
      have HB : Hid (∀ s w, (∃ G g1 g2 g3, s = .pointer (some ⟨G, 0, none⟩) ∧ ∃ C, w.heap[G]? = some (.cells #[.int .u8 7, .slice (some ⟨g1, 0, none⟩) a a, .slice (some ⟨g2, 0, none⟩) b b, .slice (some ⟨g3, 0, none⟩) c c] 26 (0, 0)) ∧
        w.heap[g1]? = some (.cells C1 2 (0, 0)) ∧ w.heap[g2]? = some (.cells C 43 (0, 0)) ∧ w.heap[g3]? = some (.cells C3 27 (0, 0)) ∧ C.size = b * 4 ∧ Zs C 0 ∧ W.heap.size ≤ g2 ∧ Below W.heap.size W w) → IsBM W a b c s w) := by
        rw [hm1, hm3]
        exact fun s w h => h
      rw [← hm1] at M1
      rw [← hm3] at M3
      clear hm1 hm3
      go_region_held3 (fun _ => True) (trivial)
        (first
        | (rw [M1.out]; rw [Result.andThen_ok]; rw [Oper.upon_value])
        | (rw [M2.out]; rw [Result.andThen_ok]; rw [Oper.upon_value])
        | (rw [M3.out]; rw [Result.andThen_ok]; rw [Oper.upon_value])
        | (fail))
      all_goals
        as_aux_lemma =>
          go_wp2_with fail
          go_meet
          obtain ⟨e0, e1, e2, e3, eb⟩ := alloc4 W _ _ _ _
          refine HB.out _ _ ?_
          first
            | exact ⟨_, W.heap.size + 1, W.heap.size + 1 + 1, W.heap.size + 1 + 1 + 1, rfl, CV, e0, e1, e2, e3, HCS.out, fun i h => absurd h (by omega), by omega, eb⟩
            | exact ⟨_, W.heap.size + 1, W.heap.size + 1 + 1 + 1, W.heap.size + 1 + 1, rfl, CV, e0, e1, e3, e2, HCS.out, fun i h => absurd h (by omega), by omega, eb⟩
            | exact ⟨_, W.heap.size + 1 + 1, W.heap.size + 1, W.heap.size + 1 + 1 + 1, rfl, CV, e0, e2, e1, e3, HCS.out, fun i h => absurd h (by omega), by omega, eb⟩
            | exact ⟨_, W.heap.size + 1 + 1, W.heap.size + 1 + 1 + 1, W.heap.size + 1, rfl, CV, e0, e2, e3, e1, HCS.out, fun i h => absurd h (by omega), by omega, eb⟩
            | exact ⟨_, W.heap.size + 1 + 1 + 1, W.heap.size + 1, W.heap.size + 1 + 1, rfl, CV, e0, e3, e1, e2, HCS.out, fun i h => absurd h (by omega), by omega, eb⟩
            | exact ⟨_, W.heap.size + 1 + 1 + 1, W.heap.size + 1 + 1, W.heap.size + 1, rfl, CV, e0, e3, e2, e1, HCS.out, fun i h => absurd h (by omega), by omega, eb⟩
            | exact ⟨_, W.heap.size, W.heap.size + 1 + 1, W.heap.size + 1 + 1 + 1, rfl, CV, e1, e0, e2, e3, HCS.out, fun i h => absurd h (by omega), by omega, eb⟩
            | exact ⟨_, W.heap.size, W.heap.size + 1 + 1 + 1, W.heap.size + 1 + 1, rfl, CV, e1, e0, e3, e2, HCS.out, fun i h => absurd h (by omega), by omega, eb⟩
            | exact ⟨_, W.heap.size + 1 + 1, W.heap.size, W.heap.size + 1 + 1 + 1, rfl, CV, e1, e2, e0, e3, HCS.out, fun i h => absurd h (by omega), by omega, eb⟩
            | exact ⟨_, W.heap.size + 1 + 1, W.heap.size + 1 + 1 + 1, W.heap.size, rfl, CV, e1, e2, e3, e0, HCS.out, fun i h => absurd h (by omega), by omega, eb⟩
            | exact ⟨_, W.heap.size + 1 + 1 + 1, W.heap.size, W.heap.size + 1 + 1, rfl, CV, e1, e3, e0, e2, HCS.out, fun i h => absurd h (by omega), by omega, eb⟩
            | exact ⟨_, W.heap.size + 1 + 1 + 1, W.heap.size + 1 + 1, W.heap.size, rfl, CV, e1, e3, e2, e0, HCS.out, fun i h => absurd h (by omega), by omega, eb⟩
            | exact ⟨_, W.heap.size, W.heap.size + 1, W.heap.size + 1 + 1 + 1, rfl, CV, e2, e0, e1, e3, HCS.out, fun i h => absurd h (by omega), by omega, eb⟩
            | exact ⟨_, W.heap.size, W.heap.size + 1 + 1 + 1, W.heap.size + 1, rfl, CV, e2, e0, e3, e1, HCS.out, fun i h => absurd h (by omega), by omega, eb⟩
            | exact ⟨_, W.heap.size + 1, W.heap.size, W.heap.size + 1 + 1 + 1, rfl, CV, e2, e1, e0, e3, HCS.out, fun i h => absurd h (by omega), by omega, eb⟩
            | exact ⟨_, W.heap.size + 1, W.heap.size + 1 + 1 + 1, W.heap.size, rfl, CV, e2, e1, e3, e0, HCS.out, fun i h => absurd h (by omega), by omega, eb⟩
            | exact ⟨_, W.heap.size + 1 + 1 + 1, W.heap.size, W.heap.size + 1, rfl, CV, e2, e3, e0, e1, HCS.out, fun i h => absurd h (by omega), by omega, eb⟩
            | exact ⟨_, W.heap.size + 1 + 1 + 1, W.heap.size + 1, W.heap.size, rfl, CV, e2, e3, e1, e0, HCS.out, fun i h => absurd h (by omega), by omega, eb⟩
            | exact ⟨_, W.heap.size, W.heap.size + 1, W.heap.size + 1 + 1, rfl, CV, e3, e0, e1, e2, HCS.out, fun i h => absurd h (by omega), by omega, eb⟩
            | exact ⟨_, W.heap.size, W.heap.size + 1 + 1, W.heap.size + 1, rfl, CV, e3, e0, e2, e1, HCS.out, fun i h => absurd h (by omega), by omega, eb⟩
            | exact ⟨_, W.heap.size + 1, W.heap.size, W.heap.size + 1 + 1, rfl, CV, e3, e1, e0, e2, HCS.out, fun i h => absurd h (by omega), by omega, eb⟩
            | exact ⟨_, W.heap.size + 1, W.heap.size + 1 + 1, W.heap.size, rfl, CV, e3, e1, e2, e0, HCS.out, fun i h => absurd h (by omega), by omega, eb⟩
            | exact ⟨_, W.heap.size + 1 + 1, W.heap.size, W.heap.size + 1, rfl, CV, e3, e2, e0, e1, HCS.out, fun i h => absurd h (by omega), by omega, eb⟩
            | exact ⟨_, W.heap.size + 1 + 1, W.heap.size + 1, W.heap.size, rfl, CV, e3, e2, e1, e0, HCS.out, fun i h => absurd h (by omega), by omega, eb⟩
  case rest =>
  obtain ⟨G, g1, g2, g3, rfl, C0, h0, h1, h2, h3, h4, h5, hg2, hbx⟩ := hcut
  have QN := Lib.hid (heap_below QN.out hbx)
  have hbw := nxt hbW hbx
  clear M1 M2 M3 HCS
  have H1 : Hid (∀ w' : World, w'.heap[g1]? = wc.heap[g1]? → w'.heap[g1]? = some (.cells (madeCells #[.int .i64 0] a) 2 (0, 0))) := fun w' e => e.trans h1
  have H3 : Hid (∀ w' : World, w'.heap[g3]? = wc.heap[g3]? → w'.heap[g3]? = some (.cells (madeCells #[.slice none 0 0] c) 27 (0, 0))) := fun w' e => e.trans h3
  have ne1 : g1 ≠ g2 := by rintro rfl; rw [h1] at h2; simp at h2
  have ne3 : g3 ≠ g2 := by rintro rfl; rw [h3] at h2; simp at h2
  have neG : G ≠ g2 := by rintro rfl; rw [h0] at h2; simp at h2
  have neN : Bn ≠ g2 := by rintro rfl; have := QN.out; rw [this] at h2; simp at h2
  have HNE := Lib.hid (show g1 ≠ g2 ∧ g3 ≠ g2 ∧ Bn ≠ g2 ∧ w.heap.size ≤ g2 from ⟨ne1, ne3, neN, Nat.le_trans hbW.size hg2⟩)
  obtain ⟨⟨d0, d1, d2, d3⟩, -⟩ := box4f h0
  go_upto_region 3 with fail
  go_wp2_with fail
  clear d0 d1 d2 d3
  clear ne1 ne3 neN hg2 hbx hbW
  go_loopw [43] (fun i wx => ∃ (j : Nat) (C : Array Value), j ≤ b ∧ i = .int .i64 (j : Int) ∧ wx.heap[G]? = some (.cells #[.int .u8 7, .slice (some ⟨g1, 0, none⟩) a a, .slice (some ⟨g2, 0, none⟩) b b, .slice (some ⟨g3, 0, none⟩) c c] 26 (0, 0)) ∧ wx.heap[g2]? = some (.cells C 43 (0, 0)) ∧ Hid (wx.heap[g1]? = wc.heap[g1]?) ∧ Hid (wx.heap[g3]? = wc.heap[g3]?) ∧ Hid (wx.heap[Bn]? = wc.heap[Bn]?) ∧ C.size = b * 4 ∧ Zs C j ∧ Below w.heap.size w wx) (fun i _ => b - (intOf i).toNat)
  case atStart => exact ⟨0, C0, Nat.zero_le _, rfl, h0, h2, Lib.hid rfl, Lib.hid rfl, Lib.hid rfl, h4, h5, hbw⟩
  case round =>
    clear h0 h1 h2 h3 h4 h5 hbw
    obtain ⟨j, C, hj, rfl, h0, h2, k1, k3, kn, hCS, hZ, hbr⟩ := hrel
    obtain ⟨⟨d0, d1, d2, d3⟩, -⟩ := box4f h0
    by_cases hlt : j < b
    · have c0 : wr.cell? ⟨g2, j * 4, none⟩ = some _ := (cell_block h2 _).trans (Array.getElem?_eq_getElem (show j * 4 < C.size by omega))
      have c1 : wr.cell? ⟨g2, j * 4 + 1, none⟩ = some _ := (cell_block h2 _).trans (Array.getElem?_eq_getElem (show j * 4 + 1 < C.size by omega))
      have c2 : wr.cell? ⟨g2, j * 4 + 2, none⟩ = some _ := (cell_block h2 _).trans (Array.getElem?_eq_getElem (show j * 4 + 2 < C.size by omega))
      have c3 : wr.cell? ⟨g2, j * 4 + 3, none⟩ = some _ := (cell_block h2 _).trans (Array.getElem?_eq_getElem (show j * 4 + 3 < C.size by omega))
      have e0 := free_block h2 (j * 4)
      have e1 := free_block h2 (j * 4 + 1)
      have e2 := free_block h2 (j * 4 + 2)
      have e3 := free_block h2 (j * 4 + 3)
      generalize C[j * 4]'(by omega) = v0 at *
      generalize C[j * 4 + 1]'(by omega) = v1 at *
      generalize C[j * 4 + 2]'(by omega) = v2 at *
      generalize C[j * 4 + 3]'(by omega) = v3 at *
      have g3' : (0 : Int) ≤ j := by omega
      have g4' : (j : Int) < b := by omega
      go_wp2_with fail
      go_roundw
      case rel =>
        obtain ⟨n1, n3, nn, hlo⟩ := HNE.out
        refine ⟨j + 1, _, by omega, by go_num, heap_set_ne (heap_set_ne (heap_set_ne (heap_set_ne h0 neG _ _) neG _ _) neG _ _) neG _ _, heap_set (heap_set (heap_set (heap_set h2 _ _) _ _) _ _) _ _, ?_, ?_, ?_, by simp; exact hCS, zs_step hCS hlt hZ, (((hbr.setCell hlo _).setCell hlo _).setCell hlo _).setCell hlo _⟩
        · exact Lib.hid (((((Below.heap_setCell _ _ _ _ n1).trans (Below.heap_setCell _ _ _ _ n1)).trans (Below.heap_setCell _ _ _ _ n1)).trans (Below.heap_setCell _ _ _ _ n1)).trans k1.out)
        · exact Lib.hid (((((Below.heap_setCell _ _ _ _ n3).trans (Below.heap_setCell _ _ _ _ n3)).trans (Below.heap_setCell _ _ _ _ n3)).trans (Below.heap_setCell _ _ _ _ n3)).trans k3.out)
        · exact Lib.hid (((((Below.heap_setCell _ _ _ _ nn).trans (Below.heap_setCell _ _ _ _ nn)).trans (Below.heap_setCell _ _ _ _ nn)).trans (Below.heap_setCell _ _ _ _ nn)).trans kn.out)
      case measure => simp [intOf]; omega
    · obtain rfl : b = j := by omega
      have hrep := Lib.hid (bnd_rep (c := c) (a := a) (H1.out _ k1.out) h2 hZ (H3.out _ k3.out))
      have QN := Lib.hid (kn.out.trans QN.out)
      have hok := Lib.hid (bnd_right a b c ha hb hc)
      clear H1 H3 HNE neG k1 k3 kn hZ hCS h2 hlt hj C0
      generalize bndM a b c = M at *
      generalize hMR : mright M = ok at *
      have HMR := Lib.hid hMR
      clear hMR
      go_upto_region 8 with fail
      go_cut [16] (fun s wx => s = .bool ok ∧ wr = wx)
      case first =>
        as_aux_lemma =>
          by_cases ha' : a ≤ 64
          · have t1 : decide ((a : Int) ≤ 64) = true := decide_eq_true (by omega)
            by_cases hb' : b ≤ 64
            · have t2 : decide ((b : Int) ≤ 64) = true := decide_eq_true (by omega)
              obtain ⟨t, ht⟩ : ∃ t, decide ((c : Int) ≤ 16) = t := ⟨_, rfl⟩
              obtain rfl : t = ok := by
                rw [Bool.eq_iff_iff, hok.out, ← ht, decide_eq_true_iff]
                omega
              clear hok ha' hb'
              go_wp2_with fail
              go_meet
              exact ⟨rfl, rfl⟩
            · have t2 : decide ((b : Int) ≤ 64) = false := decide_eq_false (by omega)
              obtain rfl : false = ok := by
                rw [Bool.eq_iff_iff, hok.out]
                simp
                omega
              clear hok ha' hb'
              go_wp2_with fail
              go_meet
              exact ⟨rfl, rfl⟩
          · have t1 : decide ((a : Int) ≤ 64) = false := decide_eq_false (by omega)
            obtain rfl : false = ok := by
              rw [Bool.eq_iff_iff, hok.out]
              simp
              omega
            clear hok ha'
            go_wp2_with fail
            go_meet
            exact ⟨rfl, rfl⟩
      case rest =>
      obtain ⟨rfl, rfl⟩ := hcut
      clear hok
      have hput := Lib.hid (putm_any M _ wr hrep.out)
      go_wp2_with fail
      refine hput.out.mono ?_
      rintro e w2 hpm
      have hq := putq hpm
      rw [HMR.out] at hq
      obtain ⟨hb2, u, nu, ku, er, rfl, hcase⟩ := hq
      have hrt := Lib.hid (rightm_any M _ w2 (hrep.out.under hb2 hb2.size))
      have h0' := heap_below h0 hb2
      have QN := Lib.hid (heap_below QN.out hb2)
      have hbr2 := nxt hbr hb2
      clear d0 d1 d2 d3 hpm hput hb2 hbr h0 hrep
      obtain ⟨⟨d0, d1, d2, d3⟩, -⟩ := box4f h0'
      clear h0'
      go_upto_region 10 with fail
      go_cut [91] (fun s wx => s = .bool false ∧ Below w2.heap.size w2 wx)
      case first =>
        as_aux_lemma =>
          go_wp2_with fail
          refine hrt.out.mono ?_
          rintro e w3 ⟨rfl, hb3⟩
          rw [HMR.out]
          rcases hcase with ⟨rfl, rfl, hn⟩ | ⟨rfl, rfl, rfl⟩
          · have t1 : decide ((0 : Int) < (nu : Int)) = true := decide_eq_true (by omega)
            have t2 : decide (0 < nu) = true := decide_eq_true hn
            clear hn
            go_wp2_with fail
            go_meet
            exact ⟨rfl, hb3⟩
          · go_wp2_with fail
            go_meet
            exact ⟨rfl, hb3⟩
      case rest =>
      obtain ⟨rfl, hcut⟩ := hcut
      have QN := Lib.hid (heap_below QN.out hcut)
      have hbr3 := nxt hbr2 hcut
      clear d0 d1 d2 d3 hcase hrt hbr2 hcut HMR
      have n0 := cell_block QN.out 0
      have n1 := cell_block QN.out 1
      have n2 := cell_block QN.out 2
      have n3 := cell_block QN.out 3
      obtain ⟨X, hX⟩ : ∃ X, X = wc.alloc (.cells #[.int .i64 x3, .int .i64 y3, .int .i64 z3, .int .i64 u3, .slice none 0 0] 29) := ⟨_, rfl⟩
      obtain ⟨Gp, hGp⟩ : ∃ G, G = wc.heap.size := ⟨_, rfl⟩
      have qp : X.heap[Gp]? = some (.cells #[.int .i64 x3, .int .i64 y3, .int .i64 z3, .int .i64 u3, .slice none 0 0] 29 (0, 0)) := by rw [hX, hGp]; exact heap_new _ _
      have qX : X.heap[Bn]? = some (.cells #[.int .i64 x3, .int .i64 y3, .int .i64 z3, .int .i64 u3] 40 (0, 0)) := by rw [hX]; exact heap_old QN.out _
      have hbX : Below w.heap.size w X := by rw [hX]; exact hbr3.alloc hbr3.size _
      have hGw : w.heap.size ≤ Gp := by rw [hGp]; exact hbr3.size
      go_upto_region 13 with fail
      rw [← hX, ← hGp]
      clear hX hGp n0 n1 n2 n3 QN hbr3
      have n0 : X.cell? ⟨Bn, 0, none⟩ = some (.int .i64 x3) := cell_block qX 0
      have n1 : X.cell? ⟨Bn, 1, none⟩ = some (.int .i64 y3) := cell_block qX 1
      have n2 : X.cell? ⟨Bn, 2, none⟩ = some (.int .i64 z3) := cell_block qX 2
      have n3 : X.cell? ⟨Bn, 3, none⟩ = some (.int .i64 u3) := cell_block qX 3
      have HP0 := Lib.hid (pint_none x3 y3 z3 u3)
      have HP1 := Lib.hid (pint_one x3 y3 z3 u3)
      have HA : Hid (∀ j (h : j < [x3, y3, z3, u3].length), ([x3, y3, z3, u3].take (j + 1)).all rng = (([x3, y3, z3, u3].take j).all rng && rng ([x3, y3, z3, u3][j]'h))) := fun j h => all_snoc rng _ j h
      go_wp2_with fail
      go_loopw [20, 21] (fun s i wx => ∃ j : Nat, j ≤ 4 ∧ i = .int .i64 (j : Int) ∧ s = .bool (([x3, y3, z3, u3].take j).all rng) ∧ X = wx) (fun _ i _ => 4 - (intOf i).toNat)
      case atStart => exact ⟨0, by omega, rfl, rfl, rfl⟩
      case round =>
        obtain ⟨j, hj, rfl, rfl, rfl⟩ := hrel
        by_cases hlt : j < 4
        · have hA := HA.out j hlt
          obtain ⟨z, hz⟩ : ∃ z, z = [x3, y3, z3, u3][j]'hlt := ⟨_, rfl⟩
          rw [← hz] at hA
          have hcell : X.cell? ⟨Bn, j, none⟩ = some (.int .i64 z) := by
            rw [hz]
            have hj4 : j = 0 ∨ j = 1 ∨ j = 2 ∨ j = 3 := by omega
            rcases hj4 with rfl | rfl | rfl | rfl
            · exact n0
            · exact n1
            · exact n2
            · exact n3
          have HH := Lib.hid hA
          have g1 : (0 : Int) ≤ (j : Int) := by omega
          have g2 : (j : Int) < 4 := by omega
          clear hz hA n0 n1 n2 n3
          generalize ([x3, y3, z3, u3].take j).all rng = bj at *
          obtain ⟨bj1, hb1⟩ : ∃ b, Hid (([x3, y3, z3, u3].take (j + 1)).all rng = b) := ⟨_, Lib.hid rfl⟩
          rw [hb1.out] at HH
          cases bj with
          | false =>
            obtain rfl : bj1 = false := HH.out
            clear HH
            go_wp2_with fail
            go_roundw
            case rel => exact ⟨j + 1, by omega, by go_num, by rw [hb1.out], by first | rfl | trivial⟩
            case measure => simp [intOf]; omega
          | true =>
            by_cases h1 : 0 ≤ z
            · have t1 : decide (0 ≤ z) = true := decide_eq_true h1
              obtain ⟨t, ht⟩ : ∃ t, decide (z ≤ 4611686018427387904) = t := ⟨_, rfl⟩
              obtain rfl : bj1 = t := by rw [HH.out]; unfold rng; rw [t1, ht]; rfl
              clear HH h1
              go_wp2_with fail
              go_roundw
              case rel => exact ⟨j + 1, by omega, by go_num, by rw [hb1.out], by first | rfl | trivial⟩
              case measure => simp [intOf]; omega
            · have t1 : decide (0 ≤ z) = false := decide_eq_false h1
              obtain rfl : bj1 = false := by rw [HH.out]; unfold rng; rw [t1]; rfl
              clear HH h1
              go_wp2_with fail
              go_roundw
              case rel => exact ⟨j + 1, by omega, by go_num, by rw [hb1.out], by first | rfl | trivial⟩
              case measure => simp [intOf]; omega
        · obtain rfl : j = 4 := by omega
          have hA4 : ([x3, y3, z3, u3].take 4).all rng = [x3, y3, z3, u3].all rng := rfl
          rw [hA4]
          clear HA hA4 hlt hj
          generalize [x3, y3, z3, u3].all rng = ra at *
          rw [show ((4 : Nat) : Int) = 4 from rfl]
          cases b4 with
          | false =>
            as_aux_lemma =>
              obtain ⟨p0, p1, p2, p3, p4⟩ := box5f qp
              have hpk := Lib.hid (pack_any x3 y3 z3 u3 [] none 0 X (Bs.nil _) R0 R1 R2 R3)
              have hbY := hbX
              have HP := HP0
              clear HP1
              go_wp2_with fail
              refine hpk.out.mono ?_
              rintro e w4 hpp
              have hq := packq hpp
              rw [HP.out] at hq
              obtain ⟨hb4, u, nu, ku, er, rfl, hcase⟩ := hq
              have hb5 := nxt hbY hb4
              rcases hcase with ⟨rfl, rfl, hn⟩ | ⟨rfl, rfl, rfl⟩
              · have t1 : decide ((0 : Int) < (nu : Int)) = true := decide_eq_true (by omega)
                have t2 : decide (0 < nu) = true := decide_eq_true hn
                clear hn
                go_wp2_with fail
                refine (awake03_any _).mono ?_
                rintro e x9 ⟨rfl, hb9⟩
                go_wp2_with fail
                go_ret
                exact ⟨rfl, nxt hb5 hb9⟩
              · go_wp2_with fail
                refine (awake03_any _).mono ?_
                rintro e x9 ⟨rfl, hb9⟩
                go_wp2_with fail
                go_ret
                exact ⟨rfl, nxt hb5 hb9⟩
          | true =>
            as_aux_lemma =>
              obtain ⟨⟨p0, p1, p2, p3, p4⟩, -⟩ : (X.cell? ⟨Gp, 0, none⟩ = some (.int .i64 x3) ∧ X.cell? ⟨Gp, 1, none⟩ = some (.int .i64 y3) ∧ X.cell? ⟨Gp, 2, none⟩ = some (.int .i64 z3) ∧ X.cell? ⟨Gp, 3, none⟩ = some (.int .i64 u3) ∧ X.cell? ⟨Gp, 4, none⟩ = some (.slice none 0 0)) ∧ True := ⟨box5f qp, trivial⟩
              have f4 := free_block qp 4
              have hGX : Gp < X.heap.size := lt_heap qp
              obtain ⟨Y, hY⟩ : ∃ Y, Y = (X.setCell ⟨Gp, 4, none⟩ (.slice (some ⟨X.heap.size, 0, none⟩) 1 1)).alloc (.cells #[.int .u8 1] 5) := ⟨_, rfl⟩
              obtain ⟨Sx, hSx⟩ : ∃ S, S = X.heap.size := ⟨_, rfl⟩
              have qY : Y.heap[Gp]? = some (.cells #[.int .i64 x3, .int .i64 y3, .int .i64 z3, .int .i64 u3, .slice (some ⟨Sx, 0, none⟩) 1 1] 29 (0, 0)) := by rw [hY, hSx]; exact heap_old (heap_set qp 4 _) _
              have qB : Y.heap[Bn]? = some (.cells #[.int .i64 x3, .int .i64 y3, .int .i64 z3, .int .i64 u3] 40 (0, 0)) := by
                have hne : Bn ≠ Gp := by rintro rfl; rw [qX] at qp; simp at qp
                rw [hY]; exact heap_old (heap_set_ne qX hne 4 _) _
              have hbY : Below w.heap.size w Y := by rw [hY]; exact (hbX.setCell hGw _).alloc (by rw [size_set]; exact hbX.size) _
              have hbs : Bs Y (.slice (some ⟨Sx, 0, none⟩) 1 1) [1] := by rw [hY]; exact Bs.made' _ _ _ [1] 1 Sx (by rw [hSx, size_set]) rfl rfl (by simp)
              go_upto_region 20 with fail
              rw [← hY, ← hSx]
              clear hY hSx p0 p1 p2 p3 p4 f4 n0 n1 n2 n3 qp qX hbX
              obtain ⟨p0, p1, p2, p3, p4⟩ := box5f qY
              have n2 : Y.cell? ⟨Bn, 2, none⟩ = some (.int .i64 z3) := cell_block qB 2
              have hpk := Lib.hid (pack_any x3 y3 z3 u3 [1] (some ⟨Sx, 0, none⟩) 1 Y hbs R0 R1 R2 R3)
              have HP := HP1
              clear HP0 HP1
              obtain ⟨t, ht⟩ : ∃ t, (z3 != 0) = t := ⟨_, rfl⟩
              rw [ht] at HP
              go_cut [20] (fun s wx => s = .bool (ra && t) ∧ Y = wx)
              case first =>
                cases ra with
                | false =>
                  go_wp2_with fail
                  go_meet
                  exact ⟨rfl, rfl⟩
                | true =>
                  go_wp2_with fail
                  go_meet
                  exact ⟨rfl, rfl⟩
              case rest =>
              obtain ⟨rfl, rfl⟩ := hcut
              generalize (ra && t) = rb at *
              clear ht n2
              go_wp2_with fail
              refine hpk.out.mono ?_
              rintro e w4 hpp
              have hq := packq hpp
              rw [HP.out] at hq
              obtain ⟨hb4, u, nu, ku, er, rfl, hcase⟩ := hq
              have hb5 := nxt hbY hb4
              rcases hcase with ⟨rfl, rfl, hn⟩ | ⟨rfl, rfl, rfl⟩
              · have t1 : decide ((0 : Int) < (nu : Int)) = true := decide_eq_true (by omega)
                have t2 : decide (0 < nu) = true := decide_eq_true hn
                clear hn
                go_wp2_with fail
                refine (awake03_any _).mono ?_
                rintro e x9 ⟨rfl, hb9⟩
                go_wp2_with fail
                go_ret
                exact ⟨rfl, nxt hb5 hb9⟩
              · go_wp2_with fail
                refine (awake03_any _).mono ?_
                rintro e x9 ⟨rfl, hb9⟩
                go_wp2_with fail
                go_ret
                exact ⟨rfl, nxt hb5 hb9⟩

set_option maxRecDepth 100000 in
theorem lifted (os : Os) (started : os.Started) (H : Type) (enc : TypeId × Value → H) :
    ReturnsInHanded {} Try.checked os 4 .any (Rows.frameBoundsSpec.pre6 enc Try.prog Try.f4 Rows.frameBoundsRow.domain false) (Rows.frameBoundsSpec.post enc Try.prog Try.f4 false true false false) := by
  refine returnsInHanded_of_change (C := Try.checked) knob_own started (by kernel_rfl) Try.func4
    (ChangeSpec.witness6 (enc := enc) (C := Try.checked) false ⟨#[], #[.int .u8 0, .int .u8 0, .int .u8 0, .agg #[.int .i64 0, .int .i64 0, .int .i64 0, .int .i64 0], .bool false], []⟩ 8 (by kernel_rfl) (by kernel_rfl) (by kernel_rfl) (by kernel_rfl)) ?_
  intro W base args ds gs before hval0 hW hcnd _
  have hval : ∀ (j : Nat) t v, Try.f4.params[j]? = some t → args[j]? = some v → Value.okWide Try.prog W .any base t v := hval0
  have hW' := hW
  obtain ⟨p, q, hA0, hV, rfl, hfz, hnd⟩ := hW
  have hA : DataW.TrodAll enc Try.prog W 0 (fun _ => true) true Try.f4.params.toList args.toList ds p := hA0
  rw [Try.params4] at hA hval
  obtain ⟨v0, vs0, d0, ds0, p0, q0, hargs, rfl, rfl, h0, r0⟩ := trodAll_cons hA
  obtain ⟨v1, vs1, d1, ds1, p1, q1, rfl, rfl, rfl, h1, r1⟩ := trodAll_cons r0
  obtain ⟨v2, vs2, d2, ds2, p2, q2, rfl, rfl, rfl, h2, r2⟩ := trodAll_cons r1
  obtain ⟨v3, vs3, d3, ds3, p3, q3, rfl, rfl, rfl, h3, r3⟩ := trodAll_cons r2
  obtain ⟨v4, vs4, d4, ds4, p4, q4, rfl, rfl, rfl, h4, r4⟩ := trodAll_cons r3
  obtain ⟨rfl, rfl, rfl⟩ := trodAll_nil r4
  obtain rfl : args = #[v0, v1, v2, v3, v4] := by cases args; simp_all
  obtain ⟨rfl, rfl⟩ := trodVars_none hV
  have lt0 : ∀ x ∈ p0, x.block < W.heap.size := by obtain ⟨m, hm⟩ := h0; exact DataW.trod_lt m _ _ _ hm
  have k0 := h0
  obtain ⟨a0, rfl, _, _, w0⟩ := open_int Try.underlying5 (hval 0 5 v0 rfl rfl) h0
  have lt1 : ∀ x ∈ p1, x.block < W.heap.size := by obtain ⟨m, hm⟩ := h1; exact DataW.trod_lt m _ _ _ hm
  have k1 := h1
  obtain ⟨a1, rfl, _, _, w1⟩ := open_int Try.underlying5 (hval 1 5 v1 rfl rfl) h1
  have lt2 : ∀ x ∈ p2, x.block < W.heap.size := by obtain ⟨m, hm⟩ := h2; exact DataW.trod_lt m _ _ _ hm
  have k2 := h2
  obtain ⟨a2, rfl, _, _, w2⟩ := open_int Try.underlying5 (hval 2 5 v2 rfl rfl) h2
  have k3 := h3
  have lt3 : ∀ x ∈ p3, x.block < W.heap.size := by obtain ⟨m, hm⟩ := k3; exact DataW.trod_lt m _ _ _ hm
  obtain ⟨x3, y3, z3, u3, rfl, w3⟩ := arr4i_open (hval 3 40 v3 rfl rfl) h3
  have k4 := h4
  have lt4 : ∀ x ∈ p4, x.block < W.heap.size := by obtain ⟨m, hm⟩ := k4; exact DataW.trod_lt m _ _ _ hm
  obtain ⟨b4, rfl, _, _⟩ := open_bool Try.underlying4 (hval 4 4 v4 rfl rfl) h4
  have w4 : b4 = b4 := rfl
  clear hA0 hval0
  refine (walk W a0 a1 a2 x3 y3 z3 u3 b4 w0 w1 w2 w3 w4).mono fun e W' ⟨he, bel⟩ => ?_
  subst he
  exact ⟨_, rfl, _, _, _, [], _, [], hW', trodAll_mk1 (shut_bool Try.underlying4 _), (trodAll_cons_mk (Below.trod laid_out (by kernel_rfl) (of_decide_eq_true (by kernel_rfl)) k0 bel lt0) (trodAll_cons_mk (Below.trod laid_out (by kernel_rfl) (of_decide_eq_true (by kernel_rfl)) k1 bel lt1) (trodAll_cons_mk (Below.trod laid_out (by kernel_rfl) (of_decide_eq_true (by kernel_rfl)) k2 bel lt2) (trodAll_cons_mk (Below.trod laid_out (by kernel_rfl) (of_decide_eq_true (by kernel_rfl)) k3 bel lt3) (trodAll_cons_mk (Below.trod laid_out (by kernel_rfl) (of_decide_eq_true (by kernel_rfl)) k4 bel lt4) (trodAll_mk0)))))), rfl, bel.frame _, fun h => by cases h⟩

theorem over : Rows.frameBoundsRow.holds Try.pinned (OpenSpec.ofChange Rows.frameBoundsSpec) :=
  OpenClaim.holds_of_wide 4 Try.f4 rfl rfl rfl rfl rfl rfl rfl ⟨rfl, rfl, rfl, rfl, rfl⟩ rfl rfl rfl rfl rfl (by kernel_rfl) Try.func4 (by kernel_rfl)
    (of_decide_eq_true (by kernel_rfl)) (by unfold Func.isWrapper; first | (rw [if_pos (by decide +kernel)]; kernel_rfl) | (rw [if_neg (by decide +kernel)]; exact ⟨rfl, rfl⟩))
    (fun os started H enc _ => lifted os started H enc)

theorem proved : Rows.FrameBoundsSaid := over
end Go.Proofs.Ytjcefnlidophoaa.frameBounds
