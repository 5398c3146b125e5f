/- droverlaw02.ValueBounds returns true whatever its arguments: as many levels, values and bytes as may be, and no more. For every input, without conditions. -/
import Derived.Test.YtfobmlicmbelnaaDoorRow
import Derived.Test.YtfobmlicmbelnaaDoorAwake02
import Derived.Test.YtfobmlicmbelnaaDoorOpen
import Derived.Test.YtfobmlicmbelnaaDoorDoor
import Derived.Test.YtfobmlicmbelnaaDoorSmall
import Derived.Test.YtfobmlicmbelnaaDoorLaw02
import Derived.Test.YtfobmlicmbelnaaDoorRight02
import Derived.Test.YtfobmlicmbelnaaDoorCards
import Derived.SevenTiedAt
import Derived.Test.YtfobmlicmbelnaaDoorTup02
import Derived.Test.YtfobmlicmbelnaaDoorCells
import Derived.Deep.RegionHeld3
import Derived.Deep.DeepCutAuto
import Derived.BigQuiet
namespace Go.Proofs.YtfobmlicmbelnaaDoor.valueBounds
open Go.ChangeShapes Go.WideShapes Go.ChangeAt Go.RowKit
set_option linter.unusedVariables false

def nest : Nat → Va
  | 0 => .mk 1 5 [] []
  | n + 1 => .mk 4 0 [] [nest n]
theorem nest_right : ∀ n, n < 41 → right (nest n) = decide (n + 1 ≤ 16) := by decide +kernel
def bit (i : Nat) : Va := .mk 2 ((i % 2 : Nat) : Int) [] []
def wideV (m : Nat) : Va := .mk 4 0 [] ((List.range m).map bit)
theorem fold_leaf {f : Nat → Va → Option Nat} : ∀ (l : List Va), (∀ t ∈ l, (∀ m, f (m + 1) t = some m) ∧ f 0 t = none) → ∀ m, l.foldlM f m = if l.length ≤ m then some (m - l.length) else none
  | [], _, m => by simp [List.foldlM]
  | t :: l, h, m => by
    rw [List.foldlM_cons]
    have ht := h t (by simp)
    cases m with
    | zero =>
      rw [ht.2]
      simp
    | succ m =>
      rw [ht.1 m]
      show l.foldlM f m = _
      rw [fold_leaf l (fun t h' => h t (by simp [h'])) m, List.length_cons]
      by_cases hl : l.length ≤ m
      · rw [if_pos hl, if_pos (by omega)]
        congr 1
        omega
      · rw [if_neg hl, if_neg (by omega)]
theorem bit_lf (i : Nat) : lf 2 ((i % 2 : Nat) : Int) [] [] = true := by
  rcases Nat.mod_two_eq_zero_or_one i with h | h <;> rw [h] <;> rfl
theorem wide_right (m : Nat) : right (wideV m) = decide (m + 1 ≤ 256) := by
  unfold right wideV
  rw [show (256 : Nat) = 255 + 1 from rfl, rgt_tuple, fold_leaf]
  · simp only [List.length_map, List.length_range]
    by_cases h : m ≤ 255
    · rw [if_pos h, decide_eq_true (by omega)]
      rfl
    · rw [if_neg h, decide_eq_false (by omega)]
      rfl
  · intro t ht
    obtain ⟨i, _, rfl⟩ := List.mem_map.1 ht
    exact ⟨fun m => rgt_leaf (by omega) (bit_lf i), rfl⟩
def bytesV (k : Nat) : Va := .mk 3 0 (List.replicate k 0) []
theorem bytes_right (k : Nat) : right (bytesV k) = decide (k ≤ 4096) := by
  have e : lf 3 0 (List.replicate k 0) [] = decide (k ≤ 4096) := by simp [lf]
  unfold right bytesV
  by_cases h : k ≤ 4096
  · rw [show (256 : Nat) = 255 + 1 from rfl, rgt_leaf (by omega) (by rw [e]; exact decide_eq_true h), decide_eq_true h]
    rfl
  · have : rgt 16 (.mk 3 0 (List.replicate k 0) []) 256 = none := by
      rw [show (256 : Nat) = 255 + 1 from rfl, rgt, if_pos (by omega), if_neg (by rw [e]; simpa using h)]
    rw [this, decide_eq_false h]
    rfl
theorem show_mark {t : Va} (ok : Ok 16 t) : ((strOf (showT t)).toList == [63]) = !right t := by
  rw [toList_strOf]
  unfold showT
  cases hr : right t with
  | false => rfl
  | true =>
    rw [if_pos rfl]
    obtain ⟨m, hm⟩ := right_rgt hr
    obtain ⟨k, n, s, l⟩ := t
    obtain ⟨c, r, h1, h2⟩ := shw_head 15 k n s l (rgt_rt 16 _ 256 m hm).1
    rw [h1, List.map_cons]
    have hc : c ≠ 63 ∧ c < 256 := by omega
    have hne : (UInt8.ofNat c == 63) = false := by
      rw [beq_eq_false_iff_ne]
      intro h
      have := congrArg UInt8.toNat h
      simp only [UInt8.toNat_ofNat'] at this
      have h63 : (63 : UInt8).toNat = 63 := rfl
      omega
    rw [Bool.eq_false_iff.2 (show ¬((UInt8.ofNat c :: List.map UInt8.ofNat r == [63]) = true) by
      intro h
      rw [beq_iff_eq] at h
      injection h with h _
      rw [h] at hne
      simp at hne)]
    rfl
theorem val_info : (Tryd.prog.info? 25).map (fun i => (i.zero, i.size, i.bytes)) = some (some (.agg #[.int .u8 0, .int .i64 0, .string ⟨#[]⟩, .slice none 0 0]), 4, 56) := by kernel_rfl
theorem repsS_one (w : World) (S : Nat → Prop) (g : Nat) (y0 y1 y2 y3 : Value) (T : TypeId) (fr : Nat × Nat) (t : Va) (h : w.heap[g]? = some (.cells #[y0, y1, y2, y3] T fr)) (hg : S g) (ht : RepS w S (.agg #[y0, y1, y2, y3]) t) : RepsS w S (some ⟨g, 0, none⟩) [t] := by
  refine ⟨fun _ => .agg #[y0, y1, y2, y3], fun i hi => ?_, fun i t' ht' => ?_⟩
  · obtain rfl : i = 0 := by simpa using hi
    exact ⟨g, 0, y0, y1, y2, y3, rfl, hg, rfl, range_new w _ _ _ _ T fr h⟩
  · cases i with
    | zero => cases ht'; exact ht
    | succ i => simp at ht'
theorem cell_ne {w : World} {g i : Nat} {v : Value} {p : Addr} (h : p.block ≠ g) : (w.setCell ⟨g, i, none⟩ v).cell? p = w.cell? p := by
  unfold World.cell? World.setCell
  dsimp only
  rw [Array.getElem?_modify, if_neg (fun e => h e.symm)]
/-- A box's value becomes the one part of a tuple that is stored in the box. -/
theorem nest_step {w : World} {b0 : Nat} {y0 y1 y2 y3 : Value} {t : Va} (hbox : w.heap[b0]? = some (.cells #[y0, y1, y2, y3] 25 (0, 0))) (hrep : RepS w (fun b => b ≠ b0 ∧ b < w.heap.size) (.agg #[y0, y1, y2, y3]) t) {W W' : World}
    (hW : W = (((w.setCell ⟨b0, 0, none⟩ (.int .u8 4)).setCell ⟨b0, 1, none⟩ (.int .i64 0)).setCell ⟨b0, 2, none⟩ (.string ⟨#[]⟩)).setCell ⟨b0, 3, none⟩ (.slice (some ⟨w.heap.size, 0, none⟩) 1 1)) (hW' : W' = W.alloc (.cells #[y0, y1, y2, y3] 25)) {B : Nat} (hB : B ≤ b0) (hBw : B ≤ w.heap.size) :
    W'.heap[b0]? = some (.cells #[.int .u8 4, .int .i64 0, .string ⟨#[]⟩, .slice (some ⟨w.heap.size, 0, none⟩) 1 1] 25 (0, 0)) ∧
    RepS W' (fun b => b ≠ b0 ∧ b < W'.heap.size) (.agg #[.int .u8 4, .int .i64 0, .string ⟨#[]⟩, .slice (some ⟨w.heap.size, 0, none⟩) 1 1]) (.mk 4 0 [] [t]) ∧ Below B w W' := by
  have hsz : W.heap.size = w.heap.size := by rw [hW]; simp
  have h1 : W.heap[b0]? = some (.cells #[.int .u8 4, .int .i64 0, .string ⟨#[]⟩, .slice (some ⟨w.heap.size, 0, none⟩) 1 1] 25 (0, 0)) := by rw [hW]; exact set4 hbox _ _ _ _
  have hlt := lt_heap hbox
  have hcell : ∀ p : Addr, p.block ≠ b0 ∧ p.block < w.heap.size → W'.cell? p = w.cell? p := by
    intro p hp
    have e1 : W.cell? p = w.cell? p := by rw [hW, cell_ne hp.1, cell_ne hp.1, cell_ne hp.1, cell_ne hp.1]
    rw [hW', ← e1]
    exact ((Below.refl W.heap.size W).alloc (Nat.le_refl _) _).cell (by rw [hsz]; exact hp.2)
  have hnew : W'.heap[w.heap.size]? = some (.cells #[y0, y1, y2, y3] 25 (0, 0)) := by
    rw [hW', ← hsz]
    exact heap_new _ _
  have hsz' : W'.heap.size = w.heap.size + 1 := by rw [hW']; simp [hsz]
  refine ⟨by rw [hW']; exact heap_old h1 _, ?_, ?_⟩
  · have hr : RepS W' (fun b => b ≠ b0 ∧ b < W'.heap.size) (.agg #[y0, y1, y2, y3]) t := (hrep.keep fun p hp => hcell p hp).wider fun b hb => ⟨hb.1, by rw [hsz']; omega⟩
    exact (repsS_one W' _ w.heap.size _ _ _ _ _ _ _ hnew ⟨by omega, by rw [hsz']; omega⟩ hr).mk (k := 4) (n := 0) (s := []) (c := 1) (by omega) (by omega) (by omega) (by simp) (by simp) (by simp) (by simp)
  · rw [hW', hW]
    exact ((((((Below.refl B w).setCell hB _).setCell hB _).setCell hB _).setCell hB _).alloc (by simp; exact hBw) _)
/-- The first j elements are written. -/
def Bits (C : Array Value) (j : Nat) : Prop := ∀ i, i < j → C[i * 4]? = some (.int .u8 2) ∧ C[i * 4 + 1]? = some (.int .i64 ((i : Int) % 2)) ∧ C[i * 4 + 2]? = some (.string ⟨#[]⟩) ∧ C[i * 4 + 3]? = some (.slice none 0 0)
theorem bits_step {C : Array Value} {j m : Nat} (hC : C.size = m * 4) (hj : j < m) (h : Bits C j) :
    Bits ((((C.setIfInBounds (j * 4) (.int .u8 2)).setIfInBounds (j * 4 + 1) (.int .i64 ((j : Int) % 2))).setIfInBounds (j * 4 + 2) (.string ⟨#[]⟩)).setIfInBounds (j * 4 + 3) (.slice none 0 0)) (j + 1) := by
  intro i hi
  by_cases hij : i = j
  · subst hij
    simp only [Array.getElem?_setIfInBounds, Array.size_setIfInBounds]
    refine ⟨?_, ?_, ?_, ?_⟩
    · rw [if_neg (by omega), if_neg (by omega), if_neg (by omega), if_pos trivial, if_pos (by omega)]
    · rw [if_neg (by omega), if_neg (by omega), if_pos trivial, if_pos (by omega)]
    · rw [if_neg (by omega), if_pos trivial, if_pos (by omega)]
    · rw [if_pos trivial, if_pos (by omega)]
  · obtain ⟨h0, h1, h2, h3⟩ := h i (by omega)
    simp only [Array.getElem?_setIfInBounds, Array.size_setIfInBounds]
    refine ⟨?_, ?_, ?_, ?_⟩
    · rw [if_neg (by omega), if_neg (by omega), if_neg (by omega), if_neg (by omega), h0]
    · rw [if_neg (by omega), if_neg (by omega), if_neg (by omega), if_neg (by omega), h1]
    · rw [if_neg (by omega), if_neg (by omega), if_neg (by omega), if_neg (by omega), h2]
    · rw [if_neg (by omega), if_neg (by omega), if_neg (by omega), if_neg (by omega), h3]
theorem wide_rep {w : World} {g m : Nat} {C : Array Value} {T : TypeId} {B : Nat} (h : w.heap[g]? = some (.cells C T (0, 0))) (hC : Bits C m) (hg : g < B) (hm : m ≤ 300) :
    Rep w B (.agg #[.int .u8 4, .int .i64 0, .string ⟨#[]⟩, .slice (some ⟨g, 0, none⟩) m m]) (wideV m) := by
  have hl : ((List.range m).map bit).length = m := by simp
  have hs : Reps w B (some ⟨g, 0, none⟩) ((List.range m).map bit) := by
    refine ⟨fun i => .agg #[.int .u8 2, .int .i64 ((i : Int) % 2), .string ⟨#[]⟩, .slice none 0 0], fun i hi => ?_, fun i t ht => ?_⟩
    · rw [hl] at hi
      obtain ⟨h0, h1, h2, h3⟩ := hC i hi
      refine ⟨g, 0, _, _, _, _, rfl, hg, rfl, ?_⟩
      rw [show 0 + i * 4 = i * 4 by omega]
      exact range_at h _ _ _ _ _ h0 h1 h2 h3
    · have hi : i < m := by
        have := (List.getElem?_eq_some_iff.1 ht).1
        rwa [hl] at this
      have : t = bit i := by
        rw [List.getElem?_map, List.getElem?_range hi] at ht
        simpa using ht.symm
      subst this
      have := leaf_rep 2 ((i % 2 : Nat) : Int) [] ⟨#[]⟩ w B rfl (by omega) (by omega) (by omega) (by simp) (by simp)
      exact this
  have := hs.mk (k := 4) (n := 0) (s := []) (c := m) (by omega) (by omega) (by omega) (by simp) (by simp) (by rw [hl]; omega) (by omega)
  rw [hl] at this
  exact this
theorem made_zero (k : Nat) : (madeCells (Value.int .u8 0).cells (k * 1)).toList = bv (List.replicate k 0) := by
  apply List.ext_getElem?
  intro i
  by_cases hi : i < k
  · simp [madeCells, bv, Value.cells, hi, Nat.mod_one]
  · simp [madeCells, bv, Value.cells, hi]
theorem wf_u16 {a : Int} (h : (Lit.int .u16 a).wf = true) : ∃ n : Nat, a = n ∧ n < 65536 := by
  have h1 : IntKind.u16.min = 0 := rfl
  have h2 : IntKind.u16.max = 65535 := rfl
  simp only [Lit.wf, Bool.and_eq_true, decide_eq_true_eq] at h
  exact ⟨a.toNat, by omega, by omega⟩

set_option maxRecDepth 100000 in
set_option maxHeartbeats 1600000 in
theorem walk (w : World) (htab : Tab w w.heap.size) (a0 : Int) (a1 : Int) (a2 : Int) (w0 : (Lit.int .u16 a0).wf = true) (w1 : (Lit.int .u16 a1).wf = true) (w2 : (Lit.int .u8 a2).wf = true) :
    Calls Tryd.prog 8 #[.int .u16 a0, .int .u16 a1, .int .u8 a2] w fun e w' => e = .returned (.bool true) ∧ Below w.heap.size w w' := by
  obtain ⟨n0, rfl, hn0⟩ := wf_u16 w0
  obtain ⟨m0, rfl, hm0⟩ := wf_u16 w1
  obtain ⟨k0, rfl, hk0⟩ := wf_u8 w2
  clear w0 w1 w2
  have tabs : ∀ w', Below w.heap.size w w' → Tab w' w'.heap.size := fun w' h => fun w2 h2 => htab.below h w2 (h2.mono h.size)
  have htabs := Lib.hid tabs
  clear tabs
  go_enter Tryd.func8, Tryd.ntmps8
  go_wp2_with fail
  have hn : (n0 : Int) % 41 = ((n0 % 41 : Nat) : Int) := by omega
  have hm : (m0 : Int) % 301 = ((m0 % 301 : Nat) : Int) := by omega
  have hk : (3968 : Int) + (k0 : Int) = ((3968 + k0 : Nat) : Int) := by omega
  have hnl : n0 % 41 < 41 := by omega
  have hml : m0 % 301 < 301 := by omega
  have hkl : 3968 ≤ 3968 + k0 ∧ 3968 + k0 < 4224 := by omega
  rw [hn, hm, hk]
  clear hn hm hk
  generalize n0 % 41 = n at *
  generalize m0 % 301 = m at *
  generalize 3968 + k0 = k at *
  have q0 := heap_new w (.cells #[.int .u8 1, .int .i64 5, .string ⟨#[]⟩, .slice none 0 0] 25)
  have hb0 : Below w.heap.size w (w.alloc (.cells #[.int .u8 1, .int .i64 5, .string ⟨#[]⟩, .slice none 0 0] 25)) := (Below.refl _ _).alloc (Nat.le_refl _) _
  have hr0 : RepS (w.alloc (.cells #[.int .u8 1, .int .i64 5, .string ⟨#[]⟩, .slice none 0 0] 25)) (fun b => b ≠ w.heap.size ∧ b < (w.alloc (.cells #[.int .u8 1, .int .i64 5, .string ⟨#[]⟩, .slice none 0 0] 25)).heap.size) (.agg #[.int .u8 1, .int .i64 5, .string ⟨#[]⟩, .slice none 0 0]) (nest 0) :=
    (RepsS.nil _ _ none).mk (k := 1) (n := 5) (s := []) (by omega) (by omega) (by omega) (by simp) (by simp) (by simp) (by simp)
  go_loopw [11] (fun i wr => ∃ (j : Nat) (yk yn : Int) (yA : Option Addr) (yl yc : Nat), j ≤ n ∧ i = .int .i64 (j : Int) ∧ wr.heap[w.heap.size]? = some (.cells #[.int .u8 yk, .int .i64 yn, .string ⟨#[]⟩, .slice yA yl yc] 25 (0, 0)) ∧
      RepS wr (fun b => b ≠ w.heap.size ∧ b < wr.heap.size) (.agg #[.int .u8 yk, .int .i64 yn, .string ⟨#[]⟩, .slice yA yl yc]) (nest j) ∧ Below w.heap.size w wr) (fun i _ => n - (intOf i).toNat)
  case atStart => exact ⟨0, 1, 5, none, 0, 0, Nat.zero_le _, rfl, q0, hr0, hb0⟩
  case round =>
    clear q0 hb0 hr0
    obtain ⟨j, yk, yn, yA, yl, yc, hj, rfl, hbox, hrep, hbr⟩ := hrel
    obtain ⟨⟨d0, d1, d2, d3⟩, f0, f1, f2, f3⟩ := box4f hbox
    have hsz := lt_heap hbox
    by_cases hlt : j < n
    · go_wp2_with fail
      go_roundw
      case rel =>
        obtain ⟨h1, h2, h3⟩ := nest_step hbox hrep rfl rfl (B := w.heap.size) (Nat.le_refl _) hbr.size
        exact ⟨j + 1, _, _, _, _, _, by omega, by go_num, h1, h2, hbr.trans h3⟩
      case measure => simp [intOf]; omega
    · obtain rfl : n = j := by omega
      obtain ⟨iv, hiv, hz1, hz2, hz3⟩ := info_parts val_info
      go_wp2_with (at_make
                   refine wpList_make_full _ rfl _ _ 23 rfl wr.heap.size 25 iv _ 4 Tryd.underlying23 hiv hz1 hz2 .i64 .i64 _ _ m rfl rfl rfl rfl (by rw [hz3]; omega) (by unfold maxLen; omega) (Nat.le_refl _) ?_
                   intro w1 hrow1 hg1)
      generalize wr = X at *
      obtain ⟨C0, hC0, hCs0⟩ : ∃ C0, w1.heap[X.heap.size]? = some (.cells C0 25 (0, 0)) ∧ C0.size = m * 4 := by
        rcases hrow1.2 with ⟨h, _⟩ | ⟨g', cap, cur, h, _, h2, _, _, h3, _⟩
        · cases h
        · injection h with h h4 h5
          injection h with h
          injection h with h
          subst h h5
          exact ⟨cur, h2, h3⟩
      have hb1 : Below X.heap.size X w1 := (Below.refl _ _).grown hg1 (Nat.le_refl _) (by simp)
      have hgl := lt_heap hC0
      have q12 := heap_new w1 (.cells #[.int .u8 4, .int .i64 0, .string ⟨#[]⟩, .slice (some ⟨X.heap.size, 0, none⟩) m m] 25)
      have hC1 := heap_old hC0 (.cells #[.int .u8 4, .int .i64 0, .string ⟨#[]⟩, .slice (some ⟨X.heap.size, 0, none⟩) m m] 25)
      have hb2 : Below X.heap.size X (w1.alloc (.cells #[.int .u8 4, .int .i64 0, .string ⟨#[]⟩, .slice (some ⟨X.heap.size, 0, none⟩) m m] 25)) := hb1.alloc hb1.size _
      clear hrow1 hg1 hC0 hb1 d0 d1 d2 d3 f0 f1 f2 f3 hiv hz1 hz2 hz3
      go_loopw [13] (fun i wx => ∃ (j : Nat) (C : Array Value), j ≤ m ∧ i = .int .i64 (j : Int) ∧ wx.heap[X.heap.size]? = some (.cells C 25 (0, 0)) ∧ C.size = m * 4 ∧ Bits C j ∧
          wx.heap[w1.heap.size]? = some (.cells #[.int .u8 4, .int .i64 0, .string ⟨#[]⟩, .slice (some ⟨X.heap.size, 0, none⟩) m m] 25 (0, 0)) ∧ Below X.heap.size X wx) (fun i _ => m - (intOf i).toNat)
      case atStart => exact ⟨0, C0, Nat.zero_le _, rfl, hC1, hCs0, fun i h => absurd h (by omega), q12, hb2⟩
      case round =>
        clear q12 hC1 hb2 hCs0
        obtain ⟨j, C, hj, rfl, hC, hCs, hbits, q12, hbx⟩ := hrel
        obtain ⟨⟨d0, d1, d2, d3⟩, f0, f1, f2, f3⟩ := box4f q12
        have hszx := lt_heap q12
        by_cases hlt : j < m
        · have c0 : wr.cell? ⟨X.heap.size, j * 4, none⟩ = some _ := (cell_block hC _).trans (Array.getElem?_eq_getElem (show j * 4 < C.size by omega))
          have c1 : wr.cell? ⟨X.heap.size, j * 4 + 1, none⟩ = some _ := (cell_block hC _).trans (Array.getElem?_eq_getElem (show j * 4 + 1 < C.size by omega))
          have c2 : wr.cell? ⟨X.heap.size, j * 4 + 2, none⟩ = some _ := (cell_block hC _).trans (Array.getElem?_eq_getElem (show j * 4 + 2 < C.size by omega))
          have c3 : wr.cell? ⟨X.heap.size, j * 4 + 3, none⟩ = some _ := (cell_block hC _).trans (Array.getElem?_eq_getElem (show j * 4 + 3 < C.size by omega))
          have e0 := free_block hC (j * 4)
          have e1 := free_block hC (j * 4 + 1)
          have e2 := free_block hC (j * 4 + 2)
          have e3 := free_block hC (j * 4 + 3)
          generalize C[j * 4]'(by omega) = v0 at *
          generalize C[j * 4 + 1]'(by omega) = v1 at *
          generalize C[j * 4 + 2]'(by omega) = v2 at *
          generalize C[j * 4 + 3]'(by omega) = v3 at *
          have g3 : (0 : Int) ≤ j := by omega
          have g4 : (j : Int) < m := by omega
          have hne : w1.heap.size ≠ X.heap.size := by omega
          go_wp2_with fail
          go_roundw
          case rel =>
            refine ⟨j + 1, _, by omega, by go_num, heap_set (heap_set (heap_set (heap_set hC _ _) _ _) _ _) _ _, by simp; exact hCs, bits_step hCs hlt hbits, heap_set_ne (heap_set_ne (heap_set_ne (heap_set_ne q12 hne _ _) hne _ _) hne _ _) hne _ _, ?_⟩
            exact (((hbx.setCell (Nat.le_refl _) _).setCell (Nat.le_refl _) _).setCell (Nat.le_refl _) _).setCell (Nat.le_refl _) _
          case measure => simp [intOf]; omega
        · obtain rfl : m = j := by omega
          obtain ⟨i0, hi0, hz0, hz1, hz2⟩ := info_parts u8_info
          go_wp2_with (at_make
                       refine wpList_make_full _ rfl _ _ 32 rfl wr.heap.size 5 i0 _ 1 Tryd.underlying32 hi0 hz0 hz1 .i64 .i64 _ _ k rfl rfl rfl rfl (by rw [hz2]; omega) (by unfold maxLen; omega) (Nat.le_refl _) ?_
                       intro w2 hrow2 hg2
                       have hown2 : Own w2 wr.heap.size (.slice (some ⟨wr.heap.size, 0, none⟩) k k) (List.replicate k 0) := by
                         unfold Own
                         rw [List.length_replicate, ← made_zero]
                         exact hrow2
                       have hcv := run_own_str (List.replicate k 0) w2 wr.heap.size _ hown2 (by simp)
                       have hb2 : Below wr.heap.size wr w2 := (Below.refl _ _).grown hg2 (Nat.le_refl _) (by simp)
                       have p12 := heap_below q12 hb2
                       have p10 := heap_below (heap_below hbox hbx) hb2
                       obtain ⟨⟨r0, r1, r2, r3⟩, _⟩ := box4f p12
                       obtain ⟨⟨u0, u1, u2, u3⟩, _⟩ := box4f p10
                       have s1 := lt_heap p12
                       have s2 := lt_heap p10)
          obtain ⟨arr, harr⟩ : ∃ arr : Array Value, arr = #[.int .u8 yk, .int .i64 yn, .string ⟨#[]⟩, .slice yA yl yc, .bool (decide ((n : Int) + 1 ≤ 16)), .int .u8 4, .int .i64 0, .string ⟨#[]⟩, .slice (some ⟨X.heap.size, 0, none⟩) m m, .bool (decide ((m : Int) + 1 ≤ 256)), .int .u8 3, .int .i64 0, .string (strOf (List.replicate k 0)), .slice none 0 0, .bool (decide ((k : Int) ≤ 4096))] := ⟨_, rfl⟩
          rw [← harr]
          obtain ⟨Y, hY⟩ : ∃ Y : World, Y = (w2.alloc (.cells #[.int .u8 3, .int .i64 0, .string (strOf (List.replicate k 0)), .slice none 0 0] 25)).alloc (.cells arr 52) := ⟨_, rfl⟩
          rw [← hY]
          have hbY2 : Below w2.heap.size w2 Y := by rw [hY]; exact two _ _ _
          have hG : Y.heap[w2.heap.size + 1]? = some (.cells arr 52 (0, 0)) := by rw [hY]; exact heap_new' _ _ _ (by simp)
          have hYX : Below X.heap.size X Y := nxt (nxt hbx hb2) hbY2
          have hCY : Y.heap[X.heap.size]? = some (.cells C 25 (0, 0)) := heap_below (heap_below hC hb2) hbY2
          have hR0 : Rep Y Y.heap.size (.agg #[.int .u8 yk, .int .i64 yn, .string ⟨#[]⟩, .slice yA yl yc]) (nest n) := (hrep.keep fun p hp => hYX.cell hp.2).wider fun b hb => Nat.lt_of_lt_of_le hb.2 hYX.size
          have hR1 := wide_rep hCY hbits (lt_heap hCY) (by omega)
          have hR2 := leaf_rep 3 0 (List.replicate k 0) _ Y Y.heap.size rfl (by omega) (by omega) (by omega) (by intro y hy; rw [List.eq_of_mem_replicate hy]; omega) (by simp; omega)
          have hF : ∀ j, j < 3 → ∃ (zk zn : Int) (zs : ByteArray) (zA : Option Addr) (zl zc : Nat) (b : Bool) (t : Va), (arr[j * 5]? = some (.int .u8 zk) ∧ arr[j * 5 + 1]? = some (.int .i64 zn) ∧ arr[j * 5 + 2]? = some (.string zs) ∧ arr[j * 5 + 3]? = some (.slice zA zl zc) ∧ arr[j * 5 + 4]? = some (.bool b)) ∧ Rep Y Y.heap.size (.agg #[.int .u8 zk, .int .i64 zn, .string zs, .slice zA zl zc]) t ∧ right t = b := by
            intro j hj
            rw [harr]
            match j, hj with
            | 0, _ => exact ⟨_, _, _, _, _, _, _, _, ⟨rfl, rfl, rfl, rfl, rfl⟩, hR0, by rw [nest_right n hnl]; exact decide_eq_decide.2 (by omega)⟩
            | 1, _ => exact ⟨_, _, _, _, _, _, _, _, ⟨rfl, rfl, rfl, rfl, rfl⟩, hR1, by rw [wide_right m]; exact decide_eq_decide.2 (by omega)⟩
            | 2, _ => exact ⟨_, _, _, _, _, _, _, _, ⟨rfl, rfl, rfl, rfl, rfl⟩, hR2, by rw [show right (.mk 3 0 (List.replicate k 0) []) = _ from bytes_right k]; exact decide_eq_decide.2 (by omega)⟩
          have HF := Lib.hid hF
          have hYw : Below w.heap.size w Y := (hbr.trans (hYX.mono hbr.size))
          have HTY : Hid (∀ w', Below Y.heap.size Y w' → Tab w' w'.heap.size) := Lib.hid fun w' h => htabs.out w' (nxt hYw h)
          clear harr hY hF hR0 hR1 hR2 hCY hYX hbY2 hC hCs hbits hrep hbox q12 hbx hbr p10 p12 r0 r1 r2 r3 u0 u1 u2 u3 hcv hown2 hrow2 hg2 hb2 d0 d1 d2 d3 f0 f1 f2 f3
          go_loopw [72] (fun i wx => ∃ j : Nat, j ≤ 3 ∧ i = .int .i64 (j : Int) ∧ Below Y.heap.size Y wx) (fun i _ => 3 - (intOf i).toNat)
          case atStart => exact ⟨0, by omega, rfl, Below.refl _ _⟩
          case round =>
            obtain ⟨j, hj, rfl, hbx⟩ := hrel
            have hGx := heap_below hG hbx
            have sG := lt_heap hGx
            by_cases hlt : j < 3
            · obtain ⟨zk, zn, zs, zA, zl, zc, b, t, ⟨a0, a1, a2, a3, a4⟩, RT, hrt⟩ := HF.out j hlt
              have c0 := (cell_block hGx (j * 5)).trans a0
              have c1 := (cell_block hGx (j * 5 + 1)).trans a1
              have c2 := (cell_block hGx (j * 5 + 2)).trans a2
              have c3 := (cell_block hGx (j * 5 + 3)).trans a3
              have c4 := (cell_block hGx (j * 5 + 4)).trans a4
              have g3 : (0 : Int) ≤ j := by omega
              have g4 : (j : Int) < 3 := by omega
              have hok := RT.ok 16
              obtain ⟨bs, hbs⟩ : ∃ bs, bs = strOf (showT t) := ⟨_, rfl⟩
              have hmark : (bs.toList == [63]) = !b := by rw [hbs, show_mark hok, hrt]
              have HS := Lib.hid hbs
              have HR := Lib.hid hrt
              clear hbs hrt a0 a1 a2 a3 a4 hGx
              go_wp2_with fail
              have p6 := heap_new wr (.cells #[.int .u8 zk, .int .i64 zn, .string zs, .slice zA zl zc, .bool b] 52)
              have hb6 := hbx.alloc hbx.size (.cells #[.int .u8 zk, .int .i64 zn, .string zs, .slice zA zl zc, .bool b] 52)
              refine (put_any t _ _ [] _ Y.heap.size (RT.under hb6) hb6.size (Bs.nil _) (by simp)).mono ?_
              rintro e w7 ⟨hb7', hput0, hput⟩
              have hb7 := nxt hb6 hb7'
              have p7 := heap_below p6 hb7'
              have s7 := lt_heap p7
              have v0 := cell_block p7 0
              have v1 := cell_block p7 1
              have v2 := cell_block p7 2
              have v3 := cell_block p7 3
              have v4 := cell_block p7 4
              clear c0 c1 c2 c3 c4 hb7' p6 hb6
              cases b with
              | true =>
                obtain ⟨u5, rfl, ho5⟩ := hput HR.out
                rw [List.nil_append] at ho5
                obtain ⟨A5, c5, rfl, _, _, _, _, _⟩ := ho5.form
                have hEp : 0 < (enc 16 t).length := List.length_pos_iff.2 (enc_pos 15 t)
                have g5 : decide ((0 : Int) < ((enc 16 t).length : Int)) = true := by simp; omega
                have g5' : decide (0 < (enc 16 t).length) = true := by simp; omega
                clear hput0 hput ho5
                go_wp2_with fail
                go_region_held3 (fun w' => w'.cell? ⟨wr.heap.size, 0, none⟩ = some (.int .u8 zk) ∧ w'.cell? ⟨wr.heap.size, 1, none⟩ = some (.int .i64 zn) ∧ w'.cell? ⟨wr.heap.size, 2, none⟩ = some (.string zs) ∧ w'.cell? ⟨wr.heap.size, 3, none⟩ = some (.slice zA zl zc) ∧ w'.cell? ⟨wr.heap.size, 4, none⟩ = some (.bool true)) (go_keep)
                  (first
                | (go_at_call 18
                   refine (right_any t _ _ Y.heap.size (RT.under (hb7.drew)) hb7.size).mono ?_
                   rintro e w8 ⟨rfl, hb8'⟩
                   rw [HR.out]
                   have hb8 := nxt hb7 (of_drew hb8')
                   have p8 := heap_below p7 (of_drew hb8')
                   have v0 := cell_block p8 0
                   have v1 := cell_block p8 1
                   have v2 := cell_block p8 2
                   have v3 := cell_block p8 3
                   have v4 := cell_block p8 4)
                | (go_at_call 19
                   refine (show_any t _ _ Y.heap.size (RT.under hb8) hb8.size (HTY.out _ hb8)).mono ?_
                   rintro e w9 ⟨rfl, hb9'⟩
                   rw [← HS.out]
                   have hb9 := nxt hb8 hb9'
                   have p9 := heap_below p8 hb9'
                   have v0 := cell_block p9 0
                   have v1 := cell_block p9 1
                   have v2 := cell_block p9 2
                   have v3 := cell_block p9 3
                   have v4 := cell_block p9 4)
                | (fail))
                all_goals
                  clear v0 v1 v2 v3 v4
                  go_wp2_with fail
                  go_roundw
                  case rel => exact ⟨j + 1, by omega, by go_num, hb9⟩
                  case measure => simp [intOf]; omega
              | false =>
                obtain rfl := hput0 HR.out
                clear hput0 hput
                go_wp2_with fail
                go_region_held3 (fun w' => w'.cell? ⟨wr.heap.size, 0, none⟩ = some (.int .u8 zk) ∧ w'.cell? ⟨wr.heap.size, 1, none⟩ = some (.int .i64 zn) ∧ w'.cell? ⟨wr.heap.size, 2, none⟩ = some (.string zs) ∧ w'.cell? ⟨wr.heap.size, 3, none⟩ = some (.slice zA zl zc) ∧ w'.cell? ⟨wr.heap.size, 4, none⟩ = some (.bool false)) (go_keep)
                  (first
                | (go_at_call 18
                   refine (right_any t _ _ Y.heap.size (RT.under (hb7.drew)) hb7.size).mono ?_
                   rintro e w8 ⟨rfl, hb8'⟩
                   rw [HR.out]
                   have hb8 := nxt hb7 (of_drew hb8')
                   have p8 := heap_below p7 (of_drew hb8')
                   have v0 := cell_block p8 0
                   have v1 := cell_block p8 1
                   have v2 := cell_block p8 2
                   have v3 := cell_block p8 3
                   have v4 := cell_block p8 4)
                | (go_at_call 19
                   refine (show_any t _ _ Y.heap.size (RT.under hb8) hb8.size (HTY.out _ hb8)).mono ?_
                   rintro e w9 ⟨rfl, hb9'⟩
                   rw [← HS.out]
                   have hb9 := nxt hb8 hb9'
                   have p9 := heap_below p8 hb9'
                   have v0 := cell_block p9 0
                   have v1 := cell_block p9 1
                   have v2 := cell_block p9 2
                   have v3 := cell_block p9 3
                   have v4 := cell_block p9 4)
                | (fail))
                all_goals
                  clear v0 v1 v2 v3 v4
                  go_wp2_with fail
                  go_roundw
                  case rel => exact ⟨j + 1, by omega, by go_num, hb9⟩
                  case measure => simp [intOf]; omega
            · obtain rfl : j = 3 := by omega
              have hbw := nxt hYw hbx
              go_wp2_with fail
              refine (awake_any _ (htabs.out _ hbw)).mono ?_
              rintro e w10 ⟨rfl, hb10⟩
              go_wp2
              go_ret
              exact ⟨rfl, nxt hbw hb10⟩

set_option maxRecDepth 100000 in
theorem lifted (os : Os) (started : os.Started) (H : Type) (enc : TypeId × Value → H) :
    ReturnsInHanded {} Tryd.checked os 8 .any (fun w args => (Rows.valueBoundsSpec.pre enc Tryd.prog Tryd.f8 [] false w args ∧ laidMetH Tryd.prog laid3 w) ∧ sizedMet enc Tryd.prog Tryd.f8 (OpenSpec.ofChange Rows.valueBoundsSpec) false w args) (Rows.valueBoundsSpec.post enc Tryd.prog Tryd.f8 false true false false) := by
  refine returnsInHanded_of_change_and (C := Tryd.checked) (X := fun w _ => laidMetH Tryd.prog laid3 w) (fun _ _ _ hh h => h.of_heap hh) knob_own started (by kernel_rfl) Tryd.func8
    (ChangeSpec.witness_shaped (enc := enc) (C := Tryd.checked) (os := os) (X := fun w _ => laidMetH Tryd.prog laid3 w) false (World.doorLaid Tryd.prog 400 os) #[.int .u16 0, .int .u16 0, .int .u8 0] 8 rfl (World.shaped_of_RefB (by kernel_rfl) (by kernel_rfl)) (by kernel_rfl) (by kernel_rfl) (by kernel_rfl) (door_met os _)) ?_
  intro W base args ds gs before hval0 hW _ _ hL _
  have hval : ∀ (j : Nat) t v, Tryd.f8.params[j]? = some t → args[j]? = some v → Value.okWide Tryd.prog W .any base t v := hval0
  have hW' := hW
  obtain ⟨p, q, hA0, hV, rfl, hfz, hnd⟩ := hW
  have hA : DataW.TrodAll enc Tryd.prog W 0 (fun _ => true) true Tryd.f8.params.toList args.toList ds p := hA0
  rw [Tryd.params8] at hA hval
  obtain ⟨v0, vs0, d0, ds0, p0, q0, hargs, rfl, rfl, h0, r0⟩ := trodAll_cons hA
  obtain ⟨v1, vs1, d1, ds1, p1, q1, rfl, rfl, rfl, h1, r1⟩ := trodAll_cons r0
  obtain ⟨v2, vs2, d2, ds2, p2, q2, rfl, rfl, rfl, h2, r2⟩ := trodAll_cons r1
  obtain ⟨rfl, rfl, rfl⟩ := trodAll_nil r2
  obtain rfl : args = #[v0, v1, v2] := by cases args; simp_all
  obtain ⟨rfl, rfl⟩ := trodVars_none hV
  have lt0 : ∀ x ∈ p0, x.block < W.heap.size := by obtain ⟨m, hm⟩ := h0; exact DataW.trod_lt m _ _ _ hm
  have k0 := h0
  obtain ⟨a0, rfl, _, _, w0⟩ := open_int Tryd.underlying49 (hval 0 49 v0 rfl rfl) h0
  have lt1 : ∀ x ∈ p1, x.block < W.heap.size := by obtain ⟨m, hm⟩ := h1; exact DataW.trod_lt m _ _ _ hm
  have k1 := h1
  obtain ⟨a1, rfl, _, _, w1⟩ := open_int Tryd.underlying49 (hval 1 49 v1 rfl rfl) h1
  have lt2 : ∀ x ∈ p2, x.block < W.heap.size := by obtain ⟨m, hm⟩ := h2; exact DataW.trod_lt m _ _ _ hm
  have k2 := h2
  obtain ⟨a2, rfl, _, _, w2⟩ := open_int Tryd.underlying5 (hval 2 5 v2 rfl rfl) h2
  clear hA0 hval0
  refine (walk W (tab_laid hL) a0 a1 a2 w0 w1 w2).mono fun e W' ⟨he, bel⟩ => ?_
  subst he
  exact ⟨_, rfl, _, _, _, [], _, [], hW', trodAll_mk1 (shut_bool Tryd.underlying4 _), (trodAll_cons_mk (Below.trod laid_out (by kernel_rfl) (of_decide_eq_true (by kernel_rfl)) k0 bel lt0) (trodAll_cons_mk (Below.trod laid_out (by kernel_rfl) (of_decide_eq_true (by kernel_rfl)) k1 bel lt1) (trodAll_cons_mk (Below.trod laid_out (by kernel_rfl) (of_decide_eq_true (by kernel_rfl)) k2 bel lt2) (trodAll_mk0)))), rfl, bel.frame _, fun h => by cases h⟩

theorem over : Rows.valueBoundsRow.holds Tryd.pinned (OpenSpec.ofChange Rows.valueBoundsSpec) :=
  OpenClaim.holds_of_wide 8 Tryd.f8 rfl rfl rfl rfl rfl rfl rfl ⟨rfl, rfl, rfl, rfl, rfl⟩ rfl rfl rfl rfl rfl (by kernel_rfl) Tryd.func8 (by kernel_rfl)
    (of_decide_eq_true (by kernel_rfl)) (by unfold Func.isWrapper; first | (rw [if_pos (by decide +kernel)]; kernel_rfl) | (rw [if_neg (by decide +kernel)]; exact ⟨rfl, rfl⟩))
    (fun os started H enc _ => lifted os started H enc)

theorem proved : Rows.ValueBoundsCardSaid :=
  Claim7.holds_tied_plain_at .later [] [.data, .data, .data] true Rows.valueBoundsCard.stood.harness false
    over (fun _ h => by cases h) (by kernel_rfl) (fun _ h => by cases h) valueBounds_row_tie rfl ⟨rfl, rfl⟩ (by kernel_rfl) rfl
    (fun f fn hf hfn => by
      obtain rfl : f = 8 := Option.some.inj ((show Tryd.prog.funcNamed "drover/droverlaw02.ValueBounds" = some 8 by kernel_rfl).symm.trans hf) |>.symm
      obtain rfl : fn = Tryd.f8 := (Option.some.inj (Tryd.func8.symm.trans hfn)).symm
      exact ⟨by kernel_rfl, fun j t ht => by
        have hall : (Tryd.f8.params.toList.all fun u => !Tryd.prog.wantsStandIn u) = true := by kernel_rfl
        have hm : t ∈ Tryd.f8.params.toList := Array.mem_toList_iff.2 (Array.mem_of_getElem? ht)
        exact (show Tryd.prog.wantsStandIn t = false by simpa using List.all_eq_true.1 hall t hm)⟩)
    (by kernel_rfl)
end Go.Proofs.YtfobmlicmbelnaaDoor.valueBounds
