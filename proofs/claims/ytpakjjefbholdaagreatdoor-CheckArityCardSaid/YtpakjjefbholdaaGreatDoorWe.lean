/- Package words: signs: the walk. -/
import Derived.Test.YtpakjjefbholdaaGreatDoorWd
import Derived.Deep.MidRow
namespace Go.Proofs.YtpakjjefbholdaaGreatDoor
open Go.RowKit
set_option linter.unusedVariables false

/-- What the laid variables read as. -/
structure Wt (w : World) : Prop where
  sg : ∀ j, j < 24 → w.cell? ⟨3, j, none⟩ = some (.string (strOf (signs.getD j [])))
  er : ∃ ev, w.cell? ⟨6, 0, none⟩ = some ev ∧ (ev = .nilIface ∨ ∃ te pe, ev = .iface te pe)
theorem Wt.below {w w' : World} (h : Wt w) (hb : Below w.heap.size w w') : Wt w' := by
  refine ⟨fun j hj => (hb.cell (p := ⟨_, j, none⟩) (World.block_lt_of_cell? _ _ (h.sg j hj))).trans (h.sg j hj), ?_⟩
  obtain ⟨ev, h1, h2⟩ := h.er
  exact ⟨ev, (hb.cell (p := ⟨_, 0, none⟩) (World.block_lt_of_cell? _ _ h1)).trans h1, h2⟩
theorem set6 {X : World} {g : Nat} {y0 y1 y2 y3 y4 y5 : Value} (q : X.heap[g]? = some (.cells #[y0, y1, y2, y3, y4, y5] 76 (0, 0))) (z0 z1 z2 z3 z4 z5 : Value) : ((((((X.setCell ⟨g, 0, none⟩ z0).setCell ⟨g, 1, none⟩ z1).setCell ⟨g, 2, none⟩ z2).setCell ⟨g, 3, none⟩ z3).setCell ⟨g, 4, none⟩ z4).setCell ⟨g, 5, none⟩ z5).heap[g]? = some (.cells #[z0, z1, z2, z3, z4, z5] 76 (0, 0)) := by
  have := heap_set (heap_set (heap_set (heap_set (heap_set (heap_set q 0 z0) 1 z1) 2 z2) 3 z3) 4 z4) 5 z5
  simpa using this
theorem bel6 {B : Nat} {w X : World} {g : Nat} (hb : Below B w X) (hg : B ≤ g) (z0 z1 z2 z3 z4 z5 : Value) : Below B w ((((((X.setCell ⟨g, 0, none⟩ z0).setCell ⟨g, 1, none⟩ z1).setCell ⟨g, 2, none⟩ z2).setCell ⟨g, 3, none⟩ z3).setCell ⟨g, 4, none⟩ z4).setCell ⟨g, 5, none⟩ z5) :=
  (((((hb.setCell hg _).setCell hg _).setCell hg _).setCell hg _).setCell hg _).setCell hg _
theorem ret_sign {w X : World} {g : Nat} {y0 y1 y2 y3 y4 y5 z0 z1 z2 z3 z4 z5 : Value} {b : Bool} {V : Value} {a : Act} (q : X.heap[g]? = some (.cells #[y0, y1, y2, y3, y4, y5] 76 (0, 0))) (hb : Below w.heap.size w X) (hg : w.heap.size ≤ g) (h2 : a.tmps[2]?.getD undef = .pointer (some ⟨g, 0, none⟩)) (h3 : a.tmps[3]?.getD undef = .bool b) (hd : a.defers = []) (hV : V = .tuple #[.agg #[z0, z1, z2, z3, z4, z5], .bool b]) :
    bodyPost Tryz.prog Tryz.f195 (fun e w' => e = .returned V ∧ Below w.heap.size w w') Exit.ret a ((((((X.setCell ⟨g, 0, none⟩ z0).setCell ⟨g, 1, none⟩ z1).setCell ⟨g, 2, none⟩ z2).setCell ⟨g, 3, none⟩ z3).setCell ⟨g, 4, none⟩ z4).setCell ⟨g, 5, none⟩ z5) := by
  have p := set6 q z0 z1 z2 z3 z4 z5
  have c0 := cell_block p 0
  have c1 := cell_block p 1
  have c2 := cell_block p 2
  have c3 := cell_block p 3
  have c4 := cell_block p 4
  have c5 := cell_block p 5
  subst hV
  exact bodyPost_ret (v := .tuple #[.agg #[z0, z1, z2, z3, z4, z5], .bool b]) (by simp [results, Tryz.results195, go_sem, h2, h3, c0, c1, c2, c3, c4, c5]) hd ⟨rfl, bel6 hb hg _ _ _ _ _ _⟩
def sgnV (q : Option (List Nat)) : Value := match q with
  | some s => .tuple #[.agg #[.int .u8 5, .string (strOf s), .int .i64 0, .int .i64 0, .int .i64 0, .int .i64 (s.length : Int)], .bool true]
  | none => .tuple #[.agg #[.int .u8 0, .string ⟨#[]⟩, .int .i64 0, .int .i64 0, .int .i64 0, .int .i64 0], .bool false]
theorem pfx_map : ∀ (s T : List Nat), (∀ x ∈ s, x < 256) → (∀ x ∈ T, x < 256) → (s.map UInt8.ofNat).isPrefixOf (T.map UInt8.ofNat) = s.isPrefixOf T
  | [], T, _, _ => by simp
  | a :: s, [], _, _ => by simp
  | a :: s, b :: T, h, h' => by
    have ha := h a (by simp)
    have hb := h' b (by simp)
    have ih := pfx_map s T (fun x hx => h x (by simp [hx])) (fun x hx => h' x (by simp [hx]))
    simp only [List.map_cons, List.isPrefixOf]
    rw [ih]
    have e : (UInt8.ofNat a == UInt8.ofNat b) = (a == b) := by
      rw [Bool.eq_iff_iff, beq_iff_eq, beq_iff_eq]
      refine ⟨fun e => ?_, fun e => by rw [e]⟩
      have := congrArg UInt8.toNat e
      rw [UInt8.toNat_ofNat', UInt8.toNat_ofNat', Nat.mod_eq_of_lt ha, Nat.mod_eq_of_lt hb] at this
      exact this
    rw [e]
theorem find_hit {α : Type} (p : α → Bool) (d : α) : ∀ (l : List α) (j : Nat), j < l.length → (∀ i, i < j → p (l.getD i d) = false) → p (l.getD j d) = true → l.find? p = some (l.getD j d)
  | [], j, h, _, _ => by simp at h
  | x :: r, 0, _, _, h => by
    have h' : p x = true := h
    rw [List.find?_cons, h']
    rfl
  | x :: r, j + 1, hj, h0, h => by
    have h' : p x = false := h0 0 (by omega)
    rw [List.find?_cons, h']
    exact find_hit p d r j (by simpa using hj) (fun i hi => h0 (i + 1) (by omega)) h
theorem find_miss {α : Type} (p : α → Bool) (d : α) : ∀ (l : List α), (∀ i, i < l.length → p (l.getD i d) = false) → l.find? p = none
  | [], _ => rfl
  | x :: r, h0 => by
    have h' : p x = false := h0 0 (by simp)
    rw [List.find?_cons, h']
    exact find_miss p d r (fun i hi => h0 (i + 1) (by simpa using hi))
/-- The signs, as the array's value. -/
def sgA : Value := .agg (signs.map fun s => Value.string (strOf s)).toArray
theorem sg_idx (w : World) : ∀ j : Nat, j < 24 → (Instr.index 246 sgA (.int .i64 (j : Int))).run Tryz.prog w = .ok (.string (strOf (signs.getD j []))) w
  | 0, _ => by kernel_rfl
  | 1, _ => by kernel_rfl
  | 2, _ => by kernel_rfl
  | 3, _ => by kernel_rfl
  | 4, _ => by kernel_rfl
  | 5, _ => by kernel_rfl
  | 6, _ => by kernel_rfl
  | 7, _ => by kernel_rfl
  | 8, _ => by kernel_rfl
  | 9, _ => by kernel_rfl
  | 10, _ => by kernel_rfl
  | 11, _ => by kernel_rfl
  | 12, _ => by kernel_rfl
  | 13, _ => by kernel_rfl
  | 14, _ => by kernel_rfl
  | 15, _ => by kernel_rfl
  | 16, _ => by kernel_rfl
  | 17, _ => by kernel_rfl
  | 18, _ => by kernel_rfl
  | 19, _ => by kernel_rfl
  | 20, _ => by kernel_rfl
  | 21, _ => by kernel_rfl
  | 22, _ => by kernel_rfl
  | 23, _ => by kernel_rfl
  | n + 24, h => absurd h (by omega)
set_option maxRecDepth 100000 in
set_option maxHeartbeats 4000000 in
theorem sign_any (T : List Nat) (h8 : ∀ x ∈ T, x < 256) (hn : T.length ≤ 1099511627776) (w : World) (hw : Wt w) : Calls Tryz.prog 195 #[.string (strOf T)] w fun e w' => e = .returned (sgnV (sgn T)) ∧ Below w.heap.size w w' := by
  have HP := Lib.hid (fun (s : List Nat) (L : ByteArray) (hL : L = strOf s) (hs : ∀ x ∈ s, x < 256) (w : World) => show Calls Tryz.prog 62 #[.string (strOf T), .string L] w fun e w' => e = .returned (.bool (s.isPrefixOf T)) ∧ w' = w by
    subst hL
    refine (Tryz.strings_HasPrefix (strOf T) (strOf s) w).mono ?_
    rintro e w' ⟨rfl, rfl⟩
    refine ⟨?_, rfl⟩
    show Ending.returned (Value.bool ((strOf s).data.toList.isPrefixOf (strOf T).data.toList)) = _
    rw [strOf_data, strOf_data, pfx_map s T hs h8])
  have HSG := Lib.hid (fun j hj h0 h => find_hit (fun s => s.isPrefixOf T) [] signs j hj h0 h)
  have HSM := Lib.hid (fun h0 => find_miss (fun s => s.isPrefixOf T) [] signs h0)
  have HSZ := Lib.hid (fun h0 => find_miss (fun s => s.isPrefixOf T) [] signs h0)
  have h3 : 3 < w.heap.size := World.block_lt_of_cell? _ _ (hw.sg 0 (by decide))
  obtain ⟨V, hV⟩ : ∃ V, V = w.alloc (.cells #[.int .u8 0, .string ⟨#[]⟩, .int .i64 0, .int .i64 0, .int .i64 0, .int .i64 0] 76) := ⟨_, rfl⟩
  have HBV : Hid (Below w.heap.size w V) := Lib.hid (by rw [hV]; exact (Below.refl w.heap.size w).alloc (Nat.le_refl _) _)
  have HVQ : Hid (V.heap[w.heap.size]? = some (.cells #[.int .u8 0, .string ⟨#[]⟩, .int .i64 0, .int .i64 0, .int .i64 0, .int .i64 0] 76 (0, 0))) := Lib.hid (by rw [hV]; exact heap_new w _)
  obtain ⟨cs, hcs⟩ : ∃ cs, Hid (cs = signs.map fun s => Value.string (strOf s)) := ⟨_, Lib.hid rfl⟩
  have HRG : Hid (V.rangeAt 3 0 cs) := Lib.hid (fun j v hv => by
    rw [hcs.out] at hv
    rw [List.getElem?_map] at hv
    obtain ⟨s, h1, rfl⟩ := Option.map_eq_some_iff.1 hv
    have hj : j < 24 := (List.getElem?_eq_some_iff.1 h1).1
    have := (hw.below HBV.out).sg j hj
    rw [Nat.zero_add, this, List.getD_eq_getElem?_getD, h1]
    rfl)
  have HW := Lib.hid (hw.below HBV.out)
  generalize hgs : sgn T = G
  have HGS := Lib.hid hgs
  generalize strOf T = S at *
  clear h8 hw hgs
  go_enter Tryz.func195, Tryz.ntmps195
  go_upto_region 1 with fail
  rw [← hV]
  obtain ⟨g, hg⟩ : ∃ g, g = w.heap.size := ⟨_, rfl⟩
  rw [← hg] at HVQ ⊢
  have HGG : Hid (w.heap.size ≤ g) := Lib.hid (by omega)
  clear hV hg
  have HIX : Hid (∀ (j : Nat), j < 24 → ∀ w, (Instr.index 246 (.agg cs.toArray) (.int .i64 (j : Int))).run Tryz.prog w = .ok (.string (strOf (signs.getD j []))) w) := Lib.hid (fun j hj w => by rw [hcs.out]; exact sg_idx w j hj)
  have HB8 : Hid (∀ j, j < 24 → ∀ x ∈ signs.getD j [], x < 256) := Lib.hid (by decide)
  go_wp2_with ((with_reducible show wpList _ _ _ (⟨_, Op.load _ _, _, _, _, _⟩ :: _) _ _); refine wpList_load_mid rfl _ _ rfl 3 0 rfl cs _ HRG.out Tryz.underlying246 rfl (by rw [hcs.out]; kernel_rfl) ?_)
  have y0 := cell_block HVQ.out 0
  have y1 := cell_block HVQ.out 1
  have y2 := cell_block HVQ.out 2
  have y3 := cell_block HVQ.out 3
  have y4 := cell_block HVQ.out 4
  have y5 := cell_block HVQ.out 5
  have z0 := free_block HVQ.out 0
  have z1 := free_block HVQ.out 1
  have z2 := free_block HVQ.out 2
  have z3 := free_block HVQ.out 3
  have z4 := free_block HVQ.out 4
  have z5 := free_block HVQ.out 5
  go_loopw [7] (fun i wr => ∃ j : Nat, j ≤ 24 ∧ i = .int .i64 (j : Int) ∧ wr = V ∧ Hid (∀ i, i < j → (signs.getD i []).isPrefixOf T = false)) (fun i _ => 24 - (intOf i).toNat)
  case atStart => exact ⟨0, by omega, rfl, rfl, Lib.hid (fun i hi => by omega)⟩
  case round =>
    obtain ⟨j, hj, rfl, rfl, HM⟩ := hrel
    by_cases hlt : j < 24
    · have hix := HIX.out j hlt
      have HC := Lib.hid (HP.out (signs.getD j []) _ rfl (HB8.out j hlt))
      obtain ⟨b, hb⟩ : ∃ b, Hid ((signs.getD j []).isPrefixOf T = b) := ⟨_, Lib.hid rfl⟩
      rw [hb.out] at HC
      obtain ⟨s, hs⟩ : ∃ s, Hid (signs.getD j [] = s) := ⟨_, Lib.hid rfl⟩
      rw [hs.out] at HC hix
      have HZ := Lib.hid (strOf_size s)
      obtain ⟨L, hL⟩ : ∃ L, Hid (strOf s = L) := ⟨_, Lib.hid rfl⟩
      rw [hL.out] at HC HZ hix
      cases b with
      | true =>
        go_wp2_with (go_at_call 62; refine (HC.out _).mono ?_; rintro e w' ⟨he, hw⟩; subst hw; subst he)
        refine ret_sign HVQ.out HBV.out HGG.out rfl rfl rfl ?_
        have e : G = some s := by rw [← HGS.out, ← hs.out]; exact HSG.out j hlt HM.out hb.out
        rw [e, ← hL.out]
        rw [strOf_size]
        rfl
      | false =>
        go_wp2_with (go_at_call 62; refine (HC.out _).mono ?_; rintro e w' ⟨he, hw⟩; subst hw; subst he)
        go_roundw
        case rel => exact ⟨j + 1, by omega, by go_num, trivial, Lib.hid (fun i hi => by
          rcases Nat.lt_or_ge i j with h | h
          · exact HM.out i h
          · obtain rfl : i = j := by omega
            exact hb.out)⟩
        case measure => simp [intOf]; omega
    · obtain rfl : j = 24 := by omega
      go_wp2_with fail
      refine ret_sign HVQ.out HBV.out HGG.out rfl rfl rfl ?_
      have e : G = none := by rw [← HGS.out]; exact HSM.out HM.out
      rw [e]
      rfl
end Go.Proofs.YtpakjjefbholdaaGreatDoor
