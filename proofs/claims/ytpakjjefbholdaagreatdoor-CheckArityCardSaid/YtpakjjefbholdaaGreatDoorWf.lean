/- Package words: numbers, names: the walks. -/
import Derived.Test.YtpakjjefbholdaaGreatDoorWe
namespace Go.Proofs.YtpakjjefbholdaaGreatDoor
open Go.RowKit
set_option linter.unusedVariables false

def tokV (q : Option Tk) : Value := match q with
  | some t => .tuple #[.agg #[.int .u8 (t.k : Int), .string (strOf t.s), .int .i64 (t.n : Int), .int .i64 0, .int .i64 0, .int .i64 (t.e : Int)], .bool true]
  | none => .tuple #[.agg #[.int .u8 0, .string ⟨#[]⟩, .int .i64 0, .int .i64 0, .int .i64 0, .int .i64 0], .bool false]
theorem take_dig (T : List Nat) (p : Nat → Bool) : (strOf T).extract 0 (T.takeWhile p).length = strOf (T.takeWhile p) := by
  rw [strOf_extract, List.drop_zero, tw_eq]
theorem ret_number {w X : World} {g : Nat} {y0 y1 y2 y3 y4 y5 z0 z1 z2 z3 z4 z5 : Value} {b : Bool} {V : Value} {a : Act} (q : X.heap[g]? = some (.cells #[y0, y1, y2, y3, y4, y5] 76 (0, 0))) (hb : Below w.heap.size w X) (hg : w.heap.size ≤ g) (h2 : a.tmps[2]?.getD undef = .pointer (some ⟨g, 0, none⟩)) (h3 : a.tmps[3]?.getD undef = .bool b) (hd : a.defers = []) (hV : V = .tuple #[.agg #[z0, z1, z2, z3, z4, z5], .bool b]) :
    bodyPost Tryz.prog Tryz.f191 (fun e w' => e = .returned V ∧ Below w.heap.size w w') Exit.ret a ((((((X.setCell ⟨g, 0, none⟩ z0).setCell ⟨g, 1, none⟩ z1).setCell ⟨g, 2, none⟩ z2).setCell ⟨g, 3, none⟩ z3).setCell ⟨g, 4, none⟩ z4).setCell ⟨g, 5, none⟩ z5) := by
  have p := set6 q z0 z1 z2 z3 z4 z5
  have c0 := cell_block p 0
  have c1 := cell_block p 1
  have c2 := cell_block p 2
  have c3 := cell_block p 3
  have c4 := cell_block p 4
  have c5 := cell_block p 5
  subst hV
  exact bodyPost_ret (v := .tuple #[.agg #[z0, z1, z2, z3, z4, z5], .bool b]) (by simp [results, Tryz.results191, go_sem, h2, h3, c0, c1, c2, c3, c4, c5]) hd ⟨rfl, bel6 hb hg _ _ _ _ _ _⟩
set_option maxRecDepth 100000 in
set_option maxHeartbeats 4000000 in
theorem number_any (T : List Nat) (h8 : ∀ x ∈ T, x < 256) (hn : T.length ≤ 1099511627776) (w : World) (hw : Wt w) (h0 : T.takeWhile dig ≠ []) : Calls Tryz.prog 191 #[.string (strOf T)] w fun e w' => e = .returned (tokV (num T)) ∧ Below w.heap.size w w' := by
  have HR := Lib.hid (fun w => run_dig h8 hn w)
  have hx := take_dig T dig
  have hl := tw_len (p := dig) T
  have hp := parse_dig (T.takeWhile dig) (tw_all T) h0
  rw [← strOf_data] at hp
  have hs : (strOf (T.takeWhile dig)).size = (T.takeWhile dig).length := strOf_size _
  have hS : (strOf T).size = T.length := strOf_size _
  unfold num
  generalize strOf (T.takeWhile dig) = D at *
  generalize dval (T.takeWhile dig) = v at *
  generalize (T.takeWhile dig).length = k at *
  generalize strOf T = S at *
  obtain ⟨R, hR⟩ : ∃ R, Hid (tokV (if v ≤ 9223372036854775807 then some ⟨1, v, [], k⟩ else none) = R) := ⟨_, Lib.hid rfl⟩
  rw [hR.out]
  obtain ⟨V, hV⟩ : ∃ V, V = w.alloc (.cells #[.int .u8 0, .string ⟨#[]⟩, .int .i64 0, .int .i64 0, .int .i64 0, .int .i64 0] 76) := ⟨_, rfl⟩
  have HBV : Hid (Below w.heap.size w V) := Lib.hid (by rw [hV]; exact (Below.refl w.heap.size w).alloc (Nat.le_refl _) _)
  have HVQ : Hid (V.heap[w.heap.size]? = some (.cells #[.int .u8 0, .string ⟨#[]⟩, .int .i64 0, .int .i64 0, .int .i64 0, .int .i64 0] 76 (0, 0))) := Lib.hid (by rw [hV]; exact heap_new w _)
  have HW := Lib.hid (hw.below HBV.out)
  have hkk : decide ((k : Int) ≤ (S.size : Int)) = true := decide_eq_true (by omega)
  go_enter Tryz.func191, Tryz.ntmps191
  go_upto_region 1 with fail
  rw [← hV]
  obtain ⟨g, hg⟩ : ∃ g, g = w.heap.size := ⟨_, rfl⟩
  rw [← hg] at HVQ ⊢
  have HGG : Hid (w.heap.size ≤ g) := Lib.hid (by omega)
  clear hV hg
  by_cases hv : v ≤ 9223372036854775807
  · rw [if_pos hv] at hp
    have HPI := Lib.hid (show Calls Tryz.prog 211 #[.string D, .int .i64 10, .int .i64 64] V fun e w' => e = .returned (.tuple #[.int .i64 (v : Int), .nilIface]) ∧ Below V.heap.size V w' from (Tryz.strconv_ParseInt_10_at64_ok D (by omega) _ hp V).mono (by
      rintro e w' ⟨rfl, rfl | ⟨t, rfl⟩⟩
      · exact ⟨rfl, Below.refl _ _⟩
      · exact ⟨rfl, Lib.bytesWorld_below _ _ _⟩))
    clear hp
    go_wp2_with (first
      | (go_at_call 187
         refine (HR.out _).mono ?_
         rintro e w' ⟨he, hw⟩
         subst hw
         subst he)
      | (go_at_call 211
         refine HPI.out.mono ?_
         rintro e w1 ⟨he, hb⟩
         subst he
         have HB1 := Lib.hid hb
         have HV1 := Lib.hid (heap_below HVQ.out hb)
         clear hb
         have y0 := cell_block HV1.out 0
         have z0 := free_block HV1.out 0
         have y1 := cell_block HV1.out 1
         have z1 := free_block HV1.out 1
         have y2 := cell_block HV1.out 2
         have z2 := free_block HV1.out 2
         have y3 := cell_block HV1.out 3
         have z3 := free_block HV1.out 3
         have y4 := cell_block HV1.out 4
         have z4 := free_block HV1.out 4
         have y5 := cell_block HV1.out 5
         have z5 := free_block HV1.out 5
)
      | (fail))
    exact ret_number HV1.out (HBV.out.trans (HB1.out.mono HBV.out.size)) HGG.out rfl rfl rfl (by rw [← hR.out, if_pos hv]; rfl)
  · rw [if_neg hv] at hp
    obtain ⟨ev, h1, h2⟩ := HW.out.er
    have HPI := Lib.hid (show Calls Tryz.prog 211 #[.string D, .int .i64 10, .int .i64 64] V fun e w' => (∃ x t p, e = .returned (.tuple #[.int .i64 x, .iface t p])) ∧ Below V.heap.size V w' from (Tryz.strconv_ParseInt_10_at64_range D (by omega) hp ev V h1 h2).mono (by
      rintro e w' ⟨N, rfl, -, -, hb⟩
      exact ⟨⟨_, _, _, rfl⟩, hb⟩))
    clear hp h1 h2
    go_wp2_with (first
      | (go_at_call 187
         refine (HR.out _).mono ?_
         rintro e w' ⟨he, hw⟩
         subst hw
         subst he)
      | (go_at_call 211
         refine HPI.out.mono ?_
         rintro e w1 ⟨⟨px, pt, pv, he⟩, hb⟩
         subst he
         have HB1 := Lib.hid hb
         have HV1 := Lib.hid (heap_below HVQ.out hb)
         clear hb
         have y0 := cell_block HV1.out 0
         have z0 := free_block HV1.out 0
         have y1 := cell_block HV1.out 1
         have z1 := free_block HV1.out 1
         have y2 := cell_block HV1.out 2
         have z2 := free_block HV1.out 2
         have y3 := cell_block HV1.out 3
         have z3 := free_block HV1.out 3
         have y4 := cell_block HV1.out 4
         have z4 := free_block HV1.out 4
         have y5 := cell_block HV1.out 5
         have z5 := free_block HV1.out 5
)
      | (fail))
    exact ret_number HV1.out (HBV.out.trans (HB1.out.mono HBV.out.size)) HGG.out rfl rfl rfl (by rw [← hR.out, if_neg hv]; rfl)
end Go.Proofs.YtpakjjefbholdaaGreatDoor
