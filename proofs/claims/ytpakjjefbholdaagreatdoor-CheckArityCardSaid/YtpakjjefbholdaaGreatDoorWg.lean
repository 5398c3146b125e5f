/- Package words: names, texts: the walks. -/
import Derived.Test.YtpakjjefbholdaaGreatDoorWf
namespace Go.Proofs.YtpakjjefbholdaaGreatDoor
open Go.RowKit
set_option linter.unusedVariables false

theorem sclone_any (S : ByteArray) (hn : S.size ≤ 281474976710656) (w : World) : Calls Tryz.prog 215 #[.string S] w fun e w' => e = .returned (.string S) ∧ Below w.heap.size w w' := by
  have H := Lib.hid (Tryz.stringslite_Clone S w hn)
  go_enter Tryz.func215, Tryz.ntmps215
  go_wp2_with (go_at_call 224; refine H.out.mono ?_; rintro e w' ⟨he, hb⟩; subst he)
  go_ret
  exact ⟨rfl, hb⟩
theorem ret_name {w X : World} {g : Nat} {y0 y1 y2 y3 y4 y5 z0 z1 z2 z3 z4 z5 : Value} {V : Value} {a : Act} (o : Obj) (q : X.heap[g]? = some (.cells #[y0, y1, y2, y3, y4, y5] 76 (0, 0))) (hb : Below w.heap.size w X) (hg : w.heap.size ≤ g) (h2 : a.tmps[2]?.getD undef = .pointer (some ⟨g, 0, none⟩)) (hd : a.defers = []) (hV : V = .agg #[z0, z1, z2, z3, z4, z5]) :
    bodyPost Tryz.prog Tryz.f194 (fun e w' => e = .returned V ∧ Below w.heap.size w w') Exit.ret a (((((((X.setCell ⟨g, 0, none⟩ z0).setCell ⟨g, 1, none⟩ z1).setCell ⟨g, 2, none⟩ z2).setCell ⟨g, 3, none⟩ z3).setCell ⟨g, 4, none⟩ z4).setCell ⟨g, 5, none⟩ z5).alloc o) := by
  have p := heap_old (set6 q z0 z1 z2 z3 z4 z5) o
  have c0 := cell_block p 0
  have c1 := cell_block p 1
  have c2 := cell_block p 2
  have c3 := cell_block p 3
  have c4 := cell_block p 4
  have c5 := cell_block p 5
  subst hV
  exact bodyPost_ret (v := .agg #[z0, z1, z2, z3, z4, z5]) (by simp [results, Tryz.results194, go_sem, h2, c0, c1, c2, c3, c4, c5]) hd ⟨rfl, (bel6 hb hg _ _ _ _ _ _).alloc (bel6 hb hg _ _ _ _ _ _).size _⟩
set_option maxRecDepth 100000 in
set_option maxHeartbeats 4000000 in
theorem name_any (T : List Nat) (h8 : ∀ x ∈ T, x < 256) (hn : T.length ≤ 1099511627776) (w : World) : Calls Tryz.prog 194 #[.string (strOf T)] w fun e w' => e = .returned (.agg #[.int .u8 (if T.takeWhile wrd ∈ keys then 4 else 3), .string (strOf (T.takeWhile wrd)), .int .i64 0, .int .i64 0, .int .i64 0, .int .i64 ((T.takeWhile wrd).length : Int)]) ∧ Below w.heap.size w w' := by
  have HR := Lib.hid (fun w => run_wrd h8 hn w)
  have hx := take_dig T wrd
  have hl := tw_len (p := wrd) T
  have HK := Lib.hid (fun w => isKey_any (T.takeWhile wrd) (fun x hx => h8 x ((List.takeWhile_sublist _).subset hx)) w)
  have hs : (strOf (T.takeWhile wrd)).size = (T.takeWhile wrd).length := strOf_size _
  have hS : (strOf T).size = T.length := strOf_size _
  have HC := Lib.hid (fun w => sclone_any (strOf (T.takeWhile wrd)) (by omega) w)
  have e : ((if T.takeWhile wrd ∈ keys then 4 else 3 : Int)) = if decide (T.takeWhile wrd ∈ keys) = true then 4 else 3 := by simp
  rw [e]
  generalize decide (T.takeWhile wrd ∈ keys) = b at *
  generalize strOf (T.takeWhile wrd) = D at *
  generalize (T.takeWhile wrd).length = k at *
  generalize strOf T = S at *
  have hkk : decide ((k : Int) ≤ (S.size : Int)) = true := decide_eq_true (by omega)
  clear e
  obtain ⟨V, hV⟩ : ∃ V, V = w.alloc (.cells #[.int .u8 0, .string ⟨#[]⟩, .int .i64 0, .int .i64 0, .int .i64 0, .int .i64 0] 76) := ⟨_, rfl⟩
  have HBV : Hid (Below w.heap.size w V) := Lib.hid (by rw [hV]; exact (Below.refl w.heap.size w).alloc (Nat.le_refl _) _)
  have HVQ : Hid (V.heap[w.heap.size]? = some (.cells #[.int .u8 0, .string ⟨#[]⟩, .int .i64 0, .int .i64 0, .int .i64 0, .int .i64 0] 76 (0, 0))) := Lib.hid (by rw [hV]; exact heap_new w _)
  cases b with
  | true =>
    go_enter Tryz.func194, Tryz.ntmps194
    go_upto_region 1 with fail
    rw [← hV]
    obtain ⟨g, hg⟩ : ∃ g, g = w.heap.size := ⟨_, rfl⟩
    rw [← hg] at HVQ ⊢
    have HGG : Hid (w.heap.size ≤ g) := Lib.hid (by omega)
    clear hV hg
    go_wp2_with (first
      | (go_at_call 187
         refine (HR.out _).mono ?_
         rintro e w' ⟨he, hw⟩
         subst hw
         subst he)
      | (go_at_call 215
         refine (HC.out _).mono ?_
         rintro e w1 ⟨he, hb⟩
         subst he
         have HB1 := Lib.hid hb
         have HV1 := Lib.hid (heap_below HVQ.out hb)
         have y0 := cell_block HV1.out 0
         have z0 := free_block HV1.out 0
         have y1 := cell_block HV1.out 1
         have z1 := free_block HV1.out 1
         have y2 := cell_block HV1.out 2
         have z2 := free_block HV1.out 2
         have y3 := cell_block HV1.out 3
         have z3 := free_block HV1.out 3
         have y4 := cell_block HV1.out 4
         have z4 := free_block HV1.out 4
         have y5 := cell_block HV1.out 5
         have z5 := free_block HV1.out 5
         have hlt1 := lt_heap HV1.out
         have hne1 : g ≠ w1.heap.size := by omega
         have hne2 : w1.heap.size ≠ g := by omega
         clear hb)
      | (go_at_call 216
         refine (HK.out _).mono ?_
         rintro e w' ⟨he, hw⟩
         subst hw
         subst he)
      | (fail))
    exact ret_name _ HV1.out (HBV.out.trans (HB1.out.mono HBV.out.size)) HGG.out rfl rfl rfl
  | false =>
    go_enter Tryz.func194, Tryz.ntmps194
    go_upto_region 1 with fail
    rw [← hV]
    obtain ⟨g, hg⟩ : ∃ g, g = w.heap.size := ⟨_, rfl⟩
    rw [← hg] at HVQ ⊢
    have HGG : Hid (w.heap.size ≤ g) := Lib.hid (by omega)
    clear hV hg
    go_wp2_with (first
      | (go_at_call 187
         refine (HR.out _).mono ?_
         rintro e w' ⟨he, hw⟩
         subst hw
         subst he)
      | (go_at_call 215
         refine (HC.out _).mono ?_
         rintro e w1 ⟨he, hb⟩
         subst he
         have HB1 := Lib.hid hb
         have HV1 := Lib.hid (heap_below HVQ.out hb)
         have y0 := cell_block HV1.out 0
         have z0 := free_block HV1.out 0
         have y1 := cell_block HV1.out 1
         have z1 := free_block HV1.out 1
         have y2 := cell_block HV1.out 2
         have z2 := free_block HV1.out 2
         have y3 := cell_block HV1.out 3
         have z3 := free_block HV1.out 3
         have y4 := cell_block HV1.out 4
         have z4 := free_block HV1.out 4
         have y5 := cell_block HV1.out 5
         have z5 := free_block HV1.out 5
         have hlt1 := lt_heap HV1.out
         have hne1 : g ≠ w1.heap.size := by omega
         have hne2 : w1.heap.size ≠ g := by omega
         clear hb)
      | (go_at_call 216
         refine (HK.out _).mono ?_
         rintro e w' ⟨he, hw⟩
         subst hw
         subst he)
      | (fail))
    exact ret_name _ HV1.out (HBV.out.trans (HB1.out.mono HBV.out.size)) HGG.out rfl rfl rfl
end Go.Proofs.YtpakjjefbholdaaGreatDoor
