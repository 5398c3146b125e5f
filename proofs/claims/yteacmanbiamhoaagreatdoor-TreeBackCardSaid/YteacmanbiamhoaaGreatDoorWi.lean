/- Package words: the first token: the walk. -/
import Derived.Test.YteacmanbiamhoaaGreatDoorWdh
namespace Go.Proofs.YteacmanbiamhoaaGreatDoor
open Go.RowKit
set_option linter.unusedVariables false

theorem tokV_form (q : Option Tk) : ∃ (k n e : Nat) (S : ByteArray) (b : Bool), tokV q = .tuple #[.agg #[.int .u8 (k : Int), .string S, .int .i64 (n : Int), .int .i64 0, .int .i64 0, .int .i64 (e : Int)], .bool b] := by
  cases q with
  | none => exact ⟨0, 0, 0, ⟨#[]⟩, false, rfl⟩
  | some t => exact ⟨t.k, t.n, t.e, strOf t.s, true, rfl⟩
theorem sgnV_tok (q : Option (List Nat)) : sgnV q = tokV (q.map fun s => ⟨5, 0, s, s.length⟩) := by cases q <;> rfl
theorem ret_first {w X : World} {g : Nat} {y0 y1 y2 y3 y4 y5 z0 z1 z2 z3 z4 z5 : Value} {b : Bool} {V : Value} {a : Act} (q : X.heap[g]? = some (.cells #[y0, y1, y2, y3, y4, y5] 100 (0, 0))) (hb : Below w.heap.size w X) (hg : w.heap.size ≤ g) (h2 : a.tmps[2]?.getD undef = .pointer (some ⟨g, 0, none⟩)) (h3 : a.tmps[3]?.getD undef = .bool b) (hd : a.defers = []) (hV : V = .tuple #[.agg #[z0, z1, z2, z3, z4, z5], .bool b]) :
    bodyPost Tryz.prog Tryz.f215 (fun e w' => e = .returned V ∧ Below w.heap.size w w') Exit.ret a ((((((X.setCell ⟨g, 0, none⟩ z0).setCell ⟨g, 1, none⟩ z1).setCell ⟨g, 2, none⟩ z2).setCell ⟨g, 3, none⟩ z3).setCell ⟨g, 4, none⟩ z4).setCell ⟨g, 5, none⟩ z5) := by
  have p := set6 q z0 z1 z2 z3 z4 z5
  have c0 := cell_block p 0
  have c1 := cell_block p 1
  have c2 := cell_block p 2
  have c3 := cell_block p 3
  have c4 := cell_block p 4
  have c5 := cell_block p 5
  subst hV
  exact bodyPost_ret (v := .tuple #[.agg #[z0, z1, z2, z3, z4, z5], .bool b]) (by simp [results, Tryz.results215, go_sem, h2, h3, c0, c1, c2, c3, c4, c5]) hd ⟨rfl, bel6 hb hg _ _ _ _ _ _⟩
theorem box6 {X : World} {g : Nat} {y0 y1 y2 y3 y4 y5 : Value} {E : TypeId} (h : X.heap[g]? = some (.cells #[y0, y1, y2, y3, y4, y5] E (0, 0))) :
    X.cell? ⟨g, 0, none⟩ = some y0 ∧ X.cell? ⟨g, 1, none⟩ = some y1 ∧ X.cell? ⟨g, 2, none⟩ = some y2 ∧ X.cell? ⟨g, 3, none⟩ = some y3 ∧ X.cell? ⟨g, 4, none⟩ = some y4 ∧ X.cell? ⟨g, 5, none⟩ = some y5
    ∧ X.frozen? ⟨g, 0, none⟩ = false ∧ X.frozen? ⟨g, 1, none⟩ = false ∧ X.frozen? ⟨g, 2, none⟩ = false ∧ X.frozen? ⟨g, 3, none⟩ = false ∧ X.frozen? ⟨g, 4, none⟩ = false ∧ X.frozen? ⟨g, 5, none⟩ = false :=
  ⟨cell_block h 0, cell_block h 1, cell_block h 2, cell_block h 3, cell_block h 4, cell_block h 5, free_block h 0, free_block h 1, free_block h 2, free_block h 3, free_block h 4, free_block h 5⟩
def firstP (F : FuncId) (T : List Nat) (q : Option Tk) (V : World) : Prop := Calls Tryz.prog F #[.string (strOf T)] V fun e w' => e = .returned (tokV q) ∧ Below V.heap.size V w'
set_option maxRecDepth 100000 in
set_option maxHeartbeats 4000000 in
theorem first_any (T : List Nat) (h8 : ∀ x ∈ T, x < 256) (hn : T.length ≤ 1099511627776) (w : World) (hw : Wt w) : Calls Tryz.prog 215 #[.string (strOf T)] w fun e w' => e = .returned (tokV (tok T)) ∧ Below w.heap.size w w' := by
  obtain ⟨V, hV⟩ : ∃ V, V = w.alloc (.cells #[.int .u8 0, .string ⟨#[]⟩, .int .i64 0, .int .i64 0, .int .i64 0, .int .i64 0] 100) := ⟨_, rfl⟩
  have HBV : Hid (Below w.heap.size w V) := Lib.hid (by rw [hV]; exact (Below.refl w.heap.size w).alloc (Nat.le_refl _) _)
  have HVQ : Hid (V.heap[w.heap.size]? = some (.cells #[.int .u8 0, .string ⟨#[]⟩, .int .i64 0, .int .i64 0, .int .i64 0, .int .i64 0] 100 (0, 0))) := Lib.hid (by rw [hV]; exact heap_new w _)
  have HWV := Lib.hid (hw.below HBV.out)
  match T, h8 with
  | [], _ =>
    obtain ⟨S, hS⟩ : ∃ S, S = strOf [] := ⟨_, rfl⟩
    have hemp : (S.toList == ([] : List UInt8)) = true := by rw [hS, toList_strOf]; rfl
    rw [← hS]
    clear hS
    go_enter Tryz.func215, Tryz.ntmps215
    go_upto_region 1 with fail
    rw [← hV]
    obtain ⟨g, hg⟩ : ∃ g, g = w.heap.size := ⟨_, rfl⟩
    rw [← hg] at HVQ ⊢
    have HGG : Hid (w.heap.size ≤ g) := Lib.hid (by omega)
    clear hV hg
    obtain ⟨y0, y1, y2, y3, y4, y5, z0, z1, z2, z3, z4, z5⟩ := box6 HVQ.out
    go_wp2_with fail
    exact ret_first HVQ.out HBV.out HGG.out rfl rfl rfl rfl
  | x :: r, h8 =>
    have hx8 : x < 256 := h8 x (by simp)
    have HS := Lib.hid (strIs (x :: r) h8)
    have HNUM : Hid (dig x = true → firstP 260 (x :: r) (num (x :: r)) V) := Lib.hid (fun hd => number_any (x :: r) h8 hn V HWV.out (by simp [hd]))
    have HQUO : Hid (x = 34 → firstP 261 (x :: r) ((say r).map fun p => ⟨2, 0, p.1, p.2 + 1⟩) V) := Lib.hid (fun e => by subst e; exact quoted_any r (fun y hy => h8 y (by simp [hy])) (by simp at hn; omega) V)
    have HSGN : Hid (firstP 264 (x :: r) ((sgn (x :: r)).map fun s => ⟨5, 0, s, s.length⟩) V) := Lib.hid (by
      have := sign_any (x :: r) h8 hn V HWV.out
      rw [sgnV_tok] at this
      exact this)
    have HNAM := Lib.hid (name_any (x :: r) h8 hn V)
    have HTK : Hid (tok (x :: r) = if dig x then num (x :: r) else if x = 34 then (say r).map fun p => ⟨2, 0, p.1, p.2 + 1⟩ else if ltr x then some ⟨if (x :: r).takeWhile wrd ∈ keys then 4 else 3, 0, (x :: r).takeWhile wrd, ((x :: r).takeWhile wrd).length⟩ else (sgn (x :: r)).map fun s => ⟨5, 0, s, s.length⟩) := Lib.hid rfl
    obtain ⟨R, hR⟩ : ∃ R, Hid (tokV (tok (x :: r)) = R) := ⟨_, Lib.hid rfl⟩
    rw [hR.out]
    unfold firstP at HNUM HQUO HSGN
    have HD := Lib.hid (fun w => isDigit_any w x)
    have HL := Lib.hid (fun w => isLetter_any w x)
    have hz := HS.out.1
    obtain ⟨S, hS⟩ : ∃ S, S = strOf (x :: r) := ⟨_, rfl⟩
    rw [← hS] at HNUM HQUO HSGN HNAM HS hz ⊢
    have hemp : (S.toList == ([] : List UInt8)) = false := by
      rw [hS, toList_strOf]
      simp
    clear hS
    have k0 : 0 < S.size := by rw [hz]; simp
    have x0 := HS.out.2 0 (by simp) k0
    simp only [List.getElem_cons_zero] at x0
    clear hz
    go_enter Tryz.func215, Tryz.ntmps215
    go_upto_region 1 with fail
    rw [← hV]
    obtain ⟨g, hg⟩ : ∃ g, g = w.heap.size := ⟨_, rfl⟩
    rw [← hg] at HVQ ⊢
    have HGG : Hid (w.heap.size ≤ g) := Lib.hid (by omega)
    clear hV hg
    cases hd : dig x with
    | true =>
      as_aux_lemma =>
      obtain ⟨k, n, e, D, b, hf⟩ := tokV_form (num (x :: r))
      have hN := HNUM.out hd
      rw [hf] at hN
      have HN := Lib.hid hN
      have HRR := Lib.hid (show R = _ by rw [← hR.out, HTK.out, if_pos hd, hf])
      rw [hd] at HD
      clear hd hf hN
      go_wp2_with (first
        | (go_at_call 259
           refine (HD.out _).mono ?_
           rintro e w' ⟨he, hw⟩
           subst hw
           subst he)
        | (go_at_call 260
           refine HN.out.mono ?_
           rintro e w1 ⟨he, hb⟩
           subst he
           have HB1 := Lib.hid hb
           have HV1 := Lib.hid (heap_below HVQ.out hb)
           clear hb
           obtain ⟨y0, y1, y2, y3, y4, y5, z0, z1, z2, z3, z4, z5⟩ := box6 HV1.out)
        | (fail))
      refine ret_first HV1.out (HBV.out.trans (HB1.out.mono HBV.out.size)) HGG.out rfl rfl rfl ?_
      exact HRR.out
    | false =>
      rw [hd] at HD
      by_cases h34 : x = 34
      · as_aux_lemma =>
        have d34 : ((x : Int) == 34) = true := by subst h34; rfl
        obtain ⟨k, n, e, D, b, hf⟩ := tokV_form ((say r).map fun p => ⟨2, 0, p.1, p.2 + 1⟩)
        have hN := HQUO.out h34
        rw [hf] at hN
        have HN := Lib.hid hN
        have HRR := Lib.hid (show R = _ by rw [← hR.out, HTK.out, hd, if_neg (by simp), if_pos h34, hf])
        clear hd hf hN h34
        go_wp2_with (first
          | (go_at_call 259
             refine (HD.out _).mono ?_
             rintro e w' ⟨he, hw⟩
             subst hw
             subst he)
          | (go_at_call 261
             refine HN.out.mono ?_
             rintro e w1 ⟨he, hb⟩
             subst he
             have HB1 := Lib.hid hb
             have HV1 := Lib.hid (heap_below HVQ.out hb)
             clear hb
             obtain ⟨y0, y1, y2, y3, y4, y5, z0, z1, z2, z3, z4, z5⟩ := box6 HV1.out)
          | (fail))
        refine ret_first HV1.out (HBV.out.trans (HB1.out.mono HBV.out.size)) HGG.out rfl rfl rfl ?_
        exact HRR.out
      · have d34 : ((x : Int) == 34) = false := beq_eq_false_iff_ne.2 (by omega)
        cases hl : ltr x with
        | true =>
          as_aux_lemma =>
          have HRR := Lib.hid (show R = _ by rw [← hR.out, HTK.out, hd, if_neg (by simp), if_neg h34, hl, if_pos rfl])
          rw [hl] at HL
          have e0 : ∃ k : Int, k = (if (x :: r).takeWhile wrd ∈ keys then 4 else 3 : Int) := ⟨_, rfl⟩
          obtain ⟨kk, hkk⟩ := e0
          have HKK := Lib.hid hkk
          rw [← hkk] at HNAM
          clear hd hl h34 hkk
          go_wp2_with (first
            | (go_at_call 259
               refine (HD.out _).mono ?_
               rintro e w' ⟨he, hw⟩
               subst hw
               subst he)
            | (go_at_call 262
               refine (HL.out _).mono ?_
               rintro e w' ⟨he, hw⟩
               subst hw
               subst he)
            | (go_at_call 263
               refine HNAM.out.mono ?_
               rintro e w1 ⟨he, hb⟩
               subst he
               have HB1 := Lib.hid hb
               have HV1 := Lib.hid (heap_below HVQ.out hb)
               clear hb
               obtain ⟨y0, y1, y2, y3, y4, y5, z0, z1, z2, z3, z4, z5⟩ := box6 HV1.out)
            | (fail))
          refine ret_first HV1.out (HBV.out.trans (HB1.out.mono HBV.out.size)) HGG.out rfl rfl rfl ?_
          have e : (((if (x :: r).takeWhile wrd ∈ keys then 4 else 3 : Nat)) : Int) = kk := by rw [HKK.out]; split <;> rfl
          refine HRR.out.trans ?_
          unfold tokV
          simp only
          rw [e]
          rfl
        | false =>
          as_aux_lemma =>
          obtain ⟨k, n, e, D, b, hf⟩ := tokV_form ((sgn (x :: r)).map fun s => ⟨5, 0, s, s.length⟩)
          have hN := HSGN.out
          rw [hf] at hN
          have HN := Lib.hid hN
          have HRR := Lib.hid (show R = _ by rw [← hR.out, HTK.out, hd, if_neg (by simp), if_neg h34, hl, if_neg (by simp), hf])
          rw [hl] at HL
          clear hd hf hN hl h34
          go_wp2_with (first
            | (go_at_call 259
               refine (HD.out _).mono ?_
               rintro e w' ⟨he, hw⟩
               subst hw
               subst he)
            | (go_at_call 262
               refine (HL.out _).mono ?_
               rintro e w' ⟨he, hw⟩
               subst hw
               subst he)
            | (go_at_call 264
               refine HN.out.mono ?_
               rintro e w1 ⟨he, hb⟩
               subst he
               have HB1 := Lib.hid hb
               have HV1 := Lib.hid (heap_below HVQ.out hb)
               clear hb
               obtain ⟨y0, y1, y2, y3, y4, y5, z0, z1, z2, z3, z4, z5⟩ := box6 HV1.out)
            | (fail))
          refine ret_first HV1.out (HBV.out.trans (HB1.out.mono HBV.out.size)) HGG.out rfl rfl rfl ?_
          exact HRR.out
end Go.Proofs.YteacmanbiamhoaaGreatDoor
