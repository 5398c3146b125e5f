/- Package words: texts: the walk. -/
import Derived.Test.YtpakjjefbholdaaGreatDoorWg
import Derived.Lib.AppendStr
namespace Go.Proofs.YtpakjjefbholdaaGreatDoor
open Go.RowKit
set_option linter.unusedVariables false

theorem strCells_strOf (l : List Nat) (h8 : ∀ x ∈ l, x < 256) : Lib.strCells (strOf l) = bv l := by
  show ((l.map UInt8.ofNat).toArray.toList).map _ = _
  rw [List.toList_toArray, List.map_map]
  refine List.map_congr_left fun x hx => ?_
  have := h8 x hx
  simp [UInt8.toNat_ofNat', Nat.mod_eq_of_lt this]
/-- append of a string onto a slice of bytes of the call's own. -/
theorem wpList_apps {w : World} {ops : Array Oper} {rest : List Oper} {o : Oper} {a : Act} {Q : Exit → Act → World → Prop} (hgd : o.guard = none) (s x : Operand)
    (ho : o.op = .call { callee := .builtin .append, args := #[s, x], argTypes := #[66, 9] })
    {base : Nat} {v : Value} {l : List Nat} (hs : a.eval s = v) (hown : Own w base v l) {news : List Nat} (h8 : ∀ x ∈ news, x < 256) (hx : a.eval x = .string (strOf news))
    (hn : l.length + news.length ≤ 8796093022208) (hbase : base ≤ w.heap.size)
    (h : ∀ v' w', Own w' base v' (l ++ news) → Below base w w' → wpList Tryz.prog ops Q rest (a.put o.dst v') w') :
    wpList Tryz.prog ops Q (o :: rest) a w := by
  obtain ⟨i0, hi0, hz0, hz1, hz2⟩ := info_parts u8_info
  have e := strOf_size news
  refine Lib.wpList_append_own_string w hgd s x 66 9 ho base 5 i0 Tryz.underlying66 Tryz.underlying9 hi0 (by simpa using hz0) hz1 hz2 v l.length (bv l) hs hown (strOf news) hx (by unfold maxLen; omega) (by omega) hbase ?_
  intro v' w' h1 h2 h3
  refine h v' w' ?_ ((Below.refl _ _).grown h2 hbase (fun k hk => (World.ownsRow.lt hown k hk).1))
  unfold Own
  rw [List.length_append, bv_append, ← e, ← strCells_strOf news h8]
  exact h1
theorem size_alloc (w : World) (o : Obj) : w.heap.size ≤ (w.alloc o).heap.size := by simp
theorem say_run : ∀ R : List Nat, say R = (say (R.drop (R.takeWhile pln).length)).map fun p => (R.takeWhile pln ++ p.1, p.2 + (R.takeWhile pln).length)
  | [] => by simp [say_nil]
  | x :: r => by
    by_cases hx : pln x = true
    · have h34 : x ≠ 34 := by rintro rfl; simp [pln] at hx
      rw [say_cons, if_neg h34, if_pos hx, say_run r, Option.map_map]
      simp only [List.takeWhile_cons, hx, if_true, List.length_cons, List.drop_succ_cons]
      congr 1
    · simp [hx]
theorem ret_quoted {w X : World} {g : Nat} {y0 y1 y2 y3 y4 y5 z0 z1 z2 z3 z4 z5 : Value} {b : Bool} {V : Value} {a : Act} (q : X.heap[g]? = some (.cells #[y0, y1, y2, y3, y4, y5] 76 (0, 0))) (hb : Below w.heap.size w X) (hg : w.heap.size ≤ g) (h2 : a.tmps[2]?.getD undef = .pointer (some ⟨g, 0, none⟩)) (h3 : a.tmps[3]?.getD undef = .bool b) (hd : a.defers = []) (hV : V = .tuple #[.agg #[z0, z1, z2, z3, z4, z5], .bool b]) :
    bodyPost Tryz.prog Tryz.f192 (fun e w' => e = .returned V ∧ Below w.heap.size w w') Exit.ret a ((((((X.setCell ⟨g, 0, none⟩ z0).setCell ⟨g, 1, none⟩ z1).setCell ⟨g, 2, none⟩ z2).setCell ⟨g, 3, none⟩ z3).setCell ⟨g, 4, none⟩ z4).setCell ⟨g, 5, none⟩ z5) := by
  have p := set6 q z0 z1 z2 z3 z4 z5
  have c0 := cell_block p 0
  have c1 := cell_block p 1
  have c2 := cell_block p 2
  have c3 := cell_block p 3
  have c4 := cell_block p 4
  have c5 := cell_block p 5
  subst hV
  exact bodyPost_ret (v := .tuple #[.agg #[z0, z1, z2, z3, z4, z5], .bool b]) (by simp [results, Tryz.results192, go_sem, h2, h3, c0, c1, c2, c3, c4, c5]) hd ⟨rfl, bel6 hb hg _ _ _ _ _ _⟩
theorem hasPrefix_any (T s : List Nat) (L : ByteArray) (hL : L = strOf s) (h8 : ∀ x ∈ T, x < 256) (hs : ∀ x ∈ s, x < 256) (w : World) : Calls Tryz.prog 62 #[.string (strOf T), .string L] w fun e w' => e = .returned (.bool (s.isPrefixOf T)) ∧ w' = w := by
  subst hL
  refine (Tryz.strings_HasPrefix (strOf T) (strOf s) w).mono ?_
  rintro e w' ⟨rfl, rfl⟩
  refine ⟨?_, rfl⟩
  show Ending.returned (Value.bool ((strOf s).data.toList.isPrefixOf (strOf T).data.toList)) = _
  rw [strOf_data, strOf_data, pfx_map s T hs h8]
theorem run_own_str (l : List Nat) (w : World) (base : Nat) (v : Value) (h : Own w base v l) (h8 : ∀ x ∈ l, x < 256) : (convert 66 9 v).run Tryz.prog w = .ok (.string (strOf l)) w := by
  obtain ⟨A, c, rfl, _, _, ha, _, _⟩ := h.form
  exact run_strOf w _ A c l ha h8
set_option maxRecDepth 100000 in
set_option maxHeartbeats 4000000 in
theorem quoted_any (T : List Nat) (h8 : ∀ x ∈ T, x < 256) (hn : T.length ≤ 1099511627776) (w : World) : Calls Tryz.prog 192 #[.string (strOf (34 :: T))] w fun e w' => e = .returned (tokV ((say T).map fun p => ⟨2, 0, p.1, p.2 + 1⟩)) ∧ Below w.heap.size w w' := by
  obtain ⟨R, hR⟩ : ∃ R, Hid (tokV ((say T).map fun p => ⟨2, 0, p.1, p.2 + 1⟩) = R) := ⟨_, Lib.hid rfl⟩
  rw [hR.out]
  have HX := Lib.hid (fun a b => strOf_extract (34 :: T) a b)
  have hS : (strOf (34 :: T)).size = T.length + 1 := strOf_size _
  generalize strOf (34 :: T) = S at *
  obtain ⟨V, hV⟩ : ∃ V, V = w.alloc (.cells #[.int .u8 0, .string ⟨#[]⟩, .int .i64 0, .int .i64 0, .int .i64 0, .int .i64 0] 76) := ⟨_, rfl⟩
  have HBV : Hid (Below w.heap.size w V) := Lib.hid (by rw [hV]; exact (Below.refl w.heap.size w).alloc (Nat.le_refl _) _)
  have HVQ : Hid (V.heap[w.heap.size]? = some (.cells #[.int .u8 0, .string ⟨#[]⟩, .int .i64 0, .int .i64 0, .int .i64 0, .int .i64 0] 76 (0, 0))) := Lib.hid (by rw [hV]; exact heap_new w _)
  go_enter Tryz.func192, Tryz.ntmps192
  go_upto_region 1 with fail
  rw [← hV]
  obtain ⟨g, hg⟩ : ∃ g, g = w.heap.size := ⟨_, rfl⟩
  rw [← hg] at HVQ ⊢
  have HGG : Hid (w.heap.size ≤ g) := Lib.hid (by omega)
  clear hV hg
  obtain ⟨U, hU⟩ : ∃ U, Hid (34 :: T = U) := ⟨_, Lib.hid rfl⟩
  have hUl : U.length = T.length + 1 := by rw [← hU.out]; rfl
  have HU8 : Hid (∀ x ∈ U, x < 256) := Lib.hid (by rw [← hU.out]; intro x hx; rcases List.mem_cons.1 hx with rfl | hx; omega; exact h8 x hx)
  rw [hU.out] at HX
  have hSU : S.size = U.length := by omega
  clear hS
  go_wp2_with fail
  go_loopw [4, 5] (fun v i wr => ∃ (l : List Nat) (at_ : Nat), 1 ≤ at_ ∧ at_ ≤ U.length ∧ i = .int .i64 (at_ : Int) ∧ Hid (Own wr V.heap.size v l ∧ l.length ≤ at_ ∧ (∀ x ∈ l, x < 256) ∧ Below V.heap.size V wr ∧ say T = (say (U.drop at_)).map fun p => (l ++ p.1, p.2 + (at_ - 1)))) (fun _ i _ => U.length - (intOf i).toNat)
  case atStart => exact ⟨[], 1, by omega, by omega, rfl, Lib.hid ⟨Own.nil _ _, by simp, by simp, Below.refl _ _, by rw [← hU.out]; simp⟩⟩
  case round =>
    obtain ⟨l, at_, h1, h2, rfl, HJ⟩ := hrel
    obtain ⟨D, hD⟩ : ∃ D, Hid (U.drop at_ = D) := ⟨_, Lib.hid rfl⟩
    have hDl : D.length = U.length - at_ := by rw [← hD.out, List.length_drop]
    have HD8 : Hid (∀ x ∈ D, x < 256) := Lib.hid (fun x hx => HU8.out x (by rw [← hD.out] at hx; exact List.mem_of_mem_drop hx))
    have e1 : S.extract at_ U.length = strOf D := by rw [HX.out, List.take_length, hD.out]
    have HR := Lib.hid (fun w => run_pln (T := D) HD8.out (by omega) w)
    obtain ⟨k, hk⟩ : ∃ k, Hid ((D.takeWhile pln).length = k) := ⟨_, Lib.hid rfl⟩
    have HK := hk
    have hkl : k ≤ D.length := by rw [← hk.out]; exact tw_len D
    obtain ⟨m, hm⟩ : ∃ m : Nat, m = at_ + k := ⟨_, rfl⟩
    have e2 : S.extract at_ m = strOf (D.takeWhile pln) := by
      rw [HX.out, hm, List.drop_take, hD.out, Nat.add_sub_cancel_left, ← hk.out, tw_eq]
    have e3 : S.extract m U.length = strOf (D.drop k) := by
      rw [HX.out, List.take_length, hm, ← List.drop_drop, hD.out]
    have hmi : (at_ : Int) + (k : Int) = ((m : Nat) : Int) := by omega
    have hml : m ≤ U.length := by omega
    rw [hk.out] at HR
    have HM := Lib.hid hm
    have HUL := Lib.hid hUl
    have HDL := Lib.hid hDl
    have HKL := Lib.hid hkl
    rw [← hSU] at e1 e3
    have hmS : m ≤ S.size := by omega
    have haS : at_ ≤ S.size := by omega
    have HSU := Lib.hid hSU
    have HWM := Lib.hid (show wrap64 (m : Int) = (m : Int) from IntWalk.wrap64_in _ (by omega))
    have ham : at_ ≤ m := by omega
    have hSb : S.size ≤ 1099511627777 := by omega
    clear hm hUl hDl hkl hSU
    have HL8 : Hid (∀ x ∈ l ++ D.takeWhile pln, x < 256) := Lib.hid (fun x hx => by
      rcases List.mem_append.1 hx with hx | hx
      · exact HJ.out.2.2.1 x hx
      · exact HD8.out x ((List.takeWhile_sublist _).subset hx))
    have HL2 : Hid ((l ++ D.takeWhile pln).length ≤ m ∧ m ≤ 1099511627777) := Lib.hid (by rw [List.length_append]; have := HJ.out.2.1; have := HK.out; have := HUL.out; have := HM.out; have := HKL.out; have := HDL.out; omega)
    have HSAY : Hid (say T = (say (D.drop k)).map fun p => ((l ++ D.takeWhile pln) ++ p.1, p.2 + (m - 1))) := Lib.hid (by
      rw [HJ.out.2.2.2.2, hD.out, say_run D, hk.out, Option.map_map]
      congr 1
      funext p
      simp only [Function.comp, List.append_assoc]
      congr 1
      have := HM.out
      omega)
    have hd8 : ∀ x ∈ D.drop k, x < 256 := fun x hx => HD8.out x (List.mem_of_mem_drop hx)
    have HPX := Lib.hid (fun w => hasPrefix_any (D.drop k) [34] ⟨#[34]⟩ rfl hd8 (by decide) w)
    have HE := Lib.hid (fun w => escaped_any (D.drop k) hd8 (by rw [List.length_drop]; have := HDL.out; have := HUL.out; omega) w)
    have HST : Hid (∀ (h : k < D.length), pln D[k] = false) := Lib.hid (fun h => by
      have h2 : ∀ i (hi : i < D.length), i = k → pln D[i] = pln D[k] := fun i hi e => by subst e; rfl
      rw [← h2 _ (by rw [hk.out]; exact h) hk.out]
      exact tw_stop D (by rw [hk.out]; exact h))
    have HDL2 : Hid (m + (D.drop k).length = U.length) := Lib.hid (by rw [List.length_drop]; have := HDL.out; have := HM.out; have := HKL.out; omega)
    have HDD : Hid (U.drop m = D.drop k) := Lib.hid (by rw [← hD.out, List.drop_drop, HM.out])
    have HAP : Hid (l.length + (D.takeWhile pln).length ≤ 8796093022208) := Lib.hid (by have := HL2.out; rw [List.length_append] at this; omega)
    have HAQ : Hid ((l ++ D.takeWhile pln).length + 1 ≤ 8796093022208) := Lib.hid (by have := HL2.out; omega)
    clear hd8
    cases hq : D.drop k with
    | nil =>
      as_aux_lemma =>
      rw [hq] at e3 HPX HE HSAY
      rw [show esc [] = none from rfl] at HE
      unfold escV at HE
      have HQ := Lib.hid hq
      clear hq
      go_wp2_with (first
        | (go_at_call 187
           refine (HR.out _).mono ?_
           rintro e w' ⟨he, hw⟩
           subst hw
           subst he)
        | (at_builtin
           refine wpList_apps rfl (.tmp 13) (.tmp 19) rfl rfl HJ.out.1 (fun x hx => HD8.out x ((List.takeWhile_sublist _).subset hx)) rfl HAP.out HJ.out.2.2.2.1.size ?_
           intro v2 w2 ho2 hb2
           have HO2 := Lib.hid ho2
           have HB2 := Lib.hid (HJ.out.2.2.2.1.trans hb2)
           have HV2 := Lib.hid (heap_below HVQ.out HB2.out)
           have y0 := cell_block HV2.out 0
           have z0 := free_block HV2.out 0
           have y1 := cell_block HV2.out 1
           have z1 := free_block HV2.out 1
           have y2 := cell_block HV2.out 2
           have z2 := free_block HV2.out 2
           have y3 := cell_block HV2.out 3
           have z3 := free_block HV2.out 3
           have y4 := cell_block HV2.out 4
           have z4 := free_block HV2.out 4
           have y5 := cell_block HV2.out 5
           have z5 := free_block HV2.out 5
           have hcv := run_own_str _ w2 V.heap.size v2 ho2 HL8.out
           obtain ⟨A2, c2, hv2, -⟩ := ho2.form
           have HVV := Lib.hid hv2
           clear ho2 hb2 hv2)
        | (go_at_call 62
           refine (HPX.out _).mono ?_
           rintro e w' ⟨he, hw⟩
           subst hw
           subst he)
        | (go_at_call 213
           refine (HE.out _).mono ?_
           rintro e w' ⟨he, hw⟩
           subst hw
           subst he)
        | (fail))
      refine ret_quoted HV2.out (HBV.out.trans (HB2.out.mono HBV.out.size)) HGG.out rfl rfl rfl ?_
      rw [← hR.out, HSAY.out]
      simp [say_nil, tokV]
    | cons x r =>
      have hxp : pln x = false := by
        have hkD : k < D.length := by
          have := congrArg List.length hq
          rw [List.length_drop, List.length_cons] at this
          omega
        have := HST.out hkD
        rw [List.drop_eq_getElem_cons hkD] at hq
        rw [← (List.cons.inj hq).1]
        exact this
      by_cases h34 : x = 34
      · as_aux_lemma =>
        subst h34
        rw [hq] at e3 HPX HE HSAY
        rw [show List.isPrefixOf [34] (34 :: r) = true by simp] at HPX
        have HQ := Lib.hid hq
        clear hq hxp
        go_wp2_with (first
          | (go_at_call 187
             refine (HR.out _).mono ?_
             rintro e w' ⟨he, hw⟩
             subst hw
             subst he)
          | (at_builtin
             refine wpList_apps rfl (.tmp 13) (.tmp 19) rfl rfl HJ.out.1 (fun x hx => HD8.out x ((List.takeWhile_sublist _).subset hx)) rfl HAP.out HJ.out.2.2.2.1.size ?_
             intro v2 w2 ho2 hb2
             have HO2 := Lib.hid ho2
             have HB2 := Lib.hid (HJ.out.2.2.2.1.trans hb2)
             have HV2 := Lib.hid (heap_below HVQ.out HB2.out)
             have y0 := cell_block HV2.out 0
             have z0 := free_block HV2.out 0
             have y1 := cell_block HV2.out 1
             have z1 := free_block HV2.out 1
             have y2 := cell_block HV2.out 2
             have z2 := free_block HV2.out 2
             have y3 := cell_block HV2.out 3
             have z3 := free_block HV2.out 3
             have y4 := cell_block HV2.out 4
             have z4 := free_block HV2.out 4
             have y5 := cell_block HV2.out 5
             have z5 := free_block HV2.out 5
             have hcv := run_own_str _ w2 V.heap.size v2 ho2 HL8.out
             obtain ⟨A2, c2, hv2, -⟩ := ho2.form
             have HVV := Lib.hid hv2
             clear ho2 hb2 hv2)
          | (go_at_call 62
             refine (HPX.out _).mono ?_
             rintro e w' ⟨he, hw⟩
             subst hw
             subst he)
          | (go_at_call 213
             refine (HE.out _).mono ?_
             rintro e w' ⟨he, hw⟩
             subst hw
             subst he)
          | (fail))
        refine ret_quoted HV2.out (HBV.out.trans (HB2.out.mono HBV.out.size)) HGG.out rfl rfl rfl ?_
        rw [← hR.out, HSAY.out, say_cons, if_pos rfl]
        have hm1 : 1 ≤ m := by have := HM.out; omega
        have hm2 := HL2.out.2
        simp only [Option.map_some, tokV, List.append_nil]
        rw [show ((1 + (m - 1) + 1 : Nat) : Int) = (m : Int) + 1 by omega]
        rfl
      · rw [hq] at e3 HPX HE HSAY
        have hp0 : List.isPrefixOf [34] (x :: r) = false := by simp [List.isPrefixOf]; omega
        rw [hp0] at HPX
        have HXP := Lib.hid hxp
        have HQ := Lib.hid hq
        have HS2 : Hid (say (x :: r) = (esc (x :: r)).bind fun q => (say ((x :: r).drop q.2)).map fun p => (q.1 :: p.1, p.2 + q.2)) := Lib.hid (by rw [say_cons, if_neg h34, hxp]; rfl)
        clear hq hxp hp0
        cases he : esc (x :: r) with
        | none =>
          as_aux_lemma =>
          rw [he] at HE HS2
          unfold escV at HE
          clear he
          go_wp2_with (first
            | (go_at_call 187
               refine (HR.out _).mono ?_
               rintro e w' ⟨he, hw⟩
               subst hw
               subst he)
            | (at_builtin
               refine wpList_apps rfl (.tmp 13) (.tmp 19) rfl rfl HJ.out.1 (fun x hx => HD8.out x ((List.takeWhile_sublist _).subset hx)) rfl HAP.out HJ.out.2.2.2.1.size ?_
               intro v2 w2 ho2 hb2
               have HO2 := Lib.hid ho2
               have HB2 := Lib.hid (HJ.out.2.2.2.1.trans hb2)
               have HV2 := Lib.hid (heap_below HVQ.out HB2.out)
               have y0 := cell_block HV2.out 0
               have z0 := free_block HV2.out 0
               have y1 := cell_block HV2.out 1
               have z1 := free_block HV2.out 1
               have y2 := cell_block HV2.out 2
               have z2 := free_block HV2.out 2
               have y3 := cell_block HV2.out 3
               have z3 := free_block HV2.out 3
               have y4 := cell_block HV2.out 4
               have z4 := free_block HV2.out 4
               have y5 := cell_block HV2.out 5
               have z5 := free_block HV2.out 5
               have hcv := run_own_str _ w2 V.heap.size v2 ho2 HL8.out
               obtain ⟨A2, c2, hv2, -⟩ := ho2.form
               have HVV := Lib.hid hv2
               clear ho2 hb2 hv2)
            | (go_at_call 62
               refine (HPX.out _).mono ?_
               rintro e w' ⟨he, hw⟩
               subst hw
               subst he)
            | (go_at_call 213
               refine (HE.out _).mono ?_
               rintro e w' ⟨he, hw⟩
               subst hw
               subst he)
            | (fail))
          refine ret_quoted HV2.out (HBV.out.trans (HB2.out.mono HBV.out.size)) HGG.out rfl rfl rfl ?_
          rw [← hR.out, HSAY.out, HS2.out]
          rfl
        | some q =>
          as_aux_lemma =>
          obtain ⟨yb, nb⟩ := q
          have hpos := esc_pos he
          have hyb : yb < 256 := (esc_take he).2.2
          rw [he] at HE HS2
          have HPOS := Lib.hid hpos
          have d0 : ((nb : Int) == 0) = false := beq_eq_false_iff_ne.2 (by omega)
          clear he hpos
          have HREL2 : Hid (((l ++ D.takeWhile pln) ++ [yb]).length ≤ m + nb ∧ (∀ y ∈ (l ++ D.takeWhile pln) ++ [yb], y < 256) ∧ say T = (say (U.drop (m + nb))).map fun p => (((l ++ D.takeWhile pln) ++ [yb]) ++ p.1, p.2 + (m + nb - 1))) := Lib.hid (by
            refine ⟨?_, ?_, ?_⟩
            · rw [List.length_append, List.length_singleton]
              have := HL2.out.1
              have := HPOS.out.1
              omega
            · intro y hy
              rcases List.mem_append.1 hy with hy | hy
              · exact HL8.out y hy
              · rw [List.mem_singleton.1 hy]; exact hyb
            · rw [HSAY.out, HS2.out]
              show Option.map _ (Option.map _ (say (List.drop nb (x :: r)))) = _
              rw [Option.map_map, ← List.drop_drop, HDD.out, HQ.out]
              congr 1
              funext p
              simp only [Function.comp, List.append_assoc]
              congr 1
              have := HM.out
              show p.2 + nb + (m - 1) = p.2 + (m + nb - 1)
              omega)
          have hnbS : m + nb ≤ S.size := by
            have hnl : nb ≤ (x :: r).length := HPOS.out.2
            have hml2 : m + (x :: r).length = U.length := by have := HDL2.out; rw [HQ.out] at this; exact this
            have := HSU.out
            omega
          have HN : Hid (1 ≤ m + nb ∧ m + nb ≤ U.length ∧ U.length - (m + nb) < U.length - at_ ∧ wrap64 ((m : Int) + (nb : Int)) = ((m + nb : Nat) : Int)) := Lib.hid (by
            have hnl : nb ≤ (x :: r).length := HPOS.out.2
            have hp2 := HPOS.out.1
            have hml2 : m + (x :: r).length = U.length := by have := HDL2.out; rw [HQ.out] at this; exact this
            have hUb : U.length ≤ 1099511627777 := by have := HUL.out; omega
            refine ⟨by omega, by omega, by omega, (IntWalk.wrap64_in _ (by omega)).trans (Int.natCast_add m nb).symm⟩)
          unfold escV at HE
          go_wp2_with (first
            | (go_at_call 187
               refine (HR.out _).mono ?_
               rintro e w' ⟨he, hw⟩
               subst hw
               subst he)
            | (at_builtin
               refine wpList_apps rfl (.tmp 13) (.tmp 19) rfl rfl HJ.out.1 (fun x hx => HD8.out x ((List.takeWhile_sublist _).subset hx)) rfl HAP.out HJ.out.2.2.2.1.size ?_
               intro v2 w2 ho2 hb2
               have HO2 := Lib.hid ho2
               have HB2 := Lib.hid (HJ.out.2.2.2.1.trans hb2)
               have HV2 := Lib.hid (heap_below HVQ.out HB2.out)
               have y0 := cell_block HV2.out 0
               have z0 := free_block HV2.out 0
               have y1 := cell_block HV2.out 1
               have z1 := free_block HV2.out 1
               have y2 := cell_block HV2.out 2
               have z2 := free_block HV2.out 2
               have y3 := cell_block HV2.out 3
               have z3 := free_block HV2.out 3
               have y4 := cell_block HV2.out 4
               have z4 := free_block HV2.out 4
               have y5 := cell_block HV2.out 5
               have z5 := free_block HV2.out 5
               have hcv := run_own_str _ w2 V.heap.size v2 ho2 HL8.out
               obtain ⟨A2, c2, hv2, -⟩ := ho2.form
               have HVV := Lib.hid hv2
               clear ho2 hb2 hv2)
            | (go_at_call 62
               refine (HPX.out _).mono ?_
               rintro e w' ⟨he, hw⟩
               subst hw
               subst he)
            | (go_at_call 213
               refine (HE.out _).mono ?_
               rintro e w' ⟨he, hw⟩
               subst hw
               subst he)
            | (at_builtin
               refine wpList_app rfl (.tmp 43) (.tmp 45) rfl rfl (HO2.out.alloc _) rfl (At.one _ _ _ yb rfl) rfl HAQ.out (Nat.le_trans HB2.out.size (size_alloc _ _)) ?_
               intro v3 w3 ho3 hb3 _ _
               have HO3 := Lib.hid ho3
               have HB3 := Lib.hid ((HB2.out.alloc HB2.out.size (.cells #[.int .u8 (yb : Int)] 5)).trans hb3)
               clear ho3 hb3)
            | (fail))
          go_roundw
          case rel => exact ⟨(l ++ D.takeWhile pln) ++ [yb], m + nb, HN.out.1, HN.out.2.1, congrArg (Value.int .i64) (Int.natCast_add m nb).symm, Lib.hid ⟨HO3.out, HREL2.out.1, HREL2.out.2.1, HB3.out, HREL2.out.2.2⟩⟩
          case measure =>
            simp only [intOf]
            rw [← Int.natCast_add, Int.toNat_natCast, Int.toNat_natCast]
            exact HN.out.2.2.1
end Go.Proofs.YtpakjjefbholdaaGreatDoor
