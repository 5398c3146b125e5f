/- drover/value.quote: the walk. -/
import Derived.Test.YtfobmlicmbelnaaDoorVc
import Derived.Test.YtfobmlicmbelnaaDoorOwn2
import Derived.Test.YtfobmlicmbelnaaDoorLow
import Derived.Test.YtfobmlicmbelnaaDoorPut1
import Derived.Deep.RegionLaw
namespace Go.Proofs.YtfobmlicmbelnaaDoor
open Go.RowKit

theorem own_new (w : World) (l : List Nat) (n g : Nat) (arr : Array Value) (hn : l.length = n) (ha : arr.toList = bv l) (hs : arr.size = n) (hg : g = w.heap.size) (hm : l.length ≤ maxLen := by decide) : Own (w.alloc (.cells arr 5)) w.heap.size (.slice (some ⟨g, 0, none⟩) n n) l := by
  subst hg
  subst hn
  refine ⟨by simp [bv], .inr ⟨w.heap.size, l.length, arr, rfl, Nat.le_refl _, heap_alloc_new w _, Nat.le_refl _, hm, by omega, ?_⟩⟩
  rw [ha, Nat.mul_one]
  exact List.take_of_length_le (by simp [bv])
theorem At.three (w : World) (a b c : Int) (t : TypeId) (x y z g : Nat) (ha : a = (x : Int)) (hb : b = (y : Int)) (hc : c = (z : Int)) (hg : g = w.heap.size) : At (w.alloc (.cells #[.int .u8 a, .int .u8 b, .int .u8 c] t)) (w.heap.size + 1) (some ⟨g, 0, none⟩) (bv [x, y, z]) := by
  subst ha hb hc hg
  exact At.made w #[.int .u8 (x : Int), .int .u8 (y : Int), .int .u8 (z : Int)] t
theorem run_own_str (l : List Nat) (w : World) (base : Nat) (v : Value) (h : Own w base v l) (h8 : ∀ x ∈ l, x < 256) : (convert 32 9 v).run Tryd.prog w = .ok (.string (strOf l)) w := by
  obtain ⟨A, c, rfl, _, _, ha, _, _⟩ := h.form
  exact run_strOf w _ A c l ha h8
theorem hexAt : ∀ d (h : d < 16), ((ByteArray.mk #[48, 49, 50, 51, 52, 53, 54, 55, 56, 57, 97, 98, 99, 100, 101, 102])[d]'h).toNat = hx d := by decide
theorem and15 (x : Nat) (h : x < 256) : bits BinOp.and IntKind.u8 (x : Int) 15 = ((x % 16 : Nat) : Int) := by
  have := u8_and_nat x 15 h (by omega)
  rw [show x &&& 15 = x % 16 from Nat.and_two_pow_sub_one_eq_mod x 4] at this
  exact this
set_option maxRecDepth 100000 in
set_option maxHeartbeats 1600000 in
theorem quote_any (s : List Nat) (w : World) (h8 : ∀ x ∈ s, x < 256) (hn : s.length ≤ 4096) :
    Calls Tryd.prog 47 #[.string (strOf s)] w fun e w' => e = .returned (.string (strOf (quo s))) ∧ Below w.heap.size w w' := by
  have hz := strOf_size s
  have HG := Lib.hid (fun (j : Nat) (hj : j < s.length) (hj' : j < (strOf s).size) => (show ((strOf s)[j]'hj').toNat = s[j] by
    have e : (strOf s)[j]'hj' = UInt8.ofNat s[j] := by
      have h1 : (strOf s).data[j]? = some (UInt8.ofNat s[j]) := by simp [strOf, hj]
      have h2 : (strOf s).data[j]? = some ((strOf s)[j]'hj') := Array.getElem?_eq_getElem hj'
      rw [h1] at h2
      exact (Option.some.inj h2).symm
    rw [e, UInt8.toNat_ofNat', Nat.mod_eq_of_lt (h8 _ (List.getElem_mem hj))]))
  have HQ := Lib.hid (quo_bytes s h8)
  have HL := Lib.hid (quo_len s)
  have H8 := Lib.hid h8
  clear h8
  generalize strOf s = S at *
  have HZ := Lib.hid hz
  have hz' : S.size ≤ 4096 := by omega
  clear hz
  go_enter Tryd.func47, Tryd.ntmps47
  go_wp2_with fail
  go_loopw [3, 9] (fun v i wr => ∃ j : Nat, j ≤ S.size ∧ i = .int .i64 (j : Int) ∧ Own wr w.heap.size v (34 :: (s.take j).flatMap qb) ∧ Below w.heap.size w wr) (fun _ i _ => S.size - (intOf i).toNat)
  case atStart => exact ⟨0, Nat.zero_le _, rfl, own_new w [34] 1 _ _ rfl (by simp [bv]) rfl rfl, (Below.refl _ _).alloc (Nat.le_refl _) _⟩
  case round =>
    obtain ⟨j, hj, rfl, hv, hbw⟩ := hrel
    by_cases hlt : j < S.size
    · have hjs : j < s.length := by have := HZ.out; omega
      have hxj := HG.out j hjs hlt
      have hx8 := H8.out s[j] (List.getElem_mem hjs)
      have HT : Hid (34 :: (s.take (j + 1)).flatMap qb = (34 :: (s.take j).flatMap qb) ++ qb s[j]) := by
        show _ = _
        rw [List.take_succ_eq_append_getElem hjs, List.flatMap_append, List.flatMap_singleton]
        rfl
      have hll : (34 :: (s.take j).flatMap qb).length ≤ 20000 := by
        have := flat_len (s.take j)
        simp at this ⊢
        omega
      generalize s[j] = x at *
      by_cases hp : 32 ≤ x ∧ x ≤ 126 ∧ x ≠ 34 ∧ x ≠ 92
      · have HQX : Hid (qb x = [x]) := by show _ = _; rw [qb, if_pos hp]
        have g1 : decide ((32 : Int) ≤ (x : Int)) = true := by simp; omega
        have g2 : decide ((x : Int) ≤ 126) = true := by simp; omega
        have g3 : ((x : Int) == 34) = false := beq_eq_false_iff_ne.2 (by omega)
        have g4 : ((x : Int) == 92) = false := beq_eq_false_iff_ne.2 (by omega)
        have g5 : ((x : Int) != 34) = true := by simp; omega
        have g6 : ((x : Int) != 92) = true := by simp; omega
        clear hp
        go_wp2_with (at_builtin
                     refine wpList_app rfl (.tmp 29) (.tmp 31) rfl rfl (hv.alloc _) rfl (At.one' _ _ _ x _ rfl rfl) rfl (by omega) (by have := hbw.size; simp; omega) ?_
                     intro v2 w2 hown2 hb2 _ _)
        rw [← HQX.out, ← HT.out] at hown2
        have hb3 : Below w.heap.size w w2 := (hbw.alloc hbw.size _).trans hb2
        go_roundw
        case rel => exact ⟨j + 1, by omega, by go_num, hown2, hb3⟩
        case measure => simp [intOf]; omega
      · have HQX : Hid (qb x = [92, hx (x / 16), hx (x % 16)]) := by show _ = _; rw [qb, if_neg hp]
        have hcase : (decide ((32 : Int) ≤ (x : Int)) = false) ∨ (decide ((32 : Int) ≤ (x : Int)) = true ∧ decide ((x : Int) ≤ 126) = false) ∨ (x = 34) ∨ (x = 92) := by
          by_cases a : 32 ≤ x
          · by_cases b : x ≤ 126
            · by_cases c : x = 34
              · exact .inr (.inr (.inl c))
              · refine .inr (.inr (.inr ?_))
                by_cases d : x = 92
                · exact d
                · exact absurd ⟨a, b, c, d⟩ hp
            · exact .inr (.inl ⟨by simp; omega, by simp; omega⟩)
          · exact .inl (by simp; omega)
        clear hp
        have e1 : (x : Int) / 16 = ((x / 16 : Nat) : Int) := by omega
        have e2 := and15 x hx8
        have d1 : ((x / 16 : Nat) : Int) < 16 := by omega
        have d2 : (0 : Int) ≤ ((x / 16 : Nat) : Int) := by omega
        have m1 : ((x % 16 : Nat) : Int) < 16 := by omega
        have m2 : (0 : Int) ≤ ((x % 16 : Nat) : Int) := by omega
        generalize x / 16 = d at *
        generalize x % 16 = m at *
        have fin : ∀ w2 v2, Own w2 w.heap.size v2 ((34 :: (s.take j).flatMap qb) ++ [92, hx d, hx m]) → Own w2 w.heap.size v2 (34 :: (s.take (j + 1)).flatMap qb) := by
          intro w2 v2 h
          rw [← HQX.out, ← HT.out] at h
          exact h
        rcases hcase with g1 | ⟨g1, g2⟩ | g1 | g1
        · go_wp2_with fail
          go_region_law
            (first
              | (refine step_app2 rfl (.tmp 33) (.tmp 40) rfl rfl (hv.alloc _) rfl (At.three _ _ _ _ _ 92 (hx d) (hx m) _ rfl (congrArg _ (hexAt d _)) (congrArg _ (hexAt m _)) rfl) rfl (by omega) (by have := hbw.size; simp; omega) ?_
                 intro v3 w3 hown3 hb3 _))
          all_goals
            have ho := fin _ _ hown3
            have hb4 : Below w.heap.size w w3 := by first | exact (hbw.alloc hbw.size _).trans hb3 | exact (hbw.drew.alloc (by simpa using hbw.size) _).trans hb3 | exact ((hbw.alloc hbw.size _).drew).trans hb3
            clear hown3 hb3
            go_wp2_with fail
            go_roundw
            case rel => exact ⟨j + 1, by omega, by go_num, ho, hb4⟩
            case measure => simp [intOf]; omega
        · go_wp2_with fail
          go_region_law
            (first
              | (refine step_app2 rfl (.tmp 33) (.tmp 40) rfl rfl (hv.alloc _) rfl (At.three _ _ _ _ _ 92 (hx d) (hx m) _ rfl (congrArg _ (hexAt d _)) (congrArg _ (hexAt m _)) rfl) rfl (by omega) (by have := hbw.size; simp; omega) ?_
                 intro v3 w3 hown3 hb3 _))
          all_goals
            have ho := fin _ _ hown3
            have hb4 : Below w.heap.size w w3 := by first | exact (hbw.alloc hbw.size _).trans hb3 | exact (hbw.drew.alloc (by simpa using hbw.size) _).trans hb3 | exact ((hbw.alloc hbw.size _).drew).trans hb3
            clear hown3 hb3
            go_wp2_with fail
            go_roundw
            case rel => exact ⟨j + 1, by omega, by go_num, ho, hb4⟩
            case measure => simp [intOf]; omega
        · have g2 : decide ((32 : Int) ≤ (x : Int)) = true := by simp; omega
          have g3 : decide ((x : Int) ≤ 126) = true := by simp; omega
          have g4 : ((x : Int) == 34) = true := by simp; omega
          have g5 : ((x : Int) != 34) = false := by simp; omega
          clear g1
          go_wp2_with fail
          go_region_law
            (first
              | (refine step_app2 rfl (.tmp 33) (.tmp 40) rfl rfl (hv.alloc _) rfl (At.three _ _ _ _ _ 92 (hx d) (hx m) _ rfl (congrArg _ (hexAt d _)) (congrArg _ (hexAt m _)) rfl) rfl (by omega) (by have := hbw.size; simp; omega) ?_
                 intro v3 w3 hown3 hb3 _))
          all_goals
            have ho := fin _ _ hown3
            have hb4 : Below w.heap.size w w3 := by first | exact (hbw.alloc hbw.size _).trans hb3 | exact (hbw.drew.alloc (by simpa using hbw.size) _).trans hb3 | exact ((hbw.alloc hbw.size _).drew).trans hb3
            clear hown3 hb3
            go_wp2_with fail
            go_roundw
            case rel => exact ⟨j + 1, by omega, by go_num, ho, hb4⟩
            case measure => simp [intOf]; omega
        · have g2 : decide ((32 : Int) ≤ (x : Int)) = true := by simp; omega
          have g3 : decide ((x : Int) ≤ 126) = true := by simp; omega
          have g4 : ((x : Int) == 34) = false := beq_eq_false_iff_ne.2 (by omega)
          have g5 : ((x : Int) != 34) = true := by simp; omega
          have g6 : ((x : Int) == 92) = true := by simp; omega
          have g7 : ((x : Int) != 92) = false := by simp; omega
          clear g1
          go_wp2_with fail
          go_region_law
            (first
              | (refine step_app2 rfl (.tmp 33) (.tmp 40) rfl rfl (hv.alloc _) rfl (At.three _ _ _ _ _ 92 (hx d) (hx m) _ rfl (congrArg _ (hexAt d _)) (congrArg _ (hexAt m _)) rfl) rfl (by omega) (by have := hbw.size; simp; omega) ?_
                 intro v3 w3 hown3 hb3 _))
          all_goals
            have ho := fin _ _ hown3
            have hb4 : Below w.heap.size w w3 := by first | exact (hbw.alloc hbw.size _).trans hb3 | exact (hbw.drew.alloc (by simpa using hbw.size) _).trans hb3 | exact ((hbw.alloc hbw.size _).drew).trans hb3
            clear hown3 hb3
            go_wp2_with fail
            go_roundw
            case rel => exact ⟨j + 1, by omega, by go_num, ho, hb4⟩
            case measure => simp [intOf]; omega
    · have ej : j = s.length := by have := HZ.out; omega
      have hq : Hid (quo s = (34 :: (s.take j).flatMap qb) ++ [34]) := by
        show _ = _
        rw [ej, List.take_length]
        rfl
      have hll : (34 :: (s.take j).flatMap qb).length ≤ 20000 := by
        have := flat_len (s.take j)
        simp at this ⊢
        omega
      clear ej
      have kc := fun (w2 : World) (v2 : Value) (h : Own w2 w.heap.size v2 (quo s)) => run_own_str (quo s) w2 w.heap.size v2 h HQ.out
      have KC := Lib.hid kc
      clear kc
      go_wp2_with (at_builtin
                   refine wpList_app rfl (.tmp 43) (.tmp 44) rfl rfl (hv.alloc _) rfl (At.one' _ _ _ 34 _ rfl rfl) rfl (by omega) (by have := hbw.size; simp; omega) ?_
                   intro v2 w2 hown2 hb2 _ _
                   have kc2 := KC.out w2 v2 (by rw [hq.out]; exact hown2))
      go_ret
      exact ⟨rfl, (hbw.alloc hbw.size _).trans hb2⟩
end Go.Proofs.YtfobmlicmbelnaaDoor
