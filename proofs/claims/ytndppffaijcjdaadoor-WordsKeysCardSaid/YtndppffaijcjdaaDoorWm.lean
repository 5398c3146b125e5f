/- Helpers of layer 8's laws. -/
import Derived.Test.YtndppffaijcjdaaDoorWl
import Derived.Laws.Concat
namespace Go.Proofs.YtndppffaijcjdaaDoor
open Go.RowKit
set_option linter.unusedVariables false

theorem str_open (S : ByteArray) : ∃ T : List Nat, S = strOf T ∧ (∀ x ∈ T, x < 256) ∧ T.length = S.size := by
  refine ⟨S.data.toList.map UInt8.toNat, ?_, ?_, ?_⟩
  · apply ByteArray.ext
    simp [strOf, Function.comp_def]
  · intro x hx
    obtain ⟨u, -, rfl⟩ := List.mem_map.1 hx
    exact u.toNat_lt
  · rw [List.length_map]
    exact Array.length_toList
theorem strOf_app (a b : List Nat) : strOf a ++ strOf b = strOf (a ++ b) := by
  apply ByteArray.ext
  rw [ByteArray.data_append]
  simp [strOf]
theorem add_strs (a b : List Nat) (h : a.length + b.length ≤ 100000000) (w : World) : (Op.stringOp .add (strOf a) (strOf b)).run Tryd.prog w = .ok (.string (strOf (a ++ b))) w := by
  rw [← strOf_app]
  exact run_string_add_sum (P := Tryd.prog) (w := w) (strOf a) (strOf b) (by rw [strOf_size, strOf_size]; omega)
def ansV (k : Nat) (S : ByteArray) (n ln m e er fl : Nat) : Value := .tuple #[.agg #[.int .u8 (k : Int), .string S, .int .i64 (n : Int), .int .i64 (ln : Int), .int .i64 (m : Int), .int .i64 (e : Int)], .agg #[.int .i64 (er : Int), .int .i64 (fl : Int)]]
/-- What Next answers, with a name for each part; what is known of them. -/
theorem nxt_form (T : List Nat) (a : Int) : ∃ (k : Nat) (S : ByteArray) (n ln m e er fl : Nat), nxtV T a = ansV k S n ln m e er fl ∧
    (er = 0 → T.length ≤ 32768 ∧ 0 ≤ a ∧ a ≤ (T.length : Int) ∧ fl = 0 ∧ ∃ t, tok (T.drop (atW T a.toNat)) = some t ∧ k = t.k ∧ S = strOf t.s ∧ n = t.n ∧ ln = lnW T a.toNat ∧ m = atW T a.toNat ∧ e = atW T a.toNat + t.e) ∧
    (er ≠ 0 → T.length ≤ 32768 → 0 ≤ a → a ≤ (T.length : Int) → er = 100 ∧ fl = lnW T a.toNat ∧ tok (T.drop (atW T a.toNat)) = none) := by
  unfold nxtV
  split
  · exact ⟨0, ⟨#[]⟩, 0, 0, 0, 0, 3, 0, rfl, by omega, by omega⟩
  · split
    · exact ⟨0, ⟨#[]⟩, 0, 0, 0, 0, 2, 0, rfl, by omega, by omega⟩
    · split
      · rename_i h
        exact ⟨0, ⟨#[]⟩, 0, 0, 0, 0, 100, lnW T a.toNat, rfl, by omega, fun _ _ _ _ => ⟨rfl, rfl, h⟩⟩
      · rename_i t h
        exact ⟨t.k, strOf t.s, t.n, lnW T a.toNat, atW T a.toNat, atW T a.toNat + t.e, 0, 0, rfl, fun _ => ⟨by omega, by omega, by omega, rfl, t, h, rfl, rfl, rfl, rfl, rfl, rfl⟩, fun h => absurd rfl h⟩
theorem nxt_near {T M : List Nat} {a : Int} {k : Nat} {S : ByteArray} {n ln m e er fl : Nat} (h : nxtV T a = ansV k S n ln m e er fl)
    (hf : er = 0 → T.length ≤ 32768 ∧ 0 ≤ a ∧ a ≤ (T.length : Int) ∧ fl = 0 ∧ ∃ t, tok (T.drop (atW T a.toNat)) = some t ∧ k = t.k ∧ S = strOf t.s ∧ n = t.n ∧ ln = lnW T a.toNat ∧ m = atW T a.toNat ∧ e = atW T a.toNat + t.e)
    (h0 : er = 0) (h6 : k ≠ 6) (he : e < T.length) (hl : T.length + M.length ≤ 32768) : nxtV (T ++ M) a = ansV k S n ln m e er fl := by
  obtain ⟨h1, h2, h3, rfl, t, ht, rfl, rfl, rfl, rfl, rfl, rfl⟩ := hf h0
  subst h0
  obtain ⟨e1, e2, e3⟩ := next_near (M := M) (by omega) ht h6 he
  unfold nxtV
  rw [if_neg (by rw [List.length_append]; omega), if_neg (by rw [List.length_append]; omega), e1, e2, e3]
  rfl
/-- A call of Next, with a name for each part of its answer. -/
theorem next_ans {T : List Nat} {a : Int} {V : Value} (hV : nxtV T a = V) (h8 : ∀ x ∈ T, x < 256) (hn : T.length ≤ 140737488355328) (w : World) (hw : Wt w) : Calls Tryd.prog 10 #[.string (strOf T), .int .i64 a] w fun e w' => e = .returned V ∧ Below w.heap.size w w' := by
  subst hV
  exact next_any T h8 hn a w hw
end Go.Proofs.YtndppffaijcjdaaDoor
