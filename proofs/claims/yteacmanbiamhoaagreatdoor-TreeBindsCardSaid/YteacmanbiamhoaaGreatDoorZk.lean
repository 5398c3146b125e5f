/- The texts of TreeBinds and TreeParens, parsed: plain mathematics. -/
import Derived.Test.YteacmanbiamhoaaGreatDoorZac
import Derived.Test.YteacmanbiamhoaaGreatDoorYaf
namespace Go.Proofs.YteacmanbiamhoaaGreatDoor
set_option linter.unusedVariables false
set_option maxRecDepth 100000

def preE : List Nat := [102, 117, 110, 99, 32, 102, 40, 41, 32, 123, 32, 114, 101, 116, 117, 114, 110, 32]
def endE : List Nat := [59, 32, 125]
/-- The program that an expression is put into. -/
def exG (x : Ex) : Pg := ⟨[⟨[102], [], [.mk 5 [] [x] [] [] 1], 1⟩], []⟩
def exTx (t : List Nat) : List Nat := preE ++ t ++ endE
/-- The text says that expression. -/
def saysX (t : List Nat) (x : Ex) : Bool := isPg (exTx t) (exG x)
def notX (t : List Nat) : Bool := match parseF (exTx t) (fuel (exTx t)) with
  | none => false
  | some (_, e, _) => e != 0
theorem notX_eq {t : List Nat} (h : notX t = true) : ∃ g er fl, parseF (exTx t) (fuel (exTx t)) = some (g, er, fl) ∧ er ≠ 0 := by
  unfold notX at h
  split at h
  · cases h
  · rename_i g e l hp
    exact ⟨g, e, l, hp, by simpa using h⟩
/-! TreeBinds. -/
def sgB : List (List Nat) := [[124, 124], [38, 38], [61, 61], [33, 61], [60], [60, 61], [62], [62, 61], [43], [45], [43, 43], [42], [47], [37]]
def rkB (s : List Nat) : Nat := if s = [124, 124] then 1 else if s = [38, 38] then 2 else if s = [43] ∨ s = [45] ∨ s = [43, 43] then 4 else if s = [42] ∨ s = [47] ∨ s = [37] then 5 else 3
def n1 : Ex := .mk 1 [] 1 []
def n2 : Ex := .mk 1 [] 2 []
def n3 : Ex := .mk 1 [] 3 []
def bdX (s t : List Nat) : Ex := if rkB t ≤ rkB s then .mk 7 t 0 [.mk 7 s 0 [n1, n2], n3] else .mk 7 s 0 [n1, .mk 7 t 0 [n2, n3]]
def bdTx (s t : List Nat) : List Nat := [49, 32] ++ s ++ [32, 50, 32] ++ t ++ [32, 51]
def bdOk (i j : Nat) : Bool := if rkB (sgB.getD i []) = 3 ∧ rkB (sgB.getD j []) = 3 then notX (bdTx (sgB.getD i []) (sgB.getD j [])) else saysX (bdTx (sgB.getD i []) (sgB.getD j [])) (bdX (sgB.getD i []) (sgB.getD j []))
theorem bd_0 : ((List.range 14).all fun j => bdOk 0 j) = true := by as_aux_lemma => kernel_rfl
theorem bd_1 : ((List.range 14).all fun j => bdOk 1 j) = true := by as_aux_lemma => kernel_rfl
theorem bd_2 : ((List.range 14).all fun j => bdOk 2 j) = true := by as_aux_lemma => kernel_rfl
theorem bd_3 : ((List.range 14).all fun j => bdOk 3 j) = true := by as_aux_lemma => kernel_rfl
theorem bd_4 : ((List.range 14).all fun j => bdOk 4 j) = true := by as_aux_lemma => kernel_rfl
theorem bd_5 : ((List.range 14).all fun j => bdOk 5 j) = true := by as_aux_lemma => kernel_rfl
theorem bd_6 : ((List.range 14).all fun j => bdOk 6 j) = true := by as_aux_lemma => kernel_rfl
theorem bd_7 : ((List.range 14).all fun j => bdOk 7 j) = true := by as_aux_lemma => kernel_rfl
theorem bd_8 : ((List.range 14).all fun j => bdOk 8 j) = true := by as_aux_lemma => kernel_rfl
theorem bd_9 : ((List.range 14).all fun j => bdOk 9 j) = true := by as_aux_lemma => kernel_rfl
theorem bd_10 : ((List.range 14).all fun j => bdOk 10 j) = true := by as_aux_lemma => kernel_rfl
theorem bd_11 : ((List.range 14).all fun j => bdOk 11 j) = true := by as_aux_lemma => kernel_rfl
theorem bd_12 : ((List.range 14).all fun j => bdOk 12 j) = true := by as_aux_lemma => kernel_rfl
theorem bd_13 : ((List.range 14).all fun j => bdOk 13 j) = true := by as_aux_lemma => kernel_rfl
theorem bd_ok : ∀ {i j : Nat}, i < 14 → j < 14 → bdOk i j = true
  | 0, j, _, hj => List.all_eq_true.1 bd_0 j (by simpa using hj)
  | 1, j, _, hj => List.all_eq_true.1 bd_1 j (by simpa using hj)
  | 2, j, _, hj => List.all_eq_true.1 bd_2 j (by simpa using hj)
  | 3, j, _, hj => List.all_eq_true.1 bd_3 j (by simpa using hj)
  | 4, j, _, hj => List.all_eq_true.1 bd_4 j (by simpa using hj)
  | 5, j, _, hj => List.all_eq_true.1 bd_5 j (by simpa using hj)
  | 6, j, _, hj => List.all_eq_true.1 bd_6 j (by simpa using hj)
  | 7, j, _, hj => List.all_eq_true.1 bd_7 j (by simpa using hj)
  | 8, j, _, hj => List.all_eq_true.1 bd_8 j (by simpa using hj)
  | 9, j, _, hj => List.all_eq_true.1 bd_9 j (by simpa using hj)
  | 10, j, _, hj => List.all_eq_true.1 bd_10 j (by simpa using hj)
  | 11, j, _, hj => List.all_eq_true.1 bd_11 j (by simpa using hj)
  | 12, j, _, hj => List.all_eq_true.1 bd_12 j (by simpa using hj)
  | 13, j, _, hj => List.all_eq_true.1 bd_13 j (by simpa using hj)
  | n + 14, j, h, _ => absurd h (by omega)
/-! TreeParens. -/
def txP : List (List Nat) := [[49], [97], [49, 32, 43, 32, 50], [45, 32, 97], [108, 101, 110, 40, 97, 41], [99, 97, 108, 108, 32, 102, 40, 49, 41], [40, 49, 44, 32, 50, 41], [97, 91, 49, 93]]
def exP : List Ex := [n1, .mk 4 [97] 0 [], .mk 7 [43] 0 [n1, n2], .mk 7 [45] 0 [.mk 4 [97] 0 []], .mk 9 [] 0 [.mk 4 [97] 0 []], .mk 10 [102] 0 [n1], .mk 6 [] 0 [n1, n2], .mk 8 [] 0 [.mk 4 [97] 0 [], n1]]
def paTx (i k : Nat) : List Nat := List.replicate k 40 ++ txP.getD i [] ++ List.replicate k 41
def prTx (i : Nat) : List Nat := [40] ++ txP.getD i [] ++ [44, 32] ++ txP.getD i [] ++ [41]
def paOk (i a b : Nat) : Bool := (List.range b).all fun k => saysX (paTx i (a + k)) (exP.getD i n1)
theorem pa_0_0 : paOk 0 0 10 = true := by as_aux_lemma => kernel_rfl
theorem pa_0_1 : paOk 0 10 8 = true := by as_aux_lemma => kernel_rfl
theorem pa_0_2 : paOk 0 18 7 = true := by as_aux_lemma => kernel_rfl
theorem pa_0_3 : paOk 0 25 6 = true := by as_aux_lemma => kernel_rfl
theorem pa_1_0 : paOk 1 0 10 = true := by as_aux_lemma => kernel_rfl
theorem pa_1_1 : paOk 1 10 8 = true := by as_aux_lemma => kernel_rfl
theorem pa_1_2 : paOk 1 18 7 = true := by as_aux_lemma => kernel_rfl
theorem pa_1_3 : paOk 1 25 6 = true := by as_aux_lemma => kernel_rfl
theorem pa_2_0 : paOk 2 0 10 = true := by as_aux_lemma => kernel_rfl
theorem pa_2_1 : paOk 2 10 8 = true := by as_aux_lemma => kernel_rfl
theorem pa_2_2 : paOk 2 18 7 = true := by as_aux_lemma => kernel_rfl
theorem pa_2_3 : paOk 2 25 6 = true := by as_aux_lemma => kernel_rfl
theorem pa_3_0 : paOk 3 0 10 = true := by as_aux_lemma => kernel_rfl
theorem pa_3_1 : paOk 3 10 8 = true := by as_aux_lemma => kernel_rfl
theorem pa_3_2 : paOk 3 18 7 = true := by as_aux_lemma => kernel_rfl
theorem pa_3_3 : paOk 3 25 6 = true := by as_aux_lemma => kernel_rfl
theorem pa_4_0 : paOk 4 0 10 = true := by as_aux_lemma => kernel_rfl
theorem pa_4_1 : paOk 4 10 8 = true := by as_aux_lemma => kernel_rfl
theorem pa_4_2 : paOk 4 18 7 = true := by as_aux_lemma => kernel_rfl
theorem pa_4_3 : paOk 4 25 6 = true := by as_aux_lemma => kernel_rfl
theorem pa_5_0 : paOk 5 0 10 = true := by as_aux_lemma => kernel_rfl
theorem pa_5_1 : paOk 5 10 8 = true := by as_aux_lemma => kernel_rfl
theorem pa_5_2 : paOk 5 18 7 = true := by as_aux_lemma => kernel_rfl
theorem pa_5_3 : paOk 5 25 6 = true := by as_aux_lemma => kernel_rfl
theorem pa_6_0 : paOk 6 0 10 = true := by as_aux_lemma => kernel_rfl
theorem pa_6_1 : paOk 6 10 8 = true := by as_aux_lemma => kernel_rfl
theorem pa_6_2 : paOk 6 18 7 = true := by as_aux_lemma => kernel_rfl
theorem pa_6_3 : paOk 6 25 6 = true := by as_aux_lemma => kernel_rfl
theorem pa_7_0 : paOk 7 0 10 = true := by as_aux_lemma => kernel_rfl
theorem pa_7_1 : paOk 7 10 8 = true := by as_aux_lemma => kernel_rfl
theorem pa_7_2 : paOk 7 18 7 = true := by as_aux_lemma => kernel_rfl
theorem pa_7_3 : paOk 7 25 6 = true := by as_aux_lemma => kernel_rfl
theorem pa_of {i a b : Nat} (h : paOk i a b = true) {k : Nat} (h1 : a ≤ k) (h2 : k < a + b) : saysX (paTx i k) (exP.getD i n1) = true := by
  have := List.all_eq_true.1 h (k - a) (by simp; omega)
  rw [show a + (k - a) = k by omega] at this
  exact this
theorem pa_ok : ∀ {i k : Nat}, i < 8 → k < 31 → saysX (paTx i k) (exP.getD i n1) = true
  | 0, k, _, hk => if h1 : k < 10 then pa_of pa_0_0 (by omega) (by omega) else if h2 : k < 18 then pa_of pa_0_1 (by omega) (by omega) else if h3 : k < 25 then pa_of pa_0_2 (by omega) (by omega) else pa_of pa_0_3 (by omega) (by omega)
  | 1, k, _, hk => if h1 : k < 10 then pa_of pa_1_0 (by omega) (by omega) else if h2 : k < 18 then pa_of pa_1_1 (by omega) (by omega) else if h3 : k < 25 then pa_of pa_1_2 (by omega) (by omega) else pa_of pa_1_3 (by omega) (by omega)
  | 2, k, _, hk => if h1 : k < 10 then pa_of pa_2_0 (by omega) (by omega) else if h2 : k < 18 then pa_of pa_2_1 (by omega) (by omega) else if h3 : k < 25 then pa_of pa_2_2 (by omega) (by omega) else pa_of pa_2_3 (by omega) (by omega)
  | 3, k, _, hk => if h1 : k < 10 then pa_of pa_3_0 (by omega) (by omega) else if h2 : k < 18 then pa_of pa_3_1 (by omega) (by omega) else if h3 : k < 25 then pa_of pa_3_2 (by omega) (by omega) else pa_of pa_3_3 (by omega) (by omega)
  | 4, k, _, hk => if h1 : k < 10 then pa_of pa_4_0 (by omega) (by omega) else if h2 : k < 18 then pa_of pa_4_1 (by omega) (by omega) else if h3 : k < 25 then pa_of pa_4_2 (by omega) (by omega) else pa_of pa_4_3 (by omega) (by omega)
  | 5, k, _, hk => if h1 : k < 10 then pa_of pa_5_0 (by omega) (by omega) else if h2 : k < 18 then pa_of pa_5_1 (by omega) (by omega) else if h3 : k < 25 then pa_of pa_5_2 (by omega) (by omega) else pa_of pa_5_3 (by omega) (by omega)
  | 6, k, _, hk => if h1 : k < 10 then pa_of pa_6_0 (by omega) (by omega) else if h2 : k < 18 then pa_of pa_6_1 (by omega) (by omega) else if h3 : k < 25 then pa_of pa_6_2 (by omega) (by omega) else pa_of pa_6_3 (by omega) (by omega)
  | 7, k, _, hk => if h1 : k < 10 then pa_of pa_7_0 (by omega) (by omega) else if h2 : k < 18 then pa_of pa_7_1 (by omega) (by omega) else if h3 : k < 25 then pa_of pa_7_2 (by omega) (by omega) else pa_of pa_7_3 (by omega) (by omega)
  | n + 8, j, h, _ => absurd h (by omega)
theorem pr_all : ((List.range 8).all fun i => saysX (prTx i) (.mk 6 [] 0 [exP.getD i n1, exP.getD i n1])) = true := by as_aux_lemma => kernel_rfl
theorem pr_ok {i : Nat} (hi : i < 8) : saysX (prTx i) (.mk 6 [] 0 [exP.getD i n1, exP.getD i n1]) = true := List.all_eq_true.1 pr_all i (by simpa using hi)
theorem no_ok : saysX [40, 41] (.mk 6 [] 0 []) = true := by as_aux_lemma => kernel_rfl
end Go.Proofs.YteacmanbiamhoaaGreatDoor
