/- The chapter's examples of layer 9, parsed and shown: plain mathematics. -/
import Derived.Test.YteacmanbiamhoaaGreatDoorZac
import Derived.Test.YteacmanbiamhoaaGreatDoorYaf
namespace Go.Proofs.YteacmanbiamhoaaGreatDoor
set_option linter.unusedVariables false
set_option maxRecDepth 100000

def a9a : List Nat := [102, 117, 110, 99, 32, 102, 40, 97, 41, 32, 123, 32, 114, 101, 116, 117, 114, 110, 32, 97, 32, 43, 32, 49, 32, 42, 32, 50, 59, 32, 125]
def a9b : List Nat := [97, 99, 116, 111, 114, 32, 99, 40, 110, 41, 32, 123, 32, 111, 110, 32, 97, 100, 100, 40, 120, 41, 32, 123, 32, 115, 101, 116, 32, 110, 32, 61, 32, 110, 32, 43, 32, 120, 59, 32, 115, 101, 110, 100, 32, 120, 91, 48, 93, 32, 100, 111, 110, 101, 40, 110, 44, 32, 40, 41, 41, 59, 32, 125, 32, 125]
def a9c : List Nat := [102, 117, 110, 99, 32, 102, 40, 32, 123, 32, 125]
def a9d : List Nat := [102, 117, 110, 99, 32, 102, 40, 97, 41, 32, 123, 10, 9, 114, 101, 116, 117, 114, 110, 32, 97, 32, 43, 32, 40, 49, 32, 42, 32, 50, 41, 59, 10, 125, 10]
def g9a : Pg := ⟨[⟨[102], [[97]], [.mk 5 [] [.mk 7 [43] 0 [.mk 4 [97] 0 [], .mk 7 [42] 0 [.mk 1 [] 1 [], .mk 1 [] 2 []]]] [] [] 1], 1⟩], []⟩
def g9b : Pg := ⟨[], [⟨[99], [[110]], [⟨[97, 100, 100], [[120]], [.mk 2 [110] [.mk 7 [43] 0 [.mk 4 [110] 0 [], .mk 4 [120] 0 []]] [] [] 1, .mk 6 [100, 111, 110, 101] [.mk 8 [] 0 [.mk 4 [120] 0 [], .mk 1 [] 0 []], .mk 4 [110] 0 [], .mk 6 [] 0 []] [] [] 1], 1⟩], 1⟩]⟩
theorem a9a_ok : isPg a9a g9a = true := by as_aux_lemma => kernel_rfl
theorem a9b_ok : isPg a9b g9b = true := by as_aux_lemma => kernel_rfl
theorem a9c_ok : isEr a9c 101 1 = true := by as_aux_lemma => kernel_rfl
theorem a9d_ok : showF g9a = (a9d, 0) := by as_aux_lemma => kernel_rfl
end Go.Proofs.YteacmanbiamhoaaGreatDoor
