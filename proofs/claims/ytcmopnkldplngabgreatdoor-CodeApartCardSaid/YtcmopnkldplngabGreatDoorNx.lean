/- Numbers and bytes of programs: plain mathematics. -/
import Derived.Test.YtcmopnkldplngabGreatDoorTa
namespace Go.Proofs.YtcmopnkldplngabGreatDoor
set_option linter.unusedVariables false
mutual
def Nb:Ex→Prop
 | .mk k s z l=>z≤9223372036854775807∧Nbs l
def Nbs:List Ex→Prop
 | []=>True
 | x :: r=>Nb x∧Nbs r
end
theorem Nbs.at:∀ {l:List Ex},Nbs l→∀ y∈l,Nb y
 | [],h,y,hy=>by cases hy
 | x :: r,h,y,hy=>by
   rw [Nbs] at h
   rcases List.mem_cons.1 hy with rfl | hy
   · exact h.1
   · exact Nbs.at h.2 y hy
mutual
def NbS:Sm→Prop
 | .mk k s x b e ln=>Nbs x∧NbSs b∧NbSs e
def NbSs:List Sm→Prop
 | []=>True
 | x :: r=>NbS x∧NbSs r
end
theorem NbSs.at:∀ {l:List Sm},NbSs l→∀ y∈l,NbS y
 | [],h,y,hy=>by cases hy
 | x :: r,h,y,hy=>by
   rw [NbSs] at h
   rcases List.mem_cons.1 hy with rfl | hy
   · exact h.1
   · exact NbSs.at h.2 y hy
def NbP (g:Pg):Prop:=(∀ b∈g.fns,NbSs b.st)∧∀ r∈g.roles,∀ b∈r.on,NbSs b.st
mutual
def B8:Ex→Prop
 | .mk k s z l=>(∀ y∈s,y<256)∧B8s l
def B8s:List Ex→Prop
 | []=>True
 | x :: r=>B8 x∧B8s r
end
theorem B8s.at:∀ {l:List Ex},B8s l→∀ y∈l,B8 y
 | [],h,y,hy=>by cases hy
 | x :: r,h,y,hy=>by
   rw [B8s] at h
   rcases List.mem_cons.1 hy with rfl | hy
   · exact h.1
   · exact B8s.at h.2 y hy
mutual
def B8S:Sm→Prop
 | .mk k s x b e ln=>B8s x∧B8Ss b∧B8Ss e
def B8Ss:List Sm→Prop
 | []=>True
 | x :: r=>B8S x∧B8Ss r
end
theorem B8Ss.at:∀ {l:List Sm},B8Ss l→∀ y∈l,B8S y
 | [],h,y,hy=>by cases hy
 | x :: r,h,y,hy=>by
   rw [B8Ss] at h
   rcases List.mem_cons.1 hy with rfl | hy
   · exact h.1
   · exact B8Ss.at h.2 y hy
def B8P (g:Pg):Prop:=(∀ b∈g.fns,B8Ss b.st)∧∀ r∈g.roles,∀ b∈r.on,B8Ss b.st
theorem B8s.of:∀ {l:List Ex},(∀ y∈l,B8 y)→B8s l
 | [],h=>by rw [B8s]; trivial
 | x :: r,h=>by rw [B8s]; exact ⟨h x (by simp),B8s.of fun y hy=>h y (by simp [hy])⟩
theorem B8Ss.of:∀ {l:List Sm},(∀ y∈l,B8S y)→B8Ss l
 | [],h=>by rw [B8Ss]; trivial
 | x :: r,h=>by rw [B8Ss]; exact ⟨h x (by simp),B8Ss.of fun y hy=>h y (by simp [hy])⟩
theorem NbsOf:∀ {l:List Ex},(∀ y∈l,Nb y)→Nbs l
 | [],h=>by rw [Nbs]; trivial
 | x :: r,h=>by rw [Nbs]; exact ⟨h x (by simp),NbsOf fun y hy=>h y (by simp [hy])⟩
theorem NbSsOf:∀ {l:List Sm},(∀ y∈l,NbS y)→NbSs l
 | [],h=>by rw [NbSs]; trivial
 | x :: r,h=>by rw [NbSs]; exact ⟨h x (by simp),NbSsOf fun y hy=>h y (by simp [hy])⟩
end Go.Proofs.YtcmopnkldplngabGreatDoor
