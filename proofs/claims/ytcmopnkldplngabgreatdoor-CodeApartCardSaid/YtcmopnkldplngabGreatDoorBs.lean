/- The contracts of bytes once more,over values that read as bytes. -/
import Derived.Test.YtcmopnkldplngabGreatDoorLow
namespace Go.Proofs.YtcmopnkldplngabGreatDoor
open Go.RowKit
def Bs (w:World) (v:Value) (l:List Nat):Prop:=(∃ A c,v = .slice A l.length c∧l.length≤c∧At w w.heap.size A (bv l))∧(∀ x∈l,x<256)
section
variable {w w':World} {v:Value} {l:List Nat}
theorem Bs.below (h:Bs w v l) (hb:Below w.heap.size w w'):Bs w' v l:=by
 obtain ⟨⟨A,c,e,hc,ha⟩,h8⟩:=h
 exact ⟨⟨A,c,e,hc,(ha.below hb).more hb.size⟩,h8⟩
theorem Bs.keep {B:Nat} (h:Bs w v l) (hb:Below B w w') (hB:w.heap.size≤B):Bs w' v l:=h.below (hb.mono hB)
theorem Bs.alloc (h:Bs w v l) (o:Obj):Bs (w.alloc o) v l:=h.below ((Below.refl _ _).alloc (Nat.le_refl _) o)
theorem Bs.drew (h:Bs w v l):Bs w.drew v l:=h
theorem Bs.of_at {A:Option Addr} {n c:Nat} (ha:At w w.heap.size A (bv l)) (hl:l.length=n) (hc:n≤c) (h8:∀ x∈l,x<256):Bs w (.slice A n c) l:=by
 subst hl
 exact ⟨⟨A,c,rfl,hc,ha⟩,h8⟩
theorem Bs.parts {A:Option Addr} {n c:Nat} (h:Bs w (.slice A n c) l):l.length=n∧n≤c∧At w w.heap.size A (bv l)∧(∀ x∈l,x<256):=by
 obtain ⟨⟨A',c',e,hc,ha⟩,h8⟩:=h
 injection e with e1 e2 e3
 subst e1
 subst e2
 subst e3
 exact ⟨rfl,hc,ha,h8⟩
theorem Bs.pre {A:Option Addr} {n c:Nat} (h:Bs w (.slice A n c) l) (i:Nat) (hi:i≤n):Bs w (.slice A i c) (l.take i):=by
 obtain ⟨h1,h2,h3,h4⟩:=h.parts
 refine Bs.of_at ?_ (by simp; omega) (by omega) (fun x hx=>h4 x (List.mem_of_mem_take hx))
 rw [bv_take]
 exact h3.take i
end
end Go.Proofs.YtcmopnkldplngabGreatDoor
