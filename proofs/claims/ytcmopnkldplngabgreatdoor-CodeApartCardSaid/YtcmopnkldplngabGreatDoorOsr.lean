/- A row of texts of the call's own. -/
import Derived.Test.YtcmopnkldplngabGreatDoorTbe
namespace Go.Proofs.YtcmopnkldplngabGreatDoor
open Go.RowKit
set_option linter.unusedVariables false
def OwnS (w:World) (base:Nat) (v:Value) (l:List (List Nat)):Prop:=w.ownsRow base 9 1 v l.length (l.map fun s => .string (strOf s))
theorem OwnS.nil (w:World) (base:Nat):OwnS w base (.slice none 0 0) []:=World.ownsRow_nil w base _ 1
theorem OwnS.below {w w':World} {base:Nat} {v:Value} {l:List (List Nat)} (h:OwnS w base v l) (hb:Below w.heap.size w w'):OwnS w' base v l :=
 World.ownsRow.kept (row:=none) h ⟨hb.os,hb.tape,hb.output,hb.size,fun k hk _ => hb.block k hk⟩ (by cases hv:v.ownBlock <;> simp)
theorem OwnS.form {w:World} {base:Nat} {v:Value} {l:List (List Nat)} (h:OwnS w base v l):∃ A c,v = .slice A l.length c∧l.length≤c∧(∀ (i:Nat) s,l[i]?=some s→∃ b,A=some ⟨b,0,none⟩∧base≤b∧b<w.heap.size∧w.cell? ⟨b,i,none⟩=some (.string (strOf s))):=by
 have h':=h
 rcases h.2 with ⟨h1,h2⟩ | ⟨g,cap,cur,h1,h2,h3,h4,h5, _⟩
 · subst h1
   have:l=[]:=List.eq_nil_of_length_eq_zero (by simpa using h2)
   subst this
   exact ⟨none,0,rfl,Nat.le_refl _,by simp⟩
 · subst h1
   refine ⟨_,cap,rfl,by simpa using h4,fun i s hs=>⟨g,rfl,h2,lt_heap h3,?_⟩⟩
   have:=World.ownsRow.cells h' rfl i (.string (strOf s)) (by rw [List.getElem?_map,hs]; rfl)
   rw [Addr.add_lit] at this
   simpa using this
theorem str_info2:(Tryz.prog.info? 9).map (fun i=>(i.zero,i.size,i.bytes))=some (some (.string ⟨#[]⟩),1,16):=by kernel_rfl
end Go.Proofs.YtcmopnkldplngabGreatDoor
