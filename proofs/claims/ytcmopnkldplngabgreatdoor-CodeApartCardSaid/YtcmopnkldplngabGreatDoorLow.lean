/- drover/droverlow.SameBytes,CopyBytes,Pick: the walks. -/
import Derived.Test.YtcmopnkldplngabGreatDoorOwn
namespace Go.Proofs.YtcmopnkldplngabGreatDoor
open Go.RowKit
def strOf (l:List Nat):ByteArray:=⟨(l.map UInt8.ofNat).toArray⟩
theorem strOf_size (s:List Nat):(strOf s).size=s.length:=by
 show ((s.map UInt8.ofNat).toArray).size = _
 simp
theorem run_strOf (w:World) (B:Nat) (A:Option Addr) (c:Nat) (l:List Nat) (ha:At w B A (bv l)) (h8:∀ x∈l,x<256) :
   (convert 50 9 (.slice A l.length c)).run Tryz.prog w = .ok (.string (strOf l)) w:=by
 by_cases hl:l=[]
 · subst hl
   rw [List.length_nil,run_convert_bytes_string w 50 9 5 A 0 c Tryz.underlying50 Tryz.underlying5 Tryz.underlying9]
   cases A <;> simp [Conv.bytesToString,loadCells,loadCellsFrom,strOf] <;> rfl
 · obtain ⟨b,o,rfl,hb,hc⟩:=ha.byte hl
   have:=run_convert_bytes_back (P:=Tryz.prog) w 50 9 5 ⟨b,o,none⟩ c (l.map UInt8.ofNat) Tryz.underlying50 Tryz.underlying5 Tryz.underlying9 (fun j hj=>by
     have hj':j<l.length:=by simpa using hj
     rw [Addr.add_lit,hc j hj']
     have h1:=h8 (l[j]) (List.getElem_mem hj')
     simp [hj',UInt8.toNat_ofNat',Nat.mod_eq_of_lt h1])
   rw [List.length_map] at this
   exact this
theorem strOf_eq (l l':List Nat) (h:∀ x∈l,x<256) (h':∀ x∈l',x<256):((strOf l).toList == (strOf l').toList)=decide (l=l'):=by
 rw [ByteArray.toList_eq,ByteArray.toList_eq]
 have e:(strOf l).data.toList=(strOf l').data.toList ↔ l=l':=by
   constructor
   · intro hh
     have h1:l.map UInt8.ofNat=l'.map UInt8.ofNat:=by simpa [strOf] using hh
     have inv:∀ m:List Nat,(∀ x∈m,x<256)→(m.map UInt8.ofNat).map UInt8.toNat=m:=by
       intro m hm
       rw [List.map_map]
       conv=>rhs; rw [← List.map_id m]
       apply List.map_congr_left
       intro x hx
       simp [UInt8.toNat_ofNat',Nat.mod_eq_of_lt (hm x hx)]
     rw [← inv l h,← inv l' h',h1]
   · rintro rfl
     rfl
 by_cases hll:l=l'
 · rw [decide_eq_true hll,beq_iff_eq.2 (e.2 hll)]
 · rw [decide_eq_false hll,beq_eq_false_iff_ne.2 (fun hh=>hll (e.1 hh))]
end Go.Proofs.YtcmopnkldplngabGreatDoor
