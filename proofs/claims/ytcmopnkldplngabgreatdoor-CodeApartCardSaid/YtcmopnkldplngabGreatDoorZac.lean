/- Texts Za,Zb,Zc of this seat in one: see each part. -/
import Derived.Deep.LoopGhost
import Derived.Deep.QuietTactic
import Derived.Deep.RegionHeld3
import Derived.Test.YtcmopnkldplngabGreatDoorTa
import Derived.Test.YtcmopnkldplngabGreatDoorTbe
namespace Go.Proofs.YtcmopnkldplngabGreatDoor
set_option linter.unusedVariables false
end Go.Proofs.YtcmopnkldplngabGreatDoor
namespace Go.Proofs.YtcmopnkldplngabGreatDoor
open Go.RowKit
set_option linter.unusedVariables false
set_option maxRecDepth 100000 in
set_option maxHeartbeats 4000000 in
theorem sametexts_any (l:List (List Nat)) (w:World) (S S':Nat→Prop) (v v':Value) (h:Rd w S (.row 1 (l.map nmNd)) v) (h':Rd w S' (.row 1 (l.map nmNd)) v') :
   Calls Tryz.prog 25 #[v,v'] w fun e w'=>e = .returned (.bool true)∧∃ k,w'=w.drewN k:=by
 rw [Rd] at h h'
 obtain ⟨A,c,rfl,hc,hcm,hr⟩:=h
 obtain ⟨A',c',rfl,hc',hcm',hr'⟩:=h'
 rw [List.length_map] at hc hc' ⊢
 have HR:=Lib.hid hr
 have HR':=Lib.hid hr'
 obtain ⟨n,hn⟩:∃ n,Hid (l.length=n):=⟨_,Lib.hid rfl⟩
 rw [hn.out] at hc hc' ⊢
 unfold maxLen at hcm
 clear hr hr' hcm'
 go_enter Tryz.func25,Tryz.ntmps25
 go_wp2_with fail
 go_loopg [5] n (fun g i wr=>∃ (j k:Nat),j+g=n∧i = .int .i64 (j:Int)∧wr=w.drewN k)
 case atStart=>exact ⟨0,0,by omega,rfl,rfl⟩
 case round =>
   obtain ⟨j,k,hj,rfl,hw⟩:=hrel
   cases gk with
   | zero =>
     have h1:¬ (j:Int)<(n:Int):=by omega
     have HW:=Lib.hid hw
     clear hw
     go_wp2_with fail
     go_ret
     exact ⟨rfl,k,HW.out⟩
   | succ g =>
     have h1:(j:Int)<(n:Int):=by omega
     have hjl:j<l.length:=by rw [hn.out]; omega
     obtain ⟨b,o,vs,rfl,hSb,hvl,hrg,hx⟩:=HR.out.at j (nmNd l[j]) (by simp [hjl])
     obtain ⟨b',o',vs',rfl,hSb',hvl',hrg',hx'⟩:=HR'.out.at j (nmNd l[j]) (by simp [hjl])
     have e1:=((nm_rd _ _).1 hx).1
     have e2:=((nm_rd _ _).1 hx').1
     obtain ⟨X,hX⟩:∃ X,strOf l[j]=X:=⟨_,rfl⟩
     rw [hX] at e1 e2
     have hv:vs=[.string X]:=by
       injection e1 with e1
       have:=congrArg Array.toList e1
       simpa using this
     have hv':vs'=[.string X]:=by
       injection e2 with e2
       have:=congrArg Array.toList e2
       simpa using this
     subst hv hv'
     have y0:wr.cell? ⟨b,o+j,none⟩=some (.string X):=by
       have:=hrg 0 _ rfl
       simp only [Nat.zero_add,Nat.mul_one,Nat.add_zero] at this
       rw [hw]
       exact this
     have y1:wr.cell? ⟨b',o'+j,none⟩=some (.string X):=by
       have:=hrg' 0 _ rfl
       simp only [Nat.zero_add,Nat.mul_one,Nat.add_zero] at this
       rw [hw]
       exact this
     have HW:=Lib.hid hw
     clear hX hrg hrg' hx hx' e1 e2 hw hjl
     go_wp2_with fail
     go_quiet (fail)
     go_wp2_with fail
     go_roundg g
     case measure=>omega
     case rel=>exact ⟨j+1,k+nq,by omega,by go_num,by rw [HW.out,World.drewN_drewN]⟩
end Go.Proofs.YtcmopnkldplngabGreatDoor
namespace Go.Proofs.YtcmopnkldplngabGreatDoor
open Go.RowKit
set_option linter.unusedVariables false
theorem Rd.rowf {w:World} {S:Nat→Prop} {sz:Nat} {l:List Nd} {v:Value} (h:Rd w S (.row sz l) v):∃ A n c,v = .slice A n c:=by
 rw [Rd] at h
 obtain ⟨A,c,rfl,-⟩:=h
 exact ⟨_, _, _,rfl⟩
theorem bx6v {vs:List Value} {a b c d e f:Value} (h:(Value.agg vs.toArray) = .agg #[a,b,c,d,e,f]):vs=[a,b,c,d,e,f]:=by
 injection h with h
 have:=congrArg Array.toList h
 simpa using this
theorem bx4v {vs:List Value} {a b c d:Value} (h:(Value.agg vs.toArray) = .agg #[a,b,c,d]):vs=[a,b,c,d]:=by
 injection h with h
 have:=congrArg Array.toList h
 simpa using this
theorem six_cells {w:World} {b o:Nat} {a0 a1 a2 a3 a4 a5:Value} (h:∀ i u,[a0,a1,a2,a3,a4,a5][i]?=some u→w.cell? ⟨b,o+i,none⟩=some u) :
   w.cell? ⟨b,o,none⟩=some a0∧w.cell? ⟨b,o+1,none⟩=some a1∧w.cell? ⟨b,o+2,none⟩=some a2∧w.cell? ⟨b,o+3,none⟩=some a3∧w.cell? ⟨b,o+4,none⟩=some a4∧w.cell? ⟨b,o+5,none⟩=some a5 :=
 ⟨h 0 _ rfl,h 1 _ rfl,h 2 _ rfl,h 3 _ rfl,h 4 _ rfl,h 5 _ rfl⟩
end Go.Proofs.YtcmopnkldplngabGreatDoor
