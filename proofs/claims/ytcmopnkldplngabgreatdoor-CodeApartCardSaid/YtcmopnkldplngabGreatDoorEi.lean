/- How many functions and roles a program among the arguments has: the reach. -/
import Derived.Test.YtcmopnkldplngabGreatDoorZgq
import Derived.SizedLaws
namespace Go.Proofs.YtcmopnkldplngabGreatDoor
open Go.RowKit
set_option linter.unusedVariables false
set_option maxRecDepth 100000
section
variable {H:Type} {enc:TypeId × Value→H} {w:World} {held:Bool}
theorem part_reach {T E:TypeId} (hT:Tryz.prog.underlying T=some (.slice E)) (hb:0<Tryz.prog.bytesOf E) {fuel n:Nat} {A:Option Addr} {c:Nat} {y:DataW H × List MemPlace} (h:DataW.trod enc Tryz.prog w 0 (fun _ => true) held fuel T [.slice A n c]=some y)
   (hw:∀ k∈y.1.weights Tryz.prog T,k≤reachBytes):n≤reachBytes:=by
 rcases DataW.trod_slice hT h with ⟨hc3, _⟩ | ⟨a,len,cap,elems,rest,n',rfl,hc3,rfl, _,hlc,hcm,hel0,hel, _⟩
 · simp only [List.cons.injEq,and_true,Value.slice.injEq] at hc3
   omega
 · simp only [List.cons.injEq,and_true,Value.slice.injEq] at hc3
   obtain ⟨-,rfl,-⟩:=hc3
   have:=hw (((elems.map (·.1)).length+(rest.map (·.1)).length)*Tryz.prog.bytesOf E) (by simp [DataW.weights,hT])
   rw [List.length_map,hel0] at this
   have h2:n*1≤(n+(rest.map (·.1)).length)*Tryz.prog.bytesOf E:=Nat.mul_le_mul (Nat.le_add_right _ _) hb
   omega
theorem prog_len {g:Pg} {v:Value} {d:DataW H} {p:List MemPlace} {ts:List TypeId} {ds:List (DataW H)} (hr:Rw w (Sz w) g.nd v) (h:DataW.Trod enc Tryz.prog w 0 (fun _ => true) held 25 v d p)
   (hw:(DataW.weightsEach Tryz.prog (25 :: ts) (d :: ds)).all (·≤reachBytes)=true):g.fns.length+g.roles.length≤1125899906842624:=by
 obtain ⟨y,z,rfl,hy,hz⟩:=(Pg.rw g v).1 hr
 rw [Rw] at hy hz
 obtain ⟨A1,c1,rfl,-⟩:=hy
 obtain ⟨A2,c2,rfl,-⟩:=hz
 rw [List.length_map,List.length_map] at h
 obtain ⟨fuel,hf⟩:=h
 have hcs:(Value.agg #[.slice A1 g.fns.length c1,.slice A2 g.roles.length c2]).cells.toList=[.slice A1 g.fns.length c1,.slice A2 g.roles.length c2]:=rfl
 rw [hcs] at hf
 obtain ⟨ys,n,e1,e2,hlen,hyl,hfl⟩:=DataW.trod_struct Tryz.underlying25 hf
 injection e2 with e2 e3
 subst e2
 have hall:∀ k∈DataW.weightsEach Tryz.prog [22,23] (ys.map (·.1)),k≤reachBytes:=fun k hk=>by
   have:=List.all_eq_true.1 hw k (by
     refine DataW.weights_mem_each (j:=0) rfl rfl k ?_
     simp only [DataW.weights,Tryz.underlying25]
     exact hk)
   simpa using this
 have f0:=hfl 0 _ rfl
 have f1:=hfl 1 _ rfl
 have l2:ys.length=2:=hyl
 obtain ⟨y0,y1,rfl⟩:∃ y0 y1,ys=[y0,y1]:=by
   match ys,l2 with
   | [a,b], _ => exact ⟨a,b,rfl⟩
 have g0:DataW.trod enc Tryz.prog w 0 (fun _ => true) held n 22 [.slice A1 g.fns.length c1]=some y0:=f0
 have g1:DataW.trod enc Tryz.prog w 0 (fun _ => true) held n 23 [.slice A2 g.roles.length c2]=some y1:=f1
 have h0:=part_reach Tryz.underlying22 (of_decide_eq_true (by kernel_rfl)) g0 (fun k hk=>hall k (by
   simp only [List.map_cons,List.map_nil,DataW.weightsEach,List.mem_append]
   exact .inl hk))
 have h1:=part_reach Tryz.underlying23 (of_decide_eq_true (by kernel_rfl)) g1 (fun k hk=>hall k (by
   simp only [List.map_cons,List.map_nil,DataW.weightsEach,List.mem_append]
   exact .inr (.inl hk)))
 have hlt:=reachBytes_lt
 omega
end
end Go.Proofs.YtcmopnkldplngabGreatDoor
