/- Texts Cw2,Cy,Cz of this seat in one: see each part. -/
import Derived.Test.YtcmopnkldplngabGreatDoorCw
import Derived.Test.YtcmopnkldplngabGreatDoorKzw
import Derived.Test.YtcmopnkldplngabGreatDoorCrv
import Derived.Test.YtcmopnkldplngabGreatDoorCae
namespace Go.Proofs.YtcmopnkldplngabGreatDoor
open Go.RowKit
set_option linter.unusedVariables false
section
variable {S:Nat→Prop}
set_option maxRecDepth 100000 in
set_option maxHeartbeats 16000000 in
theorem compile_fault (g:Pg) (w:World) (hw:Wt w) (v:Value) (hS:∀ b,S b→b<w.heap.size) (hr:Rd w S g.nd v) (hz0:(checkF g).1≠0)
   (hck:∀ W:World,Below w.heap.size w W→Calls Tryz.prog 27 #[v] W (OutF W (checkF g))) :
   Calls Tryz.prog 8 #[v] w (OutCo w g):=by
 obtain ⟨y,z,rfl,hy,hz⟩:=(Pg.rd g v).1 hr
 obtain ⟨A1,m1,c1,rfl⟩:=hy.rowf
 obtain ⟨A2,m2,c2,rfl⟩:=hz.rowf
 have hr0:=hr
 rw [Rd] at hy hz
 obtain ⟨A1',c1',e1,hc1,hcm1,hr1⟩:=hy
 obtain ⟨A2',c2',e2,hc2,hcm2,hr2⟩:=hz
 cases e1
 cases e2
 rw [List.length_map] at hc1 hc2 hr hr0 hck ⊢
 rw [List.length_map] at hr hr0 hck ⊢
 obtain ⟨P,hP⟩:∃ P,Hid (Obj.cells #[.slice A1 g.fns.length c1,.slice A2 g.roles.length c2] 25 (0,0)=P):=⟨_,Lib.hid rfl⟩
 have HB0:Below w.heap.size w (((w.alloc P).alloc (.cells #[.slice none 0 0,.slice none 0 0,.slice none 0 0,.slice none 0 0] 33)).alloc (.cells #[.int .i64 0,.int .i64 0] 36)):=((two w P _).alloc (by simp; omega) _)
 have HP0:=heap_old (heap_old (heap_new w P) (.cells #[.slice none 0 0,.slice none 0 0,.slice none 0 0,.slice none 0 0] 33)) (.cells #[.int .i64 0,.int .i64 0] 36)
 have HM0:=heap_old (heap_new' (w.alloc P) (.cells #[.slice none 0 0,.slice none 0 0,.slice none 0 0,.slice none 0 0] 33) (w.heap.size+1) (by simp)) (.cells #[.int .i64 0,.int .i64 0] 36)
 have HF0:=heap_new' ((w.alloc P).alloc (.cells #[.slice none 0 0,.slice none 0 0,.slice none 0 0,.slice none 0 0] 33)) (.cells #[.int .i64 0,.int .i64 0] 36) (w.heap.size+2) (by simp)
 obtain ⟨W0,hW0⟩:∃ W0,Hid ((((w.alloc P).alloc (.cells #[.slice none 0 0,.slice none 0 0,.slice none 0 0,.slice none 0 0] 33)).alloc (.cells #[.int .i64 0,.int .i64 0] 36))=W0):=⟨_,Lib.hid rfl⟩
 rw [hW0.out] at HB0 HP0 HM0 HF0
 have hS0:∀ b,S b→b<W0.heap.size:=fun b hb=>Nat.lt_of_lt_of_le (hS b hb) HB0.size
 have HCK:=Lib.hid (hck W0 HB0)
 have HRF:=Lib.hid hr1
 have HRR:=Lib.hid hr2
 have HSS:=Lib.hid hS
 have HBW0:=Lib.hid HB0
 have HPW0:=Lib.hid HP0
 have HMW0:=Lib.hid HM0
 have HFW0:=Lib.hid HF0
 obtain ⟨er,her⟩:∃ er,Hid ((checkF g).1=er):=⟨_,Lib.hid rfl⟩
 obtain ⟨ln,hln⟩:∃ ln,Hid ((checkF g).2=ln):=⟨_,Lib.hid rfl⟩
 obtain ⟨l1,hl1⟩:∃ l,Hid (g.fns=l):=⟨_,Lib.hid rfl⟩
 obtain ⟨l2,hl2⟩:∃ l,Hid (g.roles=l):=⟨_,Lib.hid rfl⟩
 obtain ⟨n1,hn1⟩:∃ n,Hid (l1.length=n):=⟨_,Lib.hid rfl⟩
 obtain ⟨n2,hn2⟩:∃ n,Hid (l2.length=n):=⟨_,Lib.hid rfl⟩
 unfold OutF at HCK
 rw [her.out,hln.out] at HCK
 rw [hl1.out,hl2.out,hn1.out,hn2.out] at hP HCK ⊢
 rw [hl1.out] at HRF hc1
 rw [hl2.out] at HRR hc2
 rw [hn1.out] at hc1
 rw [hn2.out] at hc2
 have hP2:=hP.out
 unfold maxLen at hcm1 hcm2
 clear hr hr0 hr1 hr2 hS hck HB0 HP0 HM0 HF0 hS0 hw
 have hz:¬ er=0:=by rw [← her.out]; exact hz0
 clear hz0
 have hne:¬ (er:Int)=0:=by omega
 go_enter Tryz.func8,Tryz.ntmps8
 go_upto_region 1 with fail
 rw [hW0.out]
 have hPP:=HPW0.out
 rw [← hP2] at hPP
 obtain ⟨⟨p0,p1⟩,-⟩:=bx2 hPP
 have hlp:=lt_heap hPP
 clear hPP hP2
 go_upto_region 3 with (first
   | (go_at_call 27
      refine HCK.out.mono ?_
      rintro e w1 ⟨rfl,hb1⟩
      have HB1:=Lib.hid (HBW0.out.trans (hb1.mono HBW0.out.size))
      have HB3:=Lib.hid (HB1.out.alloc HB1.out.size (.cells #[.int .i64 (er:Int),.int .i64 ln] 36))
      have hm:=heap_old (heap_below HMW0.out hb1) (.cells #[.int .i64 (er:Int),.int .i64 ln] 36)
      have hf:(w1.alloc (.cells #[.int .i64 (er:Int),.int .i64 ln] 36)).heap[w.heap.size+1+1]? = _ := heap_old (heap_below HFW0.out hb1) (.cells #[.int .i64 (er:Int),.int .i64 ln] 36)
      obtain ⟨⟨q0,q1⟩,-⟩:=bx2 (heap_new w1 (.cells #[.int .i64 (er:Int),.int .i64 ln] 36))
      obtain ⟨⟨b0,b1,b2,b3⟩,e0,e1,e2,e3⟩:=box4f hm
      obtain ⟨⟨d0,d1⟩,f0,f1⟩:=bx2 hf
      have HF9:=Lib.hid (mw_facts (c := .slice none 0 0) (t := .slice none 0 0) (F := .slice none 0 0) (R := .slice none 0 0) (z := .int .i64 (er:Int)) (z' := .int .i64 ln) hm hf (by omega) HB3.out (by omega) (by omega))
      have hl10:=lt_heap hm
      have hl11:=lt_heap hf
      have hx0:=lt_heap (heap_below HFW0.out hb1)
      have hx1:w1.heap.size≠w.heap.size+1:=by omega
      have hx2:w1.heap.size≠w.heap.size+1+1:=by omega
      have hl12:w1.heap.size<(w1.alloc (.cells #[.int .i64 (er:Int),.int .i64 ln] 36)).heap.size:=by simp
      clear hb1 hm hf)
   | (fail))
 go_region
 go_wp2_with fail
 obtain ⟨hA,hFo,-,hBo⟩:=HF9.out
 show bodyPost _ _ _ _ _ ((MW (w1.alloc (.cells #[.int .i64 (er:Int),.int .i64 ln] 36)) (w.heap.size+1) (w.heap.size+1+1) (.slice none 0 0) (.slice none 0 0) (.slice none 0 0) (.slice none 0 0) (.int .i64 (er:Int)) (.int .i64 ln)).drew)
 clear HF9
 obtain ⟨WF,hWF⟩:∃ W,Hid (MW (w1.alloc (.cells #[.int .i64 (er:Int),.int .i64 ln] 36)) (w.heap.size+1) (w.heap.size+1+1) (.slice none 0 0) (.slice none 0 0) (.slice none 0 0) (.slice none 0 0) (.int .i64 (er:Int)) (.int .i64 ln)=W):=⟨_,Lib.hid rfl⟩
 rw [hWF.out] at hA hFo hBo ⊢
 have hA':WF.drew.heap[w.heap.size+1]?=some (.cells #[.slice none 0 0,.slice none 0 0,.slice none 0 0,.slice none 0 0] 33 (0,0)):=hA
 have hF':WF.drew.heap[w.heap.size+1+1]?=some (.cells #[.int .i64 (er:Int),.int .i64 ln] 36 (0,0)):=hFo
 have HBO:=Lib.hid hBo
 clear hA hFo hBo
 obtain ⟨⟨p0,p1,p2,p3⟩,-⟩:=box4f hA'
 obtain ⟨⟨s0,s1⟩,-⟩:=bx2 hF'
 clear hA' hF'
 refine bodyPost_ret (v := .tuple #[.agg #[.slice none 0 0,.slice none 0 0,.slice none 0 0,.slice none 0 0],.agg #[.int .i64 (er:Int),.int .i64 ln]]) (by simp [results,Tryz.results8,go_sem,p0,p1,p2,p3,s0,s1]) rfl ?_
 exact ⟨HBO.out.drew,.inl ⟨by rw [her.out]; exact hz,by rw [her.out,hln.out]⟩⟩
end
end Go.Proofs.YtcmopnkldplngabGreatDoor
namespace Go.Proofs.YtcmopnkldplngabGreatDoor
open Go.RowKit
set_option linter.unusedVariables false
section
variable {S:Nat→Prop}
theorem compile_any (g:Pg) (hlen:g.fns.length+g.roles.length≤1125899906842624) (hn:NbP g) (w:World) (hw:Wt w) (v:Value) (hS:∀ b,S b→b<w.heap.size) (hr:Rd w S g.nd v) :
   Calls Tryz.prog 8 #[v] w (OutCo w g):=by
 by_cases hz:(checkF g).1=0
 · obtain ⟨-,hT,h1,h2⟩:=rightP_T (checkF_zero hz).1
   exact compile_good g (by have:=(right_bounds (checkF_zero hz).1).1; omega) hT (fun b hb=>⟨h1 b hb,hn.1 b hb⟩) (fun r hr b hb=>⟨h2 r hr b hb,hn.2 r hr b hb⟩) w hw v hS hr hz
 · exact compile_fault g w hw v hS hr hz (fun W hb=>check_w g hlen W (hw.below hb) S v (fun b h=>Nat.lt_of_lt_of_le (hS b h) hb.size) (hr.keep (fun p hp=>hb.cell (hS _ hp)) (fun _ h=>h)))
end
theorem bdW_len {E:Env} {cs:List Cst} {ts st:Tss} {b:Bd} (h:∃ d d',smsR 1 b.st d=some d'):(bdW E cs ts st b).code.length=smsN b.st:=by
 obtain ⟨d,d',h⟩:=h
 unfold bdW
 rw [smsW_lenE E _ _ _ _ _ _ h]
 obtain ⟨-,-,a⟩:=lets_same b.ps (lets ⟨cs,ts,[],0,[]⟩ st)
 obtain ⟨-,-,c⟩:=lets_same st ⟨cs,ts,[],0,[]⟩
 rw [a,c]
 simp
def lnF (f:Fnc):Nat × Nat:=(f.code.length,f.params)
theorem fn_ln {E:Env} {m:Mk} {b:Bd} (h:∃ d d',smsR 1 b.st d=some d'):(m.fn E b).fns.map lnF=m.fns.map lnF ++ [(smsN b.st+2,b.ps.length)]:=by
 have e:(m.fn E b).fns=m.fns ++ [(fnE (bdW E m.cs m.ts [] b)).fnc b b.ps.length]:=rfl
 have e2:lnF ((fnE (bdW E m.cs m.ts [] b)).fnc b b.ps.length)=(smsN b.st+2,b.ps.length):=by
   show ((fnE (bdW E m.cs m.ts [] b)).code.length,b.ps.length) = _
   unfold fnE
   rw [put_len,cst_len,bdW_len h]
 rw [e,List.map_append,List.map_singleton,e2]
theorem on_ln {E:Env} {m:Mk} {st:Tss} {b:Bd} (h:∃ d d',smsR 1 b.st d=some d'):(m.on E st b).fns.map lnF=m.fns.map lnF ++ [(smsN b.st+1,st.length+b.ps.length)]:=by
 have e:(m.on E st b).fns=m.fns ++ [(rlE (bdW E m.cs m.ts st b)).fnc b (st.length+b.ps.length)]:=rfl
 have e2:lnF ((rlE (bdW E m.cs m.ts st b)).fnc b (st.length+b.ps.length))=(smsN b.st+1,st.length+b.ps.length):=by
   show ((rlE (bdW E m.cs m.ts st b)).code.length,st.length+b.ps.length) = _
   unfold rlE
   rw [put_len,bdW_len h]
 rw [e,List.map_append,List.map_singleton,e2]
theorem fold_ln {E:Env}:∀ (l:List Bd) (m:Mk),(∀ b∈l,∃ d d',smsR 1 b.st d=some d')→(l.foldl (Mk.fn E) m).fns.map lnF=m.fns.map lnF ++ l.map fun b=>(smsN b.st+2,b.ps.length)
 | [],m, _ => by simp
 | b :: r,m,h=>by
   rw [List.foldl_cons,fold_ln r _ (fun x hx=>h x (List.mem_cons_of_mem _ hx)),fn_ln (h b (List.mem_cons_self ..)),List.map_cons,List.append_assoc]
   rfl
theorem ons_ln {E:Env} {st:Tss}:∀ (l:List Bd) (m:Mk),(∀ b∈l,∃ d d',smsR 1 b.st d=some d')→(onsM E st m l).fns.map lnF=m.fns.map lnF ++ l.map fun b=>(smsN b.st+1,st.length+b.ps.length)
 | [],m, _ => by simp [onsM]
 | b :: r,m,h=>by
   show (onsM E st (m.on E st b) r).fns.map lnF = _
   rw [ons_ln r _ (fun x hx=>h x (List.mem_cons_of_mem _ hx)),on_ln (h b (List.mem_cons_self ..)),List.map_cons,List.append_assoc]
   rfl
def rlL (r:Rl):List (Nat × Nat):=r.on.map fun b=>(smsN b.st+1,r.ps.length+b.ps.length)
theorem roles_ln {E:Env}:∀ (l:List Rl) (m:Mk),(∀ r∈l,∀ b∈r.on,∃ d d',smsR 1 b.st d=some d')→(rolesM E m l).fns.map lnF=m.fns.map lnF ++ l.flatMap rlL
 | [],m, _ => by simp [rolesM]
 | r :: l,m,h=>by
   rw [rolesM,roles_ln l _ (fun x hx=>h x (List.mem_cons_of_mem _ hx)),ons_ln _ _ (h r (List.mem_cons_self ..)),List.flatMap_cons,List.append_assoc]
   rfl
theorem comp_ln {g:Pg} (h:rightP g=true):(compG g).fns.map lnF=(g.fns.map fun b=>(smsN b.st+2,b.ps.length)) ++ g.roles.flatMap rlL:=by
 obtain ⟨-,-,h1,h2⟩:=rightP_T h
 show (rolesM (envP g) (g.fns.foldl (Mk.fn (envP g)) ⟨[],[],[]⟩) g.roles).fns.map lnF = _
 rw [roles_ln _ _ h2,fold_ln _ _ h1]
 simp
theorem flat_at {α β:Type} (F:α→List β):∀ (l:List α) (i:Nat) (x:α) (j:Nat) (y:β),l[i]?=some x→(F x)[j]?=some y→(l.flatMap F)[((l.take i).map fun x=>(F x).length).sum+j]?=some y
 | [],i,x,j,y,h, _ => by simp at h
 | a :: l,0,x,j,y,h,hj=>by
   have e:a=x:=by simpa using h
   subst e
   have hl:j<(F a).length:=by
     have:=List.getElem?_eq_some_iff.1 hj
     exact this.1
   rw [List.flatMap_cons]
   show ((F a) ++ _)[0+j]? = _
   rw [Nat.zero_add,List.getElem?_append_left hl]
   exact hj
 | a :: l,i+1,x,j,y,h,hj=>by
   have h':l[i]?=some x:=by simpa using h
   have ih:=flat_at F l i x j y h' hj
   rw [List.flatMap_cons,List.take_succ_cons,List.map_cons,List.sum_cons,Nat.add_assoc,List.getElem?_append_right (by omega),Nat.add_sub_cancel_left]
   exact ih
def rlK (g:Pg) (i:Nat):Nat:=g.fns.length+((g.roles.take i).map fun r=>r.on.length).sum
theorem rlL_len (r:Rl):(rlL r).length=r.on.length:=by unfold rlL; simp
theorem comp_fn {g:Pg} (h:rightP g=true) {j:Nat} {b:Bd} (hj:g.fns[j]?=some b):∃ f,(compG g).fns[j]?=some f∧f.code.length=smsN b.st+2∧f.params=b.ps.length:=by
 have hl:=(List.getElem?_eq_some_iff.1 hj).1
 have e:((compG g).fns.map lnF)[j]?=some (smsN b.st+2,b.ps.length):=by
   rw [comp_ln h,List.getElem?_append_left (by rw [List.length_map]; exact hl),List.getElem?_map,hj]
   rfl
 rw [List.getElem?_map] at e
 obtain ⟨f,h1,h2⟩:=Option.map_eq_some_iff.1 e
 unfold lnF at h2
 injection h2 with h2 h3
 exact ⟨f,h1,h2,h3⟩
theorem comp_on {g:Pg} (h:rightP g=true) {i j:Nat} {r:Rl} {b:Bd} (hi:g.roles[i]?=some r) (hj:r.on[j]?=some b):∃ f,(compG g).fns[rlK g i+j]?=some f∧f.code.length=smsN b.st+1∧f.params=r.ps.length+b.ps.length:=by
 have e0:=flat_at rlL g.roles i r j (smsN b.st+1,r.ps.length+b.ps.length) hi (by unfold rlL; rw [List.getElem?_map,hj]; rfl)
 have e:((compG g).fns.map lnF)[rlK g i+j]?=some (smsN b.st+1,r.ps.length+b.ps.length):=by
   rw [comp_ln h]
   unfold rlK
   rw [Nat.add_assoc,List.getElem?_append_right (by rw [List.length_map]; omega),List.length_map,Nat.add_sub_cancel_left]
   rw [show (fun x=>(rlL x).length)=fun (r:Rl)=>r.on.length from funext rlL_len] at e0
   exact e0
 rw [List.getElem?_map] at e
 obtain ⟨f,h1,h2⟩:=Option.map_eq_some_iff.1 e
 unfold lnF at h2
 injection h2 with h2 h3
 exact ⟨f,h1,h2,h3⟩
theorem onsP_at:∀ (l:List Bd) (n j:Nat) (b:Bd),l[j]?=some b→(onsP n l)[j]?=some ⟨b.name,b.ps.length,n+j⟩
 | [],n,j,b,h=>by simp at h
 | x :: l,n,0,b,h=>by
   have e:x=b:=by simpa using h
   subst e
   rfl
 | x :: l,n,j+1,b,h=>by
   have h':l[j]?=some b:=by simpa using h
   rw [onsP,List.getElem?_cons_succ,onsP_at l (n+1) j b h']
   congr 2
   omega
theorem onsP_len:∀ (l:List Bd) (n:Nat),(onsP n l).length=l.length
 | [],n=>rfl
 | x :: l,n=>by rw [onsP,List.length_cons,onsP_len l,List.length_cons]
theorem rolesP_at:∀ (l:List Rl) (n i:Nat) (r:Rl),l[i]?=some r→(rolesP n l)[i]?=some ⟨r.name,r.ps.length,onsP (n+((l.take i).map fun r=>r.on.length).sum) r.on⟩
 | [],n,i,r,h=>by simp at h
 | x :: l,n,0,r,h=>by
   have e:x=r:=by simpa using h
   subst e
   rfl
 | x :: l,n,i+1,r,h=>by
   have h':l[i]?=some r:=by simpa using h
   rw [rolesP,List.getElem?_cons_succ,rolesP_at l (n+x.on.length) i r h',List.take_succ_cons,List.map_cons,List.sum_cons,Nat.add_assoc]
theorem rolesP_len:∀ (l:List Rl) (n:Nat),(rolesP n l).length=l.length
 | [],n=>rfl
 | x :: l,n=>by rw [rolesP,List.length_cons,rolesP_len l,List.length_cons]
theorem comp_rl {g:Pg} {i:Nat} {r:Rl} (hi:g.roles[i]?=some r):(compG g).roles[i]?=some ⟨r.name,r.ps.length,onsP (rlK g i) r.on⟩:=rolesP_at g.roles g.fns.length i r hi
theorem rlK_succ {g:Pg} {i:Nat} {r:Rl} (hi:g.roles[i]?=some r):rlK g (i+1)=rlK g i+r.on.length:=by
 have hl:=(List.getElem?_eq_some_iff.1 hi).1
 have e:=(List.getElem?_eq_some_iff.1 hi).2
 unfold rlK
 rw [List.take_add_one,hi]
 simp
 omega
theorem comp_cnt {g:Pg} (h:rightP g=true):(compG g).fns.length=rlK g g.roles.length:=by
 have e:=congrArg List.length (comp_ln h)
 rw [List.length_map,List.length_append,List.length_map,List.length_flatMap] at e
 unfold rlK
 rw [e,List.take_length]
 rw [show (fun x=>(rlL x).length)=fun (r:Rl)=>r.on.length from funext rlL_len]
end Go.Proofs.YtcmopnkldplngabGreatDoor
namespace Go.Proofs.YtcmopnkldplngabGreatDoor
open Go.RowKit
set_option linter.unusedVariables false
section
variable {w w':World} {b:Nat}
theorem own_form {e:TypeId} {sz n:Nat} {v:Value} {xs:List Value} (h:w.ownsRow b e sz v n xs):∃ A c,v = .slice A n c∧n≤c∧c≤maxLen∧(0<n→∃ g,A=some ⟨g,0,none⟩∧b≤g∧g<w.heap.size∧∀ j u,xs[j]?=some u→w.cell? ⟨g,j,none⟩=some u):=by
 have h':=h
 rcases h.2 with ⟨h1,h2⟩ | ⟨g,cap,cur,he,hb,hh,h3,h4, _⟩
 · exact ⟨none,0,by rw [h1,h2],by omega,by unfold maxLen; omega,fun hn=>by omega⟩
 · refine ⟨_,cap,he,h3,h4,fun _ => ⟨g,rfl,hb,lt_heap hh,fun j u hu=>?_⟩⟩
   have:=World.ownsRow.cells h' (g:=g) (by rw [he]; rfl) j u hu
   rw [Addr.add_lit] at this
   simpa using this
theorem FnsX.at:∀ (l:List Fnc) (xs:List Value),FnsX w b l xs→∀ (i:Nat) (f:Fnc),l[i]?=some f→∃ k,xs[i*4]?=some (.string (strOf f.name))∧xs[i*4+1]?=some (.int .i64 (f.params:Int))∧xs[i*4+2]?=some (.int .i64 (f.vars:Int))∧xs[i*4+3]?=some k∧w.ownsRow b 45 3 k f.code.length (ivs f.code)
 | [], _, _,i,f,h=>by simp at h
 | g :: r,xs,⟨k,ys,h1,h2,h3⟩,0,f,h=>by
   have e:g=f:=by simpa using h
   subst e
   subst h1
   exact ⟨k,rfl,rfl,rfl,rfl,h2⟩
 | g :: r,xs,⟨k,ys,h1,h2,h3⟩,i+1,f,h=>by
   have h':r[i]?=some f:=by simpa using h
   obtain ⟨k',e0,e1,e2,e3,e4⟩:=FnsX.at r ys h3 i f h'
   subst h1
   have key:∀ j,([Value.string (strOf g.name),.int .i64 (g.params:Int),.int .i64 (g.vars:Int),k] ++ ys)[(i+1)*4+j]?=ys[i*4+j]?:=fun j=>by
     rw [List.getElem?_append_right (by simp; omega)]
     congr 1
     simp
     omega
   exact ⟨k',(key 0).trans e0,(key 1).trans e1,(key 2).trans e2,(key 3).trans e3,e4⟩
theorem PrtX.at:∀ (l:List Prt) (xs:List Value),PrtX w b l xs→∀ (i:Nat) (f:Prt),l[i]?=some f→∃ k,xs[i*3]?=some (.string (strOf f.name))∧xs[i*3+1]?=some (.int .i64 (f.params:Int))∧xs[i*3+2]?=some k∧w.ownsRow b 102 3 k f.on.length (onVs f.on)
 | [], _, _,i,f,h=>by simp at h
 | g :: r,xs,⟨k,ys,h1,h2,h3⟩,0,f,h=>by
   have e:g=f:=by simpa using h
   subst e
   subst h1
   exact ⟨k,rfl,rfl,rfl,h2⟩
 | g :: r,xs,⟨k,ys,h1,h2,h3⟩,i+1,f,h=>by
   have h':r[i]?=some f:=by simpa using h
   obtain ⟨k',e0,e1,e2,e4⟩:=PrtX.at r ys h3 i f h'
   subst h1
   have key:∀ j,([Value.string (strOf g.name),.int .i64 (g.params:Int),k] ++ ys)[(i+1)*3+j]?=ys[i*3+j]?:=fun j=>by
     rw [List.getElem?_append_right (by simp; omega)]
     congr 1
     simp
     omega
   exact ⟨k',(key 0).trans e0,(key 1).trans e1,(key 2).trans e2,e4⟩
theorem ivs_at:∀ (l:List In3) (i:Nat) (x:In3),l[i]?=some x→(ivs l)[i*3]?=some (.int .u8 (x.op:Int))∧(ivs l)[i*3+1]?=some (.int .i64 x.a)∧(ivs l)[i*3+2]?=some (.int .i64 x.b)
 | [],i,x,h=>by simp at h
 | y :: r,0,x,h=>by
   have e:y=x:=by simpa using h
   subst e
   exact ⟨rfl,rfl,rfl⟩
 | y :: r,i+1,x,h=>by
   have h':r[i]?=some x:=by simpa using h
   obtain ⟨e0,e1,e2⟩:=ivs_at r i x h'
   have key:∀ j,(ivs (y :: r))[(i+1)*3+j]?=(ivs r)[i*3+j]?:=fun j=>by
     show ([Value.int .u8 (y.op:Int),.int .i64 y.a,.int .i64 y.b] ++ ivs r)[(i+1)*3+j]? = _
     rw [List.getElem?_append_right (by simp; omega)]
     congr 1
     simp
     omega
   exact ⟨(key 0).trans e0,(key 1).trans e1,(key 2).trans e2⟩
theorem onVs_at:∀ (l:List Onn) (i:Nat) (x:Onn),l[i]?=some x→(onVs l)[i*3]?=some (.string (strOf x.tag))∧(onVs l)[i*3+1]?=some (.int .i64 (x.params:Int))∧(onVs l)[i*3+2]?=some (.int .i64 (x.fn:Int))
 | [],i,x,h=>by simp at h
 | y :: r,0,x,h=>by
   have e:y=x:=by simpa using h
   subst e
   exact ⟨rfl,rfl,rfl⟩
 | y :: r,i+1,x,h=>by
   have h':r[i]?=some x:=by simpa using h
   obtain ⟨e0,e1,e2⟩:=onVs_at r i x h'
   have key:∀ j,(onVs (y :: r))[(i+1)*3+j]?=(onVs r)[i*3+j]?:=fun j=>by
     show ([Value.string (strOf y.tag),.int .i64 (y.params:Int),.int .i64 (y.fn:Int)] ++ onVs r)[(i+1)*3+j]? = _
     rw [List.getElem?_append_right (by simp; omega)]
     congr 1
     simp
     omega
   exact ⟨(key 0).trans e0,(key 1).trans e1,(key 2).trans e2⟩
theorem cvs_at:∀ (l:List Cst) (i:Nat) (x:Cst),l[i]?=some x→(cvs l)[i*4]?=some (.int .u8 (x.k:Int))∧(cvs l)[i*4+1]?=some (.int .i64 x.n)∧(cvs l)[i*4+2]?=some (.string (strOf x.s))∧(cvs l)[i*4+3]?=some (.slice none 0 0)
 | [],i,x,h=>by simp at h
 | y :: r,0,x,h=>by
   have e:y=x:=by simpa using h
   subst e
   exact ⟨rfl,rfl,rfl,rfl⟩
 | y :: r,i+1,x,h=>by
   have h':r[i]?=some x:=by simpa using h
   obtain ⟨e0,e1,e2,e3⟩:=cvs_at r i x h'
   have key:∀ j,(cvs (y :: r))[(i+1)*4+j]?=(cvs r)[i*4+j]?:=fun j=>by
     show ([Value.int .u8 (y.k:Int),.int .i64 y.n,.string (strOf y.s),.slice none 0 0] ++ cvs r)[(i+1)*4+j]? = _
     rw [List.getElem?_append_right (by simp; omega)]
     congr 1
     simp
     omega
   exact ⟨(key 0).trans e0,(key 1).trans e1,(key 2).trans e2,(key 3).trans e3⟩
def InsC (w:World) (b:Nat) (k:Value) (l:List In3):Prop:=∃ A c,k = .slice A l.length c∧l.length≤c∧c≤maxLen∧∀ i x,l[i]?=some x→∃ g,A=some ⟨g,0,none⟩∧b≤g∧g<w.heap.size∧w.cell? ⟨g,i*3,none⟩=some (.int .u8 (x.op:Int))∧w.cell? ⟨g,i*3+1,none⟩=some (.int .i64 x.a)∧w.cell? ⟨g,i*3+2,none⟩=some (.int .i64 x.b)
def OnsC (w:World) (b:Nat) (k:Value) (l:List Onn):Prop:=∃ A c,k = .slice A l.length c∧l.length≤c∧c≤maxLen∧∀ i x,l[i]?=some x→∃ g,A=some ⟨g,0,none⟩∧b≤g∧g<w.heap.size∧w.cell? ⟨g,i*3,none⟩=some (.string (strOf x.tag))∧w.cell? ⟨g,i*3+1,none⟩=some (.int .i64 (x.params:Int))∧w.cell? ⟨g,i*3+2,none⟩=some (.int .i64 (x.fn:Int))
def FnsC (w:World) (b:Nat) (k:Value) (l:List Fnc):Prop:=∃ A c,k = .slice A l.length c∧l.length≤c∧c≤maxLen∧∀ i x,l[i]?=some x→∃ g u,A=some ⟨g,0,none⟩∧b≤g∧g<w.heap.size∧w.cell? ⟨g,i*4,none⟩=some (.string (strOf x.name))∧w.cell? ⟨g,i*4+1,none⟩=some (.int .i64 (x.params:Int))∧w.cell? ⟨g,i*4+2,none⟩=some (.int .i64 (x.vars:Int))∧w.cell? ⟨g,i*4+3,none⟩=some u∧InsC w b u x.code
def PrtC (w:World) (b:Nat) (k:Value) (l:List Prt):Prop:=∃ A c,k = .slice A l.length c∧l.length≤c∧c≤maxLen∧∀ i x,l[i]?=some x→∃ g u,A=some ⟨g,0,none⟩∧b≤g∧g<w.heap.size∧w.cell? ⟨g,i*3,none⟩=some (.string (strOf x.name))∧w.cell? ⟨g,i*3+1,none⟩=some (.int .i64 (x.params:Int))∧w.cell? ⟨g,i*3+2,none⟩=some u∧OnsC w b u x.on
def CstC (w:World) (b:Nat) (k:Value) (l:List Cst):Prop:=∃ A c,k = .slice A l.length c∧l.length≤c∧c≤maxLen∧∀ i x,l[i]?=some x→∃ g,A=some ⟨g,0,none⟩∧b≤g∧g<w.heap.size∧w.cell? ⟨g,i*4,none⟩=some (.int .u8 (x.k:Int))∧w.cell? ⟨g,i*4+1,none⟩=some (.int .i64 x.n)∧w.cell? ⟨g,i*4+2,none⟩=some (.string (strOf x.s))∧w.cell? ⟨g,i*4+3,none⟩=some (.slice none 0 0)
def TagC (w:World) (b:Nat) (k:Value) (l:Tss):Prop:=∃ A c,k = .slice A l.length c∧l.length≤c∧c≤maxLen∧∀ i x,l[i]?=some x→∃ g,A=some ⟨g,0,none⟩∧b≤g∧g<w.heap.size∧w.cell? ⟨g,i,none⟩=some (.string (strOf x))
theorem len_pos {α:Type} {l:List α} {i:Nat} {x:α} (h:l[i]?=some x):0<l.length:=by
 have:=(List.getElem?_eq_some_iff.1 h).1
 omega
theorem InsC.of {k:Value} {l:List In3} (h:w.ownsRow b 45 3 k l.length (ivs l)):InsC w b k l:=by
 obtain ⟨A,c,h1,h2,h3,h4⟩:=own_form h
 refine ⟨A,c,h1,h2,h3,fun i x hx=>?_⟩
 obtain ⟨g,e1,e2,e3,e4⟩:=h4 (len_pos hx)
 obtain ⟨u0,u1,u2⟩:=ivs_at l i x hx
 exact ⟨g,e1,e2,e3,e4 _ _ u0,e4 _ _ u1,e4 _ _ u2⟩
theorem OnsC.of {k:Value} {l:List Onn} (h:w.ownsRow b 102 3 k l.length (onVs l)):OnsC w b k l:=by
 obtain ⟨A,c,h1,h2,h3,h4⟩:=own_form h
 refine ⟨A,c,h1,h2,h3,fun i x hx=>?_⟩
 obtain ⟨g,e1,e2,e3,e4⟩:=h4 (len_pos hx)
 obtain ⟨u0,u1,u2⟩:=onVs_at l i x hx
 exact ⟨g,e1,e2,e3,e4 _ _ u0,e4 _ _ u1,e4 _ _ u2⟩
structure ModC (w:World) (b:Nat) (m:Md) (vc vt vF vR:Value):Prop where
 c:CstC w b vc m.cs
 t:TagC w b vt m.ts
 f:FnsC w b vF m.fns
 r:PrtC w b vR m.roles
theorem ModV.cells {m:Md} {v:Value} (h:ModV w b m v):∃ vc vt vF vR,v = .agg #[vc,vt,vF,vR]∧ModC w b m vc vt vF vR:=by
 obtain ⟨vc,vt,vF,vR,e,hc,ht,⟨xf,hf,hf2⟩,⟨xr,hr,hr2⟩⟩:=h
 refine ⟨vc,vt,vF,vR,e,?_,?_,?_,?_⟩
 · obtain ⟨A,c,h1,h2,h3,h4⟩:=own_form hc
   refine ⟨A,c,h1,h2,h3,fun i x hx=>?_⟩
   obtain ⟨g,e1,e2,e3,e4⟩:=h4 (len_pos hx)
   obtain ⟨u0,u1,u2,u3⟩:=cvs_at _ i x hx
   exact ⟨g,e1,e2,e3,e4 _ _ u0,e4 _ _ u1,e4 _ _ u2,e4 _ _ u3⟩
 · obtain ⟨A,c,h1,h2,h3,h4⟩:=own_form ht
   refine ⟨A,c,h1,h2,h3,fun i x hx=>?_⟩
   obtain ⟨g,e1,e2,e3,e4⟩:=h4 (len_pos hx)
   exact ⟨g,e1,e2,e3,e4 _ _ (by unfold tvs; rw [List.getElem?_map,hx]; rfl)⟩
 · obtain ⟨A,c,h1,h2,h3,h4⟩:=own_form hf
   refine ⟨A,c,h1,h2,h3,fun i x hx=>?_⟩
   obtain ⟨g,e1,e2,e3,e4⟩:=h4 (len_pos hx)
   obtain ⟨k,u0,u1,u2,u3,u4⟩:=FnsX.at _ _ hf2 i x hx
   exact ⟨g,k,e1,e2,e3,e4 _ _ u0,e4 _ _ u1,e4 _ _ u2,e4 _ _ u3,InsC.of u4⟩
 · obtain ⟨A,c,h1,h2,h3,h4⟩:=own_form hr
   refine ⟨A,c,h1,h2,h3,fun i x hx=>?_⟩
   obtain ⟨g,e1,e2,e3,e4⟩:=h4 (len_pos hx)
   obtain ⟨k,u0,u1,u2,u4⟩:=PrtX.at _ _ hr2 i x hx
   exact ⟨g,k,e1,e2,e3,e4 _ _ u0,e4 _ _ u1,e4 _ _ u2,OnsC.of u4⟩
theorem InsC.below {k:Value} {l:List In3} (h:InsC w b k l) (hb:Below w.heap.size w w'):InsC w' b k l:=by
 obtain ⟨A,c,h1,h2,h3,h4⟩:=h
 refine ⟨A,c,h1,h2,h3,fun i x hx=>?_⟩
 obtain ⟨g,e1,e2,e3,u0,u1,u2⟩:=h4 i x hx
 exact ⟨g,e1,e2,Nat.lt_of_lt_of_le e3 hb.size,(hb.cell (p:=⟨g,i*3,none⟩) e3).trans u0,(hb.cell (p:=⟨g,i*3+1,none⟩) e3).trans u1,(hb.cell (p:=⟨g,i*3+2,none⟩) e3).trans u2⟩
theorem OnsC.below {k:Value} {l:List Onn} (h:OnsC w b k l) (hb:Below w.heap.size w w'):OnsC w' b k l:=by
 obtain ⟨A,c,h1,h2,h3,h4⟩:=h
 refine ⟨A,c,h1,h2,h3,fun i x hx=>?_⟩
 obtain ⟨g,e1,e2,e3,u0,u1,u2⟩:=h4 i x hx
 exact ⟨g,e1,e2,Nat.lt_of_lt_of_le e3 hb.size,(hb.cell (p:=⟨g,i*3,none⟩) e3).trans u0,(hb.cell (p:=⟨g,i*3+1,none⟩) e3).trans u1,(hb.cell (p:=⟨g,i*3+2,none⟩) e3).trans u2⟩
theorem FnsC.below {k:Value} {l:List Fnc} (h:FnsC w b k l) (hb:Below w.heap.size w w'):FnsC w' b k l:=by
 obtain ⟨A,c,h1,h2,h3,h4⟩:=h
 refine ⟨A,c,h1,h2,h3,fun i x hx=>?_⟩
 obtain ⟨g,u,e1,e2,e3,u0,u1,u2,u3,u4⟩:=h4 i x hx
 exact ⟨g,u,e1,e2,Nat.lt_of_lt_of_le e3 hb.size,(hb.cell (p:=⟨g,i*4,none⟩) e3).trans u0,(hb.cell (p:=⟨g,i*4+1,none⟩) e3).trans u1,(hb.cell (p:=⟨g,i*4+2,none⟩) e3).trans u2,(hb.cell (p:=⟨g,i*4+3,none⟩) e3).trans u3,u4.below hb⟩
theorem PrtC.below {k:Value} {l:List Prt} (h:PrtC w b k l) (hb:Below w.heap.size w w'):PrtC w' b k l:=by
 obtain ⟨A,c,h1,h2,h3,h4⟩:=h
 refine ⟨A,c,h1,h2,h3,fun i x hx=>?_⟩
 obtain ⟨g,u,e1,e2,e3,u0,u1,u2,u4⟩:=h4 i x hx
 exact ⟨g,u,e1,e2,Nat.lt_of_lt_of_le e3 hb.size,(hb.cell (p:=⟨g,i*3,none⟩) e3).trans u0,(hb.cell (p:=⟨g,i*3+1,none⟩) e3).trans u1,(hb.cell (p:=⟨g,i*3+2,none⟩) e3).trans u2,u4.below hb⟩
theorem CstC.below {k:Value} {l:List Cst} (h:CstC w b k l) (hb:Below w.heap.size w w'):CstC w' b k l:=by
 obtain ⟨A,c,h1,h2,h3,h4⟩:=h
 refine ⟨A,c,h1,h2,h3,fun i x hx=>?_⟩
 obtain ⟨g,e1,e2,e3,u0,u1,u2,u3⟩:=h4 i x hx
 exact ⟨g,e1,e2,Nat.lt_of_lt_of_le e3 hb.size,(hb.cell (p:=⟨g,i*4,none⟩) e3).trans u0,(hb.cell (p:=⟨g,i*4+1,none⟩) e3).trans u1,(hb.cell (p:=⟨g,i*4+2,none⟩) e3).trans u2,(hb.cell (p:=⟨g,i*4+3,none⟩) e3).trans u3⟩
theorem TagC.below {k:Value} {l:Tss} (h:TagC w b k l) (hb:Below w.heap.size w w'):TagC w' b k l:=by
 obtain ⟨A,c,h1,h2,h3,h4⟩:=h
 refine ⟨A,c,h1,h2,h3,fun i x hx=>?_⟩
 obtain ⟨g,e1,e2,e3,u0⟩:=h4 i x hx
 exact ⟨g,e1,e2,Nat.lt_of_lt_of_le e3 hb.size,(hb.cell (p:=⟨g,i,none⟩) e3).trans u0⟩
theorem ModC.below {m:Md} {vc vt vF vR:Value} (h:ModC w b m vc vt vF vR) (hb:Below w.heap.size w w'):ModC w' b m vc vt vF vR:=⟨h.c.below hb,h.t.below hb,h.f.below hb,h.r.below hb⟩
end
end Go.Proofs.YtcmopnkldplngabGreatDoor
