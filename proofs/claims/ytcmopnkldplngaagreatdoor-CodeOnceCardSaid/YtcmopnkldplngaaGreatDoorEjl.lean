/- Texts Ej,Ek,El of this seat in one: see each part. -/
import Derived.Deep.LoopGhost
import Derived.Deep.RegionHeld3
import Derived.Deep.Cut
import Derived.BigQuiet
import Derived.Deep.QuietTactic
import Derived.Deep.CutBlock
import Derived.Deep.CutRange
import Derived.Test.YtcmopnkldplngaaGreatDoorWbh
import Derived.Test.YtcmopnkldplngaaGreatDoorTbe
import Derived.Test.YtcmopnkldplngaaGreatDoorEf
import Derived.Test.YtcmopnkldplngaaGreatDoorCae
namespace Go.Proofs.YtcmopnkldplngaaGreatDoor
open Go.RowKit
set_option linter.unusedVariables false
set_option maxRecDepth 100000
def OutZ (w:World) (e:Ending) (w':World):Prop:=∃ z:Int,e = .returned (.int .i64 z)∧z≠0∧Below w.heap.size w w'
def ordI (a b:Int):Int:=if a<b then -1 else if b<a then 1 else 0
theorem ordI_ne {a b:Int} (h:a≠b):ordI a b≠0:=by
 unfold ordI
 split
 · omega
 · split
   · omega
   · omega
theorem ordI_eq (a:Int):ordI a a=0:=by
 unfold ordI
 rw [if_neg (by omega),if_neg (by omega)]
set_option maxHeartbeats 4000000 in
theorem order_any (a b:Int) (w:World):Calls Tryz.prog 63 #[.int .i64 a,.int .i64 b] w fun e w'=>e = .returned (.int .i64 (ordI a b))∧w'=w:=by
 unfold ordI
 by_cases h1:a<b
 · rw [if_pos h1]
   go_enter Tryz.func63,Tryz.ntmps63
   go_wp2_with fail
   go_ret
   exact ⟨rfl,rfl⟩
 · rw [if_neg h1]
   by_cases h2:b<a
   · rw [if_pos h2]
     go_enter Tryz.func63,Tryz.ntmps63
     go_wp2_with fail
     go_ret
     exact ⟨rfl,rfl⟩
   · rw [if_neg h2]
     go_enter Tryz.func63,Tryz.ntmps63
     go_wp2_with fail
     go_ret
     exact ⟨rfl,rfl⟩
abbrev cstV (k:Int) (n:Int) (S:ByteArray):Value := .agg #[.int .u8 k,.int .i64 n,.string S,.slice none 0 0]
abbrev cstO (k:Int) (n:Int) (S:ByteArray):Obj := .cells #[.int .u8 k,.int .i64 n,.string S,.slice none 0 0] 88
set_option maxHeartbeats 4000000 in
theorem cmp_kind (k k':Nat) (n n':Int) (S S':ByteArray) (h:(k:Int)≠(k':Int)) (hk:k<256) (hk':k'<256) (w:World) :
 Calls Tryz.prog 46 #[cstV k n S,cstV k' n' S',.int .i64 16] w (OutZ w):=by
 have HO:=Lib.hid (fun w=>order_any (k:Int) (k':Int) w)
 have hz:ordI (k:Int) (k':Int)≠0:=ordI_ne (by omega)
 generalize hx:ordI (k:Int) (k':Int)=x at *
 have hne:(x != 0)=true:=bne_iff_ne.2 hz
 have hq1:=heap_old (heap_new w (cstO k n S)) (cstO k' n' S')
 have hq2:=heap_new' (w.alloc (cstO k n S)) (cstO k' n' S') (w.heap.size+1) (by simp)
 have hb:=two w (cstO k n S) (cstO k' n' S')
 obtain ⟨W,hW⟩:∃ W,Hid ((w.alloc (cstO k n S)).alloc (cstO k' n' S')=W):=⟨_,Lib.hid rfl⟩
 rw [hW.out] at hq1 hq2 hb
 obtain ⟨⟨a0,a1,a2,a3⟩,-⟩:=box4f hq1
 obtain ⟨⟨b0,b1,b2,b3⟩,-⟩:=box4f hq2
 have HZ:=Lib.hid hz
 have HB:=Lib.hid hb
 have hl1:=lt_heap hq1
 have hl2:=lt_heap hq2
 clear hx hz hq1 hq2 hb h
 go_enter Tryz.func46,Tryz.ntmps46
 go_upto_region 1 with (fail)
 rw [hW.out]
 go_wp2_with (first
  | (go_at_call 63
     refine (HO.out _).mono ?_
     rintro e w1 ⟨rfl,rfl⟩)
  | (fail))
 go_ret
 exact ⟨x,rfl,HZ.out,HB.out⟩
set_option maxHeartbeats 8000000 in
theorem cmp_num (k:Int) (n n':Int) (S S':ByteArray) (h:n≠n') (hk:k=1∨k=2) (w:World) :
 Calls Tryz.prog 46 #[cstV k n S,cstV k n' S',.int .i64 16] w (OutZ w):=by
 have HO:=Lib.hid (fun w=>order_any k k w)
 have HN:=Lib.hid (fun w=>order_any n n' w)
 have hz:ordI n n'≠0:=ordI_ne h
 have hE:ordI k k=0:=ordI_eq _
 rw [hE] at HO
 generalize hx:ordI n n'=x at *
 have hq1:=heap_old (heap_new w (cstO k n S)) (cstO k n' S')
 have hq2:=heap_new' (w.alloc (cstO k n S)) (cstO k n' S') (w.heap.size+1) (by simp)
 have hb:=two w (cstO k n S) (cstO k n' S')
 obtain ⟨W,hW⟩:∃ W,Hid ((w.alloc (cstO k n S)).alloc (cstO k n' S')=W):=⟨_,Lib.hid rfl⟩
 rw [hW.out] at hq1 hq2 hb
 obtain ⟨⟨a0,a1,a2,a3⟩,-⟩:=box4f hq1
 obtain ⟨⟨b0,b1,b2,b3⟩,-⟩:=box4f hq2
 have HZ:=Lib.hid hz
 have HB:=Lib.hid hb
 have hl1:=lt_heap hq1
 have hl2:=lt_heap hq2
 clear hx hz hq1 hq2 hb h hE
 rcases hk with rfl | rfl
 · go_enter Tryz.func46,Tryz.ntmps46
   go_upto_region 1 with (fail)
   rw [hW.out]
   go_upto_region 8 with (first
    | (go_at_call 63
       refine (HO.out _).mono ?_
       rintro e w1 ⟨rfl,rfl⟩)
    | (fail))
   go_wp2_with (first
    | (go_at_call 63
       refine (HN.out _).mono ?_
       rintro e w1 ⟨rfl,rfl⟩)
    | (fail))
   go_ret
   exact ⟨x,rfl,HZ.out,HB.out⟩
 · go_enter Tryz.func46,Tryz.ntmps46
   go_upto_region 1 with (fail)
   rw [hW.out]
   go_upto_region 8 with (first
    | (go_at_call 63
       refine (HO.out _).mono ?_
       rintro e w1 ⟨rfl,rfl⟩)
    | (fail))
   go_wp2_with (first
    | (go_at_call 63
       refine (HN.out _).mono ?_
       rintro e w1 ⟨rfl,rfl⟩)
    | (fail))
   go_ret
   exact ⟨x,rfl,HZ.out,HB.out⟩
set_option maxHeartbeats 8000000 in
theorem cmp_txt (T T':List Nat) (h:T≠T') (h8:∀ x∈T,x<256) (h8':∀ x∈T',x<256) (hl:T.length≤140737488355328) (hl':T'.length≤140737488355328) (n n':Int) (w:World) :
 Calls Tryz.prog 46 #[cstV 3 n (strOf T),cstV 3 n' (strOf T'),.int .i64 16] w (OutZ w):=by
 have HO:=Lib.hid (fun w=>order_any 3 3 w)
 rw [ordI_eq] at HO
 have HS:=Lib.hid (strIs T h8)
 have HS':=Lib.hid (strIs T' h8')
 have HN:=Lib.hid h
 generalize strOf T=S at *
 generalize strOf T'=S' at *
 have hz:=HS.out.1
 have hz':=HS'.out.1
 obtain ⟨m,hm⟩:∃ n,Hid (T.length=n):=⟨_,Lib.hid rfl⟩
 obtain ⟨m',hm'⟩:∃ n,Hid (T'.length=n):=⟨_,Lib.hid rfl⟩
 rw [hm.out] at hz hl
 rw [hm'.out] at hz' hl'
 have HL:=Lib.hid (fun w=>order_any (m:Int) (m':Int) w)
 have HX:=Lib.hid (fun (a b:Nat) w=>order_any (a:Int) (b:Int) w)
 have hq1:=heap_old (heap_new w (cstO 3 n S)) (cstO 3 n' S')
 have hq2:=heap_new' (w.alloc (cstO 3 n S)) (cstO 3 n' S') (w.heap.size+1) (by simp)
 have hb:=two w (cstO 3 n S) (cstO 3 n' S')
 obtain ⟨W,hW⟩:∃ W,Hid ((w.alloc (cstO 3 n S)).alloc (cstO 3 n' S')=W):=⟨_,Lib.hid rfl⟩
 rw [hW.out] at hq1 hq2 hb
 obtain ⟨⟨a0,a1,a2,a3⟩,-⟩:=box4f hq1
 obtain ⟨⟨b0,b1,b2,b3⟩,-⟩:=box4f hq2
 have HB:=Lib.hid hb
 have HQ1:=Lib.hid hq1
 have HQ2:=Lib.hid hq2
 have hs1:=lt_heap hq1
 have hs2:=lt_heap hq2
 clear hq1 hq2 hb h h8 h8'
 go_enter Tryz.func46,Tryz.ntmps46
 go_upto_region 1 with (fail)
 rw [hW.out]
 go_upto_region 9 with (first
  | (go_at_call 63
     refine (HO.out _).mono ?_
     rintro e w1 ⟨rfl,rfl⟩)
  | (fail))
 go_wp2_with fail
 have HBW:Hid (Below w.heap.size w w1):=HB
 clear a0 a1 a2 a3 b0 b1 b2 b3
 go_loopg [8] m (fun g i wr=>∃ (j k:Nat),j+g=m∧j≤m'∧i = .int .i64 (j:Int)∧Hid (wr=w1.drewN k)∧Hid (T.take j=T'.take j))
 case atStart=>exact ⟨0,0,by omega,by omega,rfl,Lib.hid rfl,Lib.hid (by rw [List.take_zero,List.take_zero])⟩
 case round =>
  obtain ⟨j,k,hj,hj',rfl,HWR,HT⟩:=hrel
  have HBR:Hid (Below w.heap.size w wr):=Lib.hid (by rw [HWR.out]; exact below_drewN HBW.out k)
  have hq1:wr.heap[w.heap.size]?=some (cstO 3 n S):=by rw [HWR.out]; exact HQ1.out
  have hq2:wr.heap[w.heap.size+1]?=some (cstO 3 n' S'):=by rw [HWR.out]; exact HQ2.out
  obtain ⟨⟨a0,a1,a2,a3⟩,-⟩:=box4f hq1
  obtain ⟨⟨b0,b1,b2,b3⟩,-⟩:=box4f hq2
  have hl1:=lt_heap hq1
  have hl2:=lt_heap hq2
  clear hq1 hq2
  by_cases hend:j<m∧j<m'
  · obtain ⟨h1,h2⟩:=hend
    have hjS:j<S.size:=by omega
    have hjS':j<S'.size:=by omega
    have hjT:j<T.length:=by rw [hm.out]; exact h1
    have hjT':j<T'.length:=by rw [hm'.out]; exact h2
    have hx:=HS.out.2 j hjT hjS
    have hy:=HS'.out.2 j hjT' hjS'
    have HTN:Hid (T[j]=T'[j]→T.take (j+1)=T'.take (j+1)):=Lib.hid (fun h=>by
     rw [List.take_add_one,List.take_add_one,HT.out,List.getElem?_eq_getElem hjT,List.getElem?_eq_getElem hjT',h])
    generalize T[j]=x at *
    generalize T'[j]=y at *
    have i1:(j:Int)<(m:Int):=by omega
    have i2:(j:Int)<(m':Int):=by omega
    by_cases hxy:x=y
    · subst hxy
      have HTX:=Lib.hid (HTN.out rfl)
      cases gk with
      | zero=>omega
      | succ g =>
       clear hjT hjT' HTN
       go_wp2_with fail
       go_quiet (fail)
       go_wp2_with fail
       go_roundg g
       case measure=>omega
       case rel=>exact ⟨j+1,k+nq,by omega,by omega,by go_num,Lib.hid (by rw [HWR.out,World.drewN_drewN]),HTX⟩
    · have hne:((x:Int) != (y:Int))=true:=bne_iff_ne.2 (by omega)
      have HZ:Hid (ordI (x:Int) (y:Int)≠0):=Lib.hid (ordI_ne (by omega))
      have HXY:=Lib.hid (fun w=>HX.out x y w)
      generalize ordI (x:Int) (y:Int)=z at *
      have hx6:x<256:=by rw [← hx]; exact UInt8.toNat_lt _
      have hy6:y<256:=by rw [← hy]; exact UInt8.toNat_lt _
      have wx:IntKind.i64.wrap (x:Int)=(x:Int):=IntWalk.i64_in _ (by omega)
      have wy:IntKind.i64.wrap (y:Int)=(y:Int):=IntWalk.i64_in _ (by omega)
      clear hjT hjT' HTN hxy
      go_wp2_with fail
      go_quiet (fail)
      go_wp2_with fail
      go_quiet (first
       | (go_at_call 63
          exact (HXY.out _).mono (fun e w2 h=>⟨h.1, _,h.2⟩))
       | (fail))
      go_wp2_with fail
      go_ret
      exact ⟨z,rfl,HZ.out,below_drewN (below_drewN HBR.out _) _⟩
  · have hne:m≠m':=fun e=>HN.out (by
     have e1:j=m:=by omega
     have:=HT.out
     rw [List.take_of_length_le (by rw [hm.out]; omega),List.take_of_length_le (by rw [hm'.out]; omega)] at this
     exact this)
    have HZ:Hid (ordI (m:Int) (m':Int)≠0):=Lib.hid (ordI_ne (by omega))
    have HLL:=Lib.hid (fun w=>HL.out w)
    generalize ordI (m:Int) (m':Int)=z at *
    by_cases h1:j<m
    · have i1:(j:Int)<(m:Int):=by omega
      have i2:¬ (j:Int)<(m':Int):=by omega
      clear hend hne
      go_wp2_with (first
       | (go_at_call 63
          refine (HLL.out _).mono ?_
          rintro e w3 ⟨rfl,rfl⟩)
       | (fail))
      go_ret
      exact ⟨z,rfl,HZ.out,HBR.out⟩
    · have i1:¬ (j:Int)<(m:Int):=by omega
      clear hend hne
      go_wp2_with (first
       | (go_at_call 63
          refine (HLL.out _).mono ?_
          rintro e w3 ⟨rfl,rfl⟩)
       | (fail))
      go_ret
      exact ⟨z,rfl,HZ.out,HBR.out⟩
end Go.Proofs.YtcmopnkldplngaaGreatDoor
namespace Go.Proofs.YtcmopnkldplngaaGreatDoor
open Go.RowKit
set_option linter.unusedVariables false
set_option maxRecDepth 100000
def Gtx (s:List Nat):Prop:=(∀ y∈s,y<256)∧s.length≤140737488355328
theorem pe_ex {X:World} {S:Nat→Prop}:∀ (N:Nat) (x:Ex) (v:Value),SizeOf.sizeOf x<N→Rd X S x.nd v→PE Gtx x
 | 0,x,v,h, _ => absurd h (by omega)
 | N+1,.mk k s m l,v,h,hr=>by
  obtain ⟨y,-,h8,hl,hy⟩:=(Ex.rd k s m l v).1 hr
  rw [PE]
  refine ⟨⟨h8,hl⟩,PEs.of fun x hx=>?_⟩
  obtain ⟨j,hj,rfl⟩:=List.mem_iff_getElem.1 hx
  rw [Rd] at hy
  obtain ⟨A,c,-,-,-,hrs⟩:=hy
  obtain ⟨b,o,vs,-,-,-,-,h1⟩:=hrs.at j (Ex.nd l[j]) (by simp [hj])
  have:=List.sizeOf_lt_of_mem hx
  exact pe_ex N _ _ (by simp at h; omega) h1
theorem pe_row {X:World} {S:Nat→Prop} {l:List Ex} {v:Value} (h:Rd X S (.row 4 (l.map Ex.nd)) v):PEs Gtx l:=PEs.of fun x hx=>by
 obtain ⟨j,hj,rfl⟩:=List.mem_iff_getElem.1 hx
 rw [Rd] at h
 obtain ⟨A,c,-,-,-,hrs⟩:=h
 obtain ⟨b,o,vs,-,-,-,-,h1⟩:=hrs.at j (Ex.nd l[j]) (by simp [hj])
 exact pe_ex _ _ _ (Nat.lt_succ_self _) h1
theorem ps_sm {X:World} {S:Nat→Prop}:∀ (N:Nat) (x:Sm) (v:Value),SizeOf.sizeOf x<N→Rd X S x.nd v→PSm Gtx x
 | 0,x,v,h, _ => absurd h (by omega)
 | N+1,.mk k s xs bd el ln,v,h,hr=>by
  obtain ⟨y,z,u,-,h8,hl,h1,h2,h3⟩:=(Sm.rd k s xs bd el ln v).1 hr
  rw [PSm]
  refine ⟨⟨h8,hl⟩,pe_row h1,PSms.of fun x hx=>?_,PSms.of fun x hx=>?_⟩
  · obtain ⟨j,hj,rfl⟩:=List.mem_iff_getElem.1 hx
    rw [Rd] at h2
    obtain ⟨A,c,-,-,-,hrs⟩:=h2
    obtain ⟨b,o,vs,-,-,-,-,h1⟩:=hrs.at j (Sm.nd bd[j]) (by simp [hj])
    have:=List.sizeOf_lt_of_mem hx
    exact ps_sm N _ _ (by simp at h; omega) h1
  · obtain ⟨j,hj,rfl⟩:=List.mem_iff_getElem.1 hx
    rw [Rd] at h3
    obtain ⟨A,c,-,-,-,hrs⟩:=h3
    obtain ⟨b,o,vs,-,-,-,-,h1⟩:=hrs.at j (Sm.nd el[j]) (by simp [hj])
    have:=List.sizeOf_lt_of_mem hx
    exact ps_sm N _ _ (by simp at h; omega) h1
theorem ps_body {X:World} {S:Nat→Prop} {b:Bd} {v:Value} (h:Rd X S b.nd v):PSms Gtx b.st:=by
 obtain ⟨y,z,-,-,-,-,hz⟩:=(hd_rd b.name b.ps 6 (b.st.map Sm.nd) b.ln v).1 h
 refine PSms.of fun x hx=>?_
 obtain ⟨j,hj,rfl⟩:=List.mem_iff_getElem.1 hx
 rw [Rd] at hz
 obtain ⟨A,c,-,-,-,hrs⟩:=hz
 obtain ⟨b',o,vs,-,-,-,-,h1⟩:=hrs.at j (Sm.nd b.st[j]) (by simp [hj])
 exact ps_sm _ _ _ (Nat.lt_succ_self _) h1
theorem ps_bodies {X:World} {S:Nat→Prop} {l:List Bd} {v:Value} (h:Rd X S (.row 4 (l.map Bd.nd)) v):∀ b∈l,PSms Gtx b.st:=fun x hx=>by
 obtain ⟨j,hj,rfl⟩:=List.mem_iff_getElem.1 hx
 rw [Rd] at h
 obtain ⟨A,c,-,-,-,hrs⟩:=h
 obtain ⟨b,o,vs,-,-,-,-,h1⟩:=hrs.at j (Bd.nd l[j]) (by simp [hj])
 exact ps_body h1
theorem ps_prog {X:World} {S:Nat→Prop} {g:Pg} {v:Value} (h:Rd X S g.nd v):(∀ b∈g.fns,PSms Gtx b.st)∧∀ r∈g.roles,∀ b∈r.on,PSms Gtx b.st:=by
 obtain ⟨y,z,-,hy,hz⟩:=(Pg.rd g v).1 h
 refine ⟨ps_bodies hy,fun r hr=>?_⟩
 obtain ⟨j,hj,rfl⟩:=List.mem_iff_getElem.1 hr
 rw [Rd] at hz
 obtain ⟨A,c,-,-,-,hrs⟩:=hz
 obtain ⟨b,o,vs,-,-,-,-,h1⟩:=hrs.at j (Rl.nd g.roles[j]) (by simp [hj])
 obtain ⟨y2,z2,-,-,-,-,hz2⟩:=(hd_rd g.roles[j].name g.roles[j].ps 4 (g.roles[j].on.map Bd.nd) g.roles[j].ln _).1 h1
 exact ps_bodies hz2
theorem CstKt.lt {c:Cst} (h:CstKt c):c.k<256:=by
 rcases h with h | h | h <;> omega
theorem cmp_cst (c c':Cst) (h:c≠c') (hc:CstKt c∧Gtx c.s) (hc':CstKt c'∧Gtx c'.s) (w:World) :
 Calls Tryz.prog 46 #[cstV (c.k:Int) c.n (strOf c.s),cstV (c'.k:Int) c'.n (strOf c'.s),.int .i64 16] w (OutZ w):=by
 by_cases hk:c.k=c'.k
 · obtain ⟨k,n,s⟩:=c
   obtain ⟨k',n',s'⟩:=c'
   have hk:k=k':=hk
   subst hk
   obtain ⟨h1,h8,hl⟩:=hc
   obtain ⟨h1',h8',hl'⟩:=hc'
   rcases h1 with ⟨e1,e2⟩ | ⟨e1,e2⟩ | ⟨e1,e2⟩
   · have e1:k=1:=e1
     have e2:s=[]:=e2
     have e3:s'=[]:=by
      rcases h1' with ⟨_,e⟩ | ⟨_,e⟩ | ⟨e, _⟩
      · exact e
      · exact e
      · have e:k=3:=e
        omega
     subst e1 e2 e3
     exact cmp_num 1 n n' _ _ (fun e=>h (by rw [e])) (.inl rfl) w
   · have e1:k=2:=e1
     have e2:s=[]:=e2
     have e3:s'=[]:=by
      rcases h1' with ⟨_,e⟩ | ⟨_,e⟩ | ⟨e, _⟩
      · exact e
      · exact e
      · have e:k=3:=e
        omega
     subst e1 e2 e3
     exact cmp_num 2 n n' _ _ (fun e=>h (by rw [e])) (.inr rfl) w
   · have e1:k=3:=e1
     have e2:n=0:=e2
     have e3:n'=0:=by
      rcases h1' with ⟨e, _⟩ | ⟨e, _⟩ | ⟨_,e⟩
      · have e:k=1:=e
        omega
      · have e:k=2:=e
        omega
      · exact e
     subst e1 e2 e3
     exact cmp_txt s s' (fun e=>h (by rw [e])) h8 h8' hl hl' 0 0 w
 · exact cmp_kind c.k c'.k c.n c'.n _ _ (by omega) hc.1.lt hc'.1.lt w
set_option maxHeartbeats 4000000 in
theorem same_cst (c c':Cst) (h:c≠c') (hc:CstKt c∧Gtx c.s) (hc':CstKt c'∧Gtx c'.s) (w:World) :
 Calls Tryz.prog 20 #[cstV (c.k:Int) c.n (strOf c.s),cstV (c'.k:Int) c'.n (strOf c'.s)] w fun e w'=>e = .returned (.bool false)∧Below w.heap.size w w':=by
 have HC:=Lib.hid (fun w=>cmp_cst c c' h hc hc' w)
 generalize (c.k:Int)=k at *
 generalize (c'.k:Int)=k' at *
 generalize strOf c.s=S at *
 generalize strOf c'.s=S' at *
 generalize c.n=n at *
 generalize c'.n=n' at *
 clear h hc hc'
 have HCO:=Lib.hid (fun w=>show Calls Tryz.prog 31 #[cstV k n S,cstV k' n' S'] w (OutZ w) from by
  have hq1:=heap_old (heap_new w (cstO k n S)) (cstO k' n' S')
  have hq2:=heap_new' (w.alloc (cstO k n S)) (cstO k' n' S') (w.heap.size+1) (by simp)
  have hb:=two w (cstO k n S) (cstO k' n' S')
  obtain ⟨W,hW⟩:∃ W,Hid ((w.alloc (cstO k n S)).alloc (cstO k' n' S')=W):=⟨_,Lib.hid rfl⟩
  rw [hW.out] at hq1 hq2 hb
  obtain ⟨⟨a0,a1,a2,a3⟩,-⟩:=box4f hq1
  obtain ⟨⟨b0,b1,b2,b3⟩,-⟩:=box4f hq2
  have hl1:=lt_heap hq1
  have hl2:=lt_heap hq2
  have HB:=Lib.hid hb
  clear hq1 hq2 hb
  go_enter Tryz.func31,Tryz.ntmps31
  go_upto_region 1 with (fail)
  rw [hW.out]
  go_wp2_with (first
   | (go_at_call 46
      refine (HC.out _).mono ?_
      rintro e w1 ⟨z,rfl,hz,hb1⟩
      have HZ:=Lib.hid hz
      have HB1:=Lib.hid (HB.out.trans (hb1.mono HB.out.size))
      clear hz hb1)
   | (fail))
  go_ret
  exact ⟨z,rfl,HZ.out,HB1.out⟩)
 have hq1:=heap_old (heap_new w (cstO k n S)) (cstO k' n' S')
 have hq2:=heap_new' (w.alloc (cstO k n S)) (cstO k' n' S') (w.heap.size+1) (by simp)
 have hb:=two w (cstO k n S) (cstO k' n' S')
 obtain ⟨W,hW⟩:∃ W,Hid ((w.alloc (cstO k n S)).alloc (cstO k' n' S')=W):=⟨_,Lib.hid rfl⟩
 rw [hW.out] at hq1 hq2 hb
 obtain ⟨⟨a0,a1,a2,a3⟩,-⟩:=box4f hq1
 obtain ⟨⟨b0,b1,b2,b3⟩,-⟩:=box4f hq2
 have hl1:=lt_heap hq1
 have hl2:=lt_heap hq2
 have HB:=Lib.hid hb
 clear hq1 hq2 hb
 go_enter Tryz.func20,Tryz.ntmps20
 go_upto_region 1 with (fail)
 rw [hW.out]
 go_wp2_with (first
  | (go_at_call 31
     refine (HCO.out _).mono ?_
     rintro e w1 ⟨z,rfl,hz,hb1⟩
     have hz2:(z == 0)=false:=beq_eq_false_iff_ne.2 hz
     have HB1:=Lib.hid (HB.out.trans (hb1.mono HB.out.size))
     clear hz hb1)
  | (fail))
 go_ret
 exact ⟨rfl,HB1.out⟩
set_option maxHeartbeats 8000000 in
theorem samevals_cst (c c':Cst) (h:c≠c') (hc:CstKt c∧Gtx c.s) (hc':CstKt c'∧Gtx c'.s) (w:World) (g i j m m':Nat) (hg:g<w.heap.size) (hm:1≤m) (hm':1≤m')
 (h0:w.cell? ⟨g,i,none⟩=some (.int .u8 (c.k:Int))) (h1:w.cell? ⟨g,i+1,none⟩=some (.int .i64 c.n)) (h2:w.cell? ⟨g,i+2,none⟩=some (.string (strOf c.s))) (h3:w.cell? ⟨g,i+3,none⟩=some (.slice none 0 0))
 (k0:w.cell? ⟨g,j,none⟩=some (.int .u8 (c'.k:Int))) (k1:w.cell? ⟨g,j+1,none⟩=some (.int .i64 c'.n)) (k2:w.cell? ⟨g,j+2,none⟩=some (.string (strOf c'.s))) (k3:w.cell? ⟨g,j+3,none⟩=some (.slice none 0 0)) :
 Calls Tryz.prog 10 #[.slice (some ⟨g,i,none⟩) 1 m,.slice (some ⟨g,j,none⟩) 1 m'] w fun e w'=>e = .returned (.bool false)∧Below w.heap.size w w':=by
 have HC:=Lib.hid (fun w=>same_cst c c' h hc hc' w)
 generalize (c.k:Int)=k at *
 generalize (c'.k:Int)=k' at *
 generalize strOf c.s=S at *
 generalize strOf c'.s=S' at *
 generalize c.n=n at *
 generalize c'.n=n' at *
 clear h hc hc'
 go_enter Tryz.func10,Tryz.ntmps10
 go_wp2_with fail
 go_loopg [13] 1 (fun gh x wr=>gh=1∧x = .int .i64 0∧wr=w)
 case atStart=>exact ⟨rfl,rfl,rfl⟩
 case round =>
  obtain ⟨hgk,rfl,rfl⟩:=hrel
  go_upto_region 6 with (fail)
  go_region_held3 (fun w'=>(w'.cell? ⟨g,i,none⟩=some (.int .u8 k)∧w'.cell? ⟨g,i+1,none⟩=some (.int .i64 n)∧w'.cell? ⟨g,i+2,none⟩=some (.string S)∧w'.cell? ⟨g,i+3,none⟩=some (.slice none 0 0))∧w'.cell? ⟨g,j,none⟩=some (.int .u8 k')∧w'.cell? ⟨g,j+1,none⟩=some (.int .i64 n')∧w'.cell? ⟨g,j+2,none⟩=some (.string S')∧w'.cell? ⟨g,j+3,none⟩=some (.slice none 0 0)) (go_keep)
   (first
    | (go_at_call 20
       refine (HC.out _).mono ?_
       rintro e w2 ⟨rfl,hb2⟩
       have hb3:Below wr.heap.size wr w2:=by first | exact hb2 | exact ((Below.refl _ _).drew).trans hb2
       have HB2:=Lib.hid hb3
       have h0:=(hb3.cell (p:=⟨g,i,none⟩) hg).trans h0
       have h1:=(hb3.cell (p:=⟨g,i+1,none⟩) hg).trans h1
       have h2:=(hb3.cell (p:=⟨g,i+2,none⟩) hg).trans h2
       have h3:=(hb3.cell (p:=⟨g,i+3,none⟩) hg).trans h3
       have k0:=(hb3.cell (p:=⟨g,j,none⟩) hg).trans k0
       have k1:=(hb3.cell (p:=⟨g,j+1,none⟩) hg).trans k1
       have k2:=(hb3.cell (p:=⟨g,j+2,none⟩) hg).trans k2
       have k3:=(hb3.cell (p:=⟨g,j+3,none⟩) hg).trans k3
       clear hb2 hb3)
    | (fail))
  all_goals
   go_wp2_with fail
   go_ret
   exact ⟨rfl,HB2.out⟩
end Go.Proofs.YtcmopnkldplngaaGreatDoor
namespace Go.Proofs.YtcmopnkldplngaaGreatDoor
open Go.RowKit
set_option linter.unusedVariables false
set_option maxRecDepth 100000
set_option maxHeartbeats 8000000 in
theorem leaves_any (w:World) (gi L c:Nat) (code:List In3) (hL:code.length=L) (hc:L≤c) (hcm:c≤9223372036854775807) (hg:gi<w.heap.size)
 (hcell:∀ p x,code[p]?=some x→w.cell? ⟨gi,p*3,none⟩=some (.int .u8 (x.op:Int))∧w.cell? ⟨gi,p*3+1,none⟩=some (.int .i64 x.a)∧w.cell? ⟨gi,p*3+2,none⟩=some (.int .i64 x.b))
 (m i:Nat) (hi:i<L) (hex:∃ p u,m≤p∧p<i∧code[p]?=some u∧u.op=28∧u.a=(i:Int)+1) :
 Calls Tryz.prog 9 #[.slice (some ⟨gi,0,none⟩) L c,.int .i64 (m:Int),.int .i64 (i:Int)] w fun e w'=>e = .returned (.bool true)∧Below w.heap.size w w':=by
 have hmi:m<i:=by
  obtain ⟨p,u,h1,h2,-⟩:=hex
  omega
 have HC:=Lib.hid hcell
 have HX:=Lib.hid hex
 have HL:=Lib.hid hL
 have i1:(m:Int)≤(i:Int):=by omega
 have i2:(i:Int)≤(c:Int):=by omega
 have i3:(m:Int)<(c:Int):=by omega
 have i4:m≤c:=by omega
 clear hcell hex hL
 go_enter Tryz.func9,Tryz.ntmps9
 go_wp2_with fail
 obtain ⟨n,hn⟩:∃ n,i-m=n:=⟨_,rfl⟩
 rw [hn]
 go_loopg [14] n (fun gh x wr=>∃ j:Nat,j+gh=n∧x = .int .i64 (j:Int)∧Hid (∃ p u,m+j≤p∧p<i∧code[p]?=some u∧u.op=28∧u.a=(i:Int)+1)∧Hid (Below w.heap.size w wr))
 case atStart=>exact ⟨0,by omega,rfl,HX,Lib.hid (Below.refl _ _)⟩
 case round =>
  obtain ⟨j,hj,rfl,HP,HB⟩:=hrel
  obtain ⟨p,u,p1,p2,p3,p4,p5⟩:=HP.out
  cases gk with
  | zero=>omega
  | succ gh =>
   have h1:(j:Int)<(n:Int):=by omega
   have hjl:m+j<code.length:=by rw [HL.out]; omega
   obtain ⟨u0,u1,u2⟩:=HC.out (m+j) code[m+j] (List.getElem?_eq_getElem hjl)
   have HG:=Lib.hid (List.getElem?_eq_getElem hjl)
   generalize code[m+j]=x at *
   have hbr:gi<wr.heap.size:=Nat.lt_of_lt_of_le hg HB.out.size
   have e3:m*3+j*3=(m+j)*3:=by omega
   have y0:wr.cell? ⟨gi,m*3+j*3,none⟩=some (.int .u8 (x.op:Int)):=by rw [e3]; exact (HB.out.cell (p:=⟨gi,(m+j)*3,none⟩) hg).trans u0
   have y1:wr.cell? ⟨gi,m*3+j*3+1,none⟩=some (.int .i64 x.a):=by rw [e3]; exact (HB.out.cell (p:=⟨gi,(m+j)*3+1,none⟩) hg).trans u1
   have y2:wr.cell? ⟨gi,m*3+j*3+2,none⟩=some (.int .i64 x.b):=by rw [e3]; exact (HB.out.cell (p:=⟨gi,(m+j)*3+2,none⟩) hg).trans u2
   obtain ⟨W1,hW1⟩:∃ W,Hid (wr.alloc (.cells #[.int .u8 (x.op:Int),.int .i64 x.a,.int .i64 x.b] 57)=W):=⟨_,Lib.hid rfl⟩
   have hq1:=heap_new wr (.cells #[.int .u8 (x.op:Int),.int .i64 x.a,.int .i64 x.b] 57)
   have hb1:=(Below.refl wr.heap.size wr).alloc (Nat.le_refl _) (.cells #[.int .u8 (x.op:Int),.int .i64 x.a,.int .i64 x.b] 57)
   rw [hW1.out] at hq1 hb1
   have HB1:=Lib.hid (HB.out.trans (hb1.mono HB.out.size))
   have c0:=cell_block hq1 0
   have c1:=cell_block hq1 1
   have c2:=cell_block hq1 2
   have hs1:=lt_heap hq1
   have HPN:Hid (¬ (x.op=28∧x.a=(i:Int)+1)→∃ p u,m+(j+1)≤p∧p<i∧code[p]?=some u∧u.op=28∧u.a=(i:Int)+1):=Lib.hid (fun hne=>by
    refine ⟨p,u,?_,p2,p3,p4,p5⟩
    by_cases e:p=m+j
    · exfalso
      rw [e,HG.out] at p3
      have e2:x=u:=Option.some.inj p3
      exact hne (by rw [e2]; exact ⟨p4,p5⟩)
    · omega)
   obtain ⟨o,ho⟩:∃ o,x.op=o:=⟨_,rfl⟩
   obtain ⟨a,ha⟩:∃ o,x.a=o:=⟨_,rfl⟩
   rw [ho,ha] at HPN
   rw [ho] at y0 c0 hW1
   rw [ha] at y1 c1 hW1
   clear hq1 hb1 u0 u1 u2 p1 p2 p3 p4 p5 hjl e3 ho ha
   go_upto_region 4 with (fail)
   rw [hW1.out]
   by_cases ho:o=28
   · have k1:((o:Int) == 28)=true:=by rw [ho]; rfl
     by_cases ha:a=(i:Int)+1
     · have k2:(a == (i:Int)+1)=true:=by rw [ha]; exact beq_self_eq_true _
       clear ho ha HPN
       go_wp2_with fail
       go_ret
       exact ⟨rfl,HB1.out⟩
     · have k2:(a == (i:Int)+1)=false:=beq_eq_false_iff_ne.2 ha
       have HP2:=Lib.hid (HPN.out (fun h=>ha h.2))
       clear ho ha HPN
       go_wp2_with fail
       go_roundg gh
       case measure=>omega
       case rel=>exact ⟨j+1,by omega,by go_num,HP2,HB1⟩
   · have k1:((o:Int) == 28)=false:=beq_eq_false_iff_ne.2 (by omega)
     have HP2:=Lib.hid (HPN.out (fun h=>ho h.1))
     clear ho HPN
     go_wp2_with fail
     go_roundg gh
     case measure=>omega
     case rel=>exact ⟨j+1,by omega,by go_num,HP2,HB1⟩
end Go.Proofs.YtcmopnkldplngaaGreatDoor
