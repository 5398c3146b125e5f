/- droverlaw11.CodeOnce returns true whatever its argument: each constant and each tag of a module is there once,and is told by some instruction,or a body; jumps go back in a while alone. For every input,without conditions. -/
import Derived.Test.YtcmopnkldplngaaGreatDoorRow
import Derived.Test.YtcmopnkldplngaaGreatDoorEhd
import Derived.Test.YtcmopnkldplngaaGreatDoorEi
import Derived.Test.YtcmopnkldplngaaGreatDoorZhy
import Derived.Test.YtcmopnkldplngaaGreatDoorCards
import Derived.SevenTiedAt
import Derived.Test.YtcmopnkldplngaaGreatDoorEjl
import Derived.Test.YtcmopnkldplngaaGreatDoorCae
import Derived.Deep.LoopGhost
import Derived.Deep.Cut
import Derived.Deep.CutBlock
import Derived.Deep.CutRange
import Derived.Deep.RegionHeld3
import Derived.Deep.OwnRows
namespace Go.Proofs.YtcmopnkldplngaaGreatDoor.codeOnce
open Go.ChangeShapes Go.WideShapes Go.ChangeAt Go.RowKit
set_option linter.unusedVariables false
theorem not_huge {g:Pg} (h:(hgP 1500 60 g).isNone=false):ShN g.nd:=by
 cases hq:hgP 1500 60 g with
 | none=>rw [hq] at h; cases h
 | some n=>exact hgP_ok hq
theorem prog_rows {w:World} {S:Nat→Prop} {g:Pg} {A A2:Option Addr} {n m c d:Nat} (h:Rd w S g.nd (.agg #[.slice A n c,.slice A2 m d])):Rds w S A 4 0 (g.fns.map Bd.nd)∧Rds w S A2 4 0 (g.roles.map Rl.nd):=by
 obtain ⟨y,z,e,hy,hz⟩:=(Pg.rd g _).1 h
 rw [Rd] at hy hz
 obtain ⟨B,k,rfl,-,-,h1⟩:=hy
 obtain ⟨B2,k2,rfl,-,-,h2⟩:=hz
 injection e with e
 have e:=congrArg Array.toList e
 simp only [List.cons.injEq,Value.slice.injEq,and_true] at e
 obtain ⟨⟨rfl,-⟩,⟨rfl,-⟩⟩:=e
 exact ⟨h1,h2⟩
theorem fold_tot {E:Env}:∀ (l:List Bd) (m:Mk),(l.foldl (Mk.fn E) m).cs.length+(l.foldl (Mk.fn E) m).ts.length≤m.cs.length+m.ts.length+2*fnsT l
 | [],m=>by
  show _ ≤ _ + 2*0
  exact Nat.le_refl _
 | b :: r,m=>by
  have h1:=fold_tot (E:=E) r (m.fn E b)
  have h2:=fn_tot E m b
  have e:fnsT (b :: r)=bdT b+fnsT r:=rfl
  rw [List.foldl_cons,e]
  omega
theorem ons_tot {E:Env} {st:Tss}:∀ (l:List Bd) (m:Mk),(onsM E st m l).cs.length+(onsM E st m l).ts.length+(onsM E st m l).fns.length≤m.cs.length+m.ts.length+m.fns.length+2*fnsT l
 | [],m=>by
  show _ ≤ _ + 2*0
  exact Nat.le_refl _
 | b :: r,m=>by
  have h1:=ons_tot (E:=E) (st:=st) r (m.on E st b)
  have h2:=on_tot2 E st m b
  have e:fnsT (b :: r)=bdT b+fnsT r:=rfl
  rw [e]
  show (onsM E st (m.on E st b) r).cs.length+(onsM E st (m.on E st b) r).ts.length+(onsM E st (m.on E st b) r).fns.length ≤ _
  omega
theorem onT_ge (r:Rl):∀ l:List Bd,fnsT l≤onT r l
 | []=>Nat.le_refl _
 | b :: l=>by
  have h:=onT_ge r l
  have e1:onT r (b :: l)=(r.ps.length+bdT b)+onT r l:=rfl
  have e2:fnsT (b :: l)=bdT b+fnsT l:=rfl
  omega
theorem roles_tot {E:Env}:∀ (l:List Rl) (m:Mk),(rolesM E m l).cs.length+(rolesM E m l).ts.length+(rolesM E m l).fns.length≤m.cs.length+m.ts.length+m.fns.length+2*rlsT l
 | [],m=>by
  rw [rolesM]
  show _ ≤ _ + 2*0
  exact Nat.le_refl _
 | r :: l,m=>by
  have h1:=roles_tot (E:=E) l (onsM E r.ps m r.on)
  have h2:=ons_tot (E:=E) (st:=r.ps) r.on m
  have h3:=onT_ge r r.on
  have e:rlsT (r :: l)=(onT r r.on+1)+rlsT l:=rfl
  rw [rolesM,e]
  omega
theorem fold_len2 {E:Env}:∀ (l:List Bd) (m:Mk),(l.foldl (Mk.fn E) m).fns.length=m.fns.length+l.length
 | [],m=>rfl
 | b :: r,m=>by
  rw [List.foldl_cons,fold_len2 r]
  show (m.fns ++ [_]).length + _ = _
  simp
  omega
theorem comp_tot {g:Pg} (h:rightP g=true):(compG g).cs.length+(compG g).ts.length≤600000:=by
 obtain ⟨hl,hT,-⟩:=rightP_T h
 have h1:=roles_tot (E:=envP g) g.roles (g.fns.foldl (Mk.fn (envP g)) ⟨[],[],[]⟩)
 have h2:=fold_tot (E:=envP g) g.fns ⟨[],[],[]⟩
 have h3:=fold_len2 (E:=envP g) g.fns ⟨[],[],[]⟩
 have e:totT g=fnsT g.fns+rlsT g.roles:=rfl
 have e0:(Mk.mk [] [] []).cs.length=0:=rfl
 have e1:(Mk.mk [] [] []).ts.length=0:=rfl
 have e2:(Mk.mk [] [] []).fns.length=0:=rfl
 show (rolesM (envP g) (g.fns.foldl (Mk.fn (envP g)) ⟨[],[],[]⟩) g.roles).cs.length+(rolesM (envP g) (g.fns.foldl (Mk.fn (envP g)) ⟨[],[],[]⟩) g.roles).ts.length≤600000
 omega
theorem bl_info:(Tryz.prog.info? 4).map (fun i=>(i.zero,i.size,i.bytes))=some (some (.bool false),1,1):=by kernel_rfl
def BlAt (w:World) (q:Nat) (l:List Bool):Prop:=w.heap[q]?=some (.cells (l.map Value.bool).toArray 4 (0,0))
def MkB (V:World) (nc nt:Nat) (c t:Value) (w:World):Prop:=∃ qc qt,c = .slice (some ⟨qc,0,none⟩) nc nc∧t = .slice (some ⟨qt,0,none⟩) nt nt∧V.heap.size≤qc∧V.heap.size≤qt∧qc≠qt∧BlAt w qc (List.replicate nc false)∧BlAt w qt (List.replicate nt false)∧Below V.heap.size V w
theorem made_bl (n:Nat):madeCells #[Value.bool false] n=((List.replicate n false).map Value.bool).toArray:=by
 apply Array.ext'
 apply List.ext_getElem?
 intro i
 by_cases hi:i<n
 · simp [madeCells,hi,Nat.mod_one]
 · simp [madeCells,hi]
theorem BlAt.cell {w:World} {q a:Nat} {l:List Bool} {b:Bool} (h:BlAt w q l) (ha:l[a]?=some b):w.cell? ⟨q,a,none⟩=some (.bool b):=by
 rw [cell_block h a]
 simp [ha]
theorem BlAt.set {w:World} {q:Nat} {l:List Bool} (h:BlAt w q l) (a:Nat):BlAt (w.setCell ⟨q,a,none⟩ (.bool true)) q (l.set a true):=by
 have:=heap_set h a (.bool true)
 unfold BlAt
 rw [this]
 simp [List.map_set]
theorem BlAt.set_ne {w:World} {q q' a:Nat} {l:List Bool} {v:Value} (h:BlAt w q l) (hq:q≠q'):BlAt (w.setCell ⟨q',a,none⟩ v) q l:=heap_set_ne h hq a v
theorem BlAt.below {w w':World} {q:Nat} {l:List Bool} (h:BlAt w q l) (hb:Below w.heap.size w w'):BlAt w' q l:=heap_below h hb
structure OnSt (V:World) (qc qt nc nt:Nat) (w:World) (l1 l2:List Bool):Prop where
 c:BlAt w qc l1
 t:BlAt w qt l2
 n1:l1.length=nc
 n2:l2.length=nt
 q1:V.heap.size≤qc
 q2:V.heap.size≤qt
 ne:qc≠qt
 b:Below V.heap.size V w
section
variable {V w w':World} {qc qt nc nt a:Nat} {l1 l2:List Bool}
theorem OnSt.below (h:OnSt V qc qt nc nt w l1 l2) (hb:Below w.heap.size w w'):OnSt V qc qt nc nt w' l1 l2:=⟨h.c.below hb,h.t.below hb,h.n1,h.n2,h.q1,h.q2,h.ne,h.b.trans (hb.mono h.b.size)⟩
theorem OnSt.setC (h:OnSt V qc qt nc nt w l1 l2) (a:Nat):OnSt V qc qt nc nt (w.setCell ⟨qc,a,none⟩ (.bool true)) (l1.set a true) l2:=⟨h.c.set a,h.t.set_ne h.ne.symm,by rw [List.length_set]; exact h.n1,h.n2,h.q1,h.q2,h.ne,h.b.setCell h.q1 _⟩
theorem OnSt.setT (h:OnSt V qc qt nc nt w l1 l2) (a:Nat):OnSt V qc qt nc nt (w.setCell ⟨qt,a,none⟩ (.bool true)) l1 (l2.set a true):=⟨h.c.set_ne h.ne,h.t.set a,h.n1,by rw [List.length_set]; exact h.n2,h.q1,h.q2,h.ne,h.b.setCell h.q2 _⟩
end
def Cov (fns:List Fnc) (j i:Nat) (l1 l2:List Bool):Prop:=∀ f p F x,(f<j∨f=j∧p<i)→fns[f]?=some F→F.code[p]?=some x→(x.op=1→∀ a:Nat,x.a=(a:Int)→l1[a]?=some true)∧(x.op=24→∀ a:Nat,x.a=(a:Int)→l2[a]?=some true)
section
variable {fns:List Fnc} {j i a:Nat} {l1 l2:List Bool} {F:Fnc} {x:In3}
theorem Cov.zero:Cov fns 0 0 l1 l2:=fun f p F x h=>by omega
theorem Cov.next (h:Cov fns j i l1 l2) (hF:fns[j]?=some F) (hi:F.code.length≤i):Cov fns (j+1) 0 l1 l2:=fun f p G x hf hG hx=>by
 refine h f p G x ?_ hG hx
 by_cases e:f=j
 · subst e
   rw [hF] at hG
   cases hG
   have:=(List.getElem?_eq_some_iff.1 hx).1
   omega
 · omega
theorem Cov.step (h:Cov fns j i l1 l2) (hF:fns[j]?=some F) (hx:F.code[i]?=some x) (h1:x.op≠1) (h2:x.op≠24):Cov fns j (i+1) l1 l2:=fun f p G y hf hG hy=>by
 by_cases e:f=j∧p=i
 · obtain ⟨rfl,rfl⟩:=e
   rw [hF] at hG
   cases hG
   rw [hx] at hy
   cases hy
   exact ⟨fun e=>absurd e h1,fun e=>absurd e h2⟩
 · exact h f p G y (by omega) hG hy
theorem set_get {l:List Bool} {a b:Nat} (h:l[b]?=some true):(l.set a true)[b]?=some true:=by
 rw [List.getElem?_set]
 split
 · rename_i e
   subst e
   have:=(List.getElem?_eq_some_iff.1 h).1
   simp [this]
 · exact h
theorem Cov.stepC (h:Cov fns j i l1 l2) (hF:fns[j]?=some F) (hx:F.code[i]?=some x) (h1:x.op=1) (ha:x.a=(a:Int)) (hl:a<l1.length):Cov fns j (i+1) (l1.set a true) l2:=fun f p G y hf hG hy=>by
 by_cases e:f=j∧p=i
 · obtain ⟨rfl,rfl⟩:=e
   rw [hF] at hG
   cases hG
   rw [hx] at hy
   cases hy
   refine ⟨fun _ b hb=>?_,fun e=>by omega⟩
   have e:b=a:=by omega
   subst e
   rw [List.getElem?_set]
   simp [hl]
 · obtain ⟨k1,k2⟩:=h f p G y (by omega) hG hy
   exact ⟨fun e b hb=>set_get (k1 e b hb),k2⟩
theorem Cov.stepT (h:Cov fns j i l1 l2) (hF:fns[j]?=some F) (hx:F.code[i]?=some x) (h1:x.op=24) (ha:x.a=(a:Int)) (hl:a<l2.length):Cov fns j (i+1) l1 (l2.set a true):=fun f p G y hf hG hy=>by
 by_cases e:f=j∧p=i
 · obtain ⟨rfl,rfl⟩:=e
   rw [hF] at hG
   cases hG
   rw [hx] at hy
   cases hy
   refine ⟨fun e=>by omega,fun _ b hb=>?_⟩
   have e:b=a:=by omega
   subst e
   rw [List.getElem?_set]
   simp [hl]
 · obtain ⟨k1,k2⟩:=h f p G y (by omega) hG hy
   exact ⟨k1,fun e b hb=>set_get (k2 e b hb)⟩
theorem Cov.all (h:Cov fns fns.length 0 l1 l2) {n m:Nat} (hc:∀ i,i<n→Used 1 i (fns.map Fnc.code)) (ht:∀ i,i<m→Used 24 i (fns.map Fnc.code)):(∀ a,a<n→l1[a]?=some true)∧∀ a,a<m→l2[a]?=some true:=by
 have key:∀ o a,Used o a (fns.map Fnc.code)→∃ (f p:Nat) (F:Fnc) (x:In3),f<fns.length∧fns[f]?=some F∧F.code[p]?=some x∧x.op=o∧x.a=(a:Int):=fun o a hu=>by
  obtain ⟨c,hc,x,hx,e1,e2⟩:=hu
  obtain ⟨F,hF,rfl⟩:=List.mem_map.1 hc
  obtain ⟨f,hf,rfl⟩:=List.mem_iff_getElem.1 hF
  obtain ⟨p,hp,rfl⟩:=List.mem_iff_getElem.1 hx
  exact ⟨f,p, _, _,hf,List.getElem?_eq_getElem hf,List.getElem?_eq_getElem hp,e1,e2⟩
 refine ⟨fun a ha=>?_,fun a ha=>?_⟩
 · obtain ⟨f,p,F,x,h1,h2,h3,h4,h5⟩:=key 1 a (hc a ha)
   exact (h f p F x (.inl h1) h2 h3).1 h4 a h5
 · obtain ⟨f,p,F,x,h1,h2,h3,h4,h5⟩:=key 24 a (ht a ha)
   exact (h f p F x (.inl h1) h2 h3).2 h4 a h5
end
theorem nodup_ne {α:Type} {l:List α} (h:l.Nodup) {i k:Nat} {x y:α} (hk:k<i) (hx:l[i]?=some x) (hy:l[k]?=some y):x≠y:=by
 obtain ⟨h1,e1⟩:=List.getElem?_eq_some_iff.1 hx
 obtain ⟨h2,e2⟩:=List.getElem?_eq_some_iff.1 hy
 have:=List.pairwise_iff_getElem.1 h k i h2 h1 hk
 rw [e1,e2] at this
 exact fun e=>this e.symm
set_option maxRecDepth 100000 in
set_option maxHeartbeats 16000000 in
theorem walk (w : World) (htab:W11 w) (v0:Value) (w0:∃ g,Rw w (fun b=>b<w.heap.size) (Pg.nd g) v0∧NbP g∧B8P g∧g.fns.length+g.roles.length≤1125899906842624) :
 Calls Tryz.prog 4 #[v0] w fun e w'=>e = .returned (.bool true)∧Below w.heap.size w w':=by
 obtain ⟨g,hr,hnb,-,hlen⟩:=w0
 have HAW:=Lib.hid (fun W (hb:Below w.heap.size w W)=>awake11_any W (htab.below hb))
 obtain ⟨y,z,rfl,hy,hz⟩:=(Pg.rw g v0).1 hr
 rw [Rw] at hy hz
 obtain ⟨AF,cF,rfl,hcF,hcmF,-⟩:=hy
 obtain ⟨AR,cR,rfl,hcR,hcmR,-⟩:=hz
 rw [List.length_map] at hcF hcR hr ⊢
 rw [List.length_map] at hr ⊢
 have HRW:=Lib.hid (fun W (hb:Below w.heap.size w W)=>Rw.keep (S':=fun b=>b<w.heap.size) (fun p hp=>hb.cell hp) (fun _ h=>h) _ _ hr)
 have HHU:=Lib.hid (fun W (hb:Below w.heap.size w W)=>huge_any 1500 (by decide) (by decide) 60 (by decide) g W (fun b=>b<w.heap.size) _ (fun b h=>Nat.lt_of_lt_of_le h hb.size) (HRW.out W hb))
 have HCO:=Lib.hid (fun (hs:ShN g.nd) W (hb:Below w.heap.size w W)=>compile_any g hlen hnb W (htab.wt.below hb) _ (fun b h=>Nat.lt_of_lt_of_le h hb.size) (Rw.rd _ _ hs (HRW.out W hb)))
 have HRD:=Lib.hid (fun (hs:ShN g.nd)=>Rw.rd _ _ hs hr)
 obtain ⟨nF,hnF⟩:∃ n,Hid (g.fns.length=n):=⟨_,Lib.hid rfl⟩
 obtain ⟨nR,hnR⟩:∃ n,Hid (g.roles.length=n):=⟨_,Lib.hid rfl⟩
 rw [hnF.out,hnR.out] at HHU HCO HRD hlen
 rw [hnF.out] at hcF ⊢
 rw [hnR.out] at hcR ⊢
 have HB0:=Lib.hid ((Below.refl w.heap.size w).alloc (Nat.le_refl _) (.cells #[.slice AF nF cF,.slice AR nR cR] 25))
 have HQ0:=Lib.hid (heap_new w (.cells #[.slice AF nF cF,.slice AR nR cR] 25))
 obtain ⟨W1,hW1⟩:∃ W,Hid (w.alloc (.cells #[.slice AF nF cF,.slice AR nR cR] 25)=W):=⟨_,Lib.hid rfl⟩
 rw [hW1.out] at HB0 HQ0
 have hs1:w.heap.size<W1.heap.size:=lt_heap HQ0.out
 obtain ⟨⟨q0,q1⟩,-⟩:=bx2 HQ0.out
 have HH1:=Lib.hid (HHU.out W1 HB0.out)
 unfold maxLen at hcmF hcmR
 clear hr hnb htab HHU HRW
 go_enter Tryz.func4,Tryz.ntmps4
 go_upto_region 1 with (fail)
 rw [hW1.out]
 cases hp:(hgP 1500 60 g).isNone with
 | true =>
  rw [hp] at HH1
  clear hp
  as_aux_lemma =>
  go_wp2_with (first
   | (go_at_call 5
      refine HH1.out.mono ?_
      rintro e w2 ⟨rfl,hb2⟩
      have HB2:=Lib.hid (HB0.out.trans (hb2.mono HB0.out.size))
      clear hb2)
   | (go_at_call 6
      refine (HAW.out _ HB2.out).mono ?_
      rintro e w3 ⟨rfl,hb3⟩
      have HB3:=Lib.hid (HB2.out.trans (hb3.mono HB2.out.size))
      clear hb3)
   | (fail))
  go_ret
  exact ⟨rfl,HB3.out⟩
 | false =>
  rw [hp] at HH1
  have HSN:=Lib.hid (not_huge hp)
  have HC:=Lib.hid (HCO.out HSN.out)
  have HR:=Lib.hid (HRD.out HSN.out)
  clear hp HCO HRD
  by_cases hz:(checkF g).1=0
  · have HM := Lib.hid (comp_once g)
    have HZ:=Lib.hid hz
    obtain ⟨hk1,hk2⟩:=ps_prog HR.out
    have HK:=Lib.hid (comp_kt g (P:=Gtx) ⟨by simp,by simp⟩ hk1 hk2)
    obtain ⟨b60,-,-⟩:=right_bounds (checkF_zero hz).1
    have HTO:=Lib.hid (comp_tot (checkF_zero hz).1)
    rw [hnF.out,hnR.out] at b60
    clear hz hlen hk1 hk2
    go_upto_region 4 with (first
     | (go_at_call 5
        refine HH1.out.mono ?_
        rintro e w2 ⟨rfl,hb2⟩
        have HB2:=Lib.hid (HB0.out.trans (hb2.mono HB0.out.size))
        have HQ2:=Lib.hid (heap_below HQ0.out hb2)
        obtain ⟨⟨r0,r1⟩,-⟩:=bx2 HQ2.out
        have hs2:=lt_heap HQ2.out
        clear hb2)
     | (go_at_call 7
        refine (HC.out _ HB2.out).mono ?_
        rintro e w3 ⟨hb3,⟨hne,-⟩ | ⟨-,v,rfl,hm⟩⟩
        · exact absurd HZ.out hne
        obtain ⟨vc,vt,vF,vR,rfl,hmc⟩:=hm.cells
        obtain ⟨Ac,cc,rfl,hcc1,hcc2,hca⟩:=hmc.c
        obtain ⟨At1,ct,rfl,hct1,hct2,hta⟩:=hmc.t
        obtain ⟨Af,cf,rfl,hcf1,hcf2,hfa⟩:=hmc.f
        obtain ⟨Ar,cr,rfl,hcr1,hcr2,-⟩:=hmc.r
        have HB3:=Lib.hid (HB2.out.trans (hb3.mono HB2.out.size))
        have HQ3:=Lib.hid (heap_below HQ2.out hb3)
        have HFA:=Lib.hid hfa
        have HCA:=Lib.hid hca
        have HTA:=Lib.hid hta
        obtain ⟨nc,hnc⟩:∃ n,Hid ((compG g).cs.length=n):=⟨_,Lib.hid rfl⟩
        obtain ⟨nt,hnt⟩:∃ n,Hid ((compG g).ts.length=n):=⟨_,Lib.hid rfl⟩
        obtain ⟨nf,hnf⟩:∃ n,Hid ((compG g).fns.length=n):=⟨_,Lib.hid rfl⟩
        have hnr:(compG g).roles.length=nR:=by rw [← hnR.out]; exact rolesP_len _ _
        rw [hnf.out] at hcf1
        rw [hnc.out] at hcc1
        rw [hnt.out] at hct1
        rw [hnr] at hcr1
        rw [hnc.out,hnt.out,hnf.out,hnr]
        have hqm:=heap_old (heap_new w3 (.cells #[.slice Ac nc cc,.slice At1 nt ct,.slice Af nf cf,.slice Ar nR cr] 33)) (.cells #[.int .i64 0,.int .i64 0] 36)
        have hqf:=heap_new' (w3.alloc (.cells #[.slice Ac nc cc,.slice At1 nt ct,.slice Af nf cf,.slice Ar nR cr] 33)) (.cells #[.int .i64 0,.int .i64 0] 36) (w3.heap.size+1) (by simp)
        have hbt:=two w3 (.cells #[.slice Ac nc cc,.slice At1 nt ct,.slice Af nf cf,.slice Ar nR cr] 33) (.cells #[.int .i64 0,.int .i64 0] 36)
        obtain ⟨V2,hV2⟩:∃ V,Hid ((w3.alloc (.cells #[.slice Ac nc cc,.slice At1 nt ct,.slice Af nf cf,.slice Ar nR cr] 33)).alloc (.cells #[.int .i64 0,.int .i64 0] 36)=V):=⟨_,Lib.hid rfl⟩
        rw [hV2.out] at hqm hqf hbt
        have HQM:=Lib.hid hqm
        have HQF:=Lib.hid hqf
        have HBT:=Lib.hid hbt
        clear hb3 hm hmc hfa hca hta hqm hqf hbt)
     | (fail))
    rw [hV2.out]
    unfold maxLen at hcf2 hcr2 hcc2 hct2
    have HV2:Hid (Below w.heap.size w V2):=Lib.hid (HB3.out.trans (HBT.out.mono HB3.out.size))
    have HP2:Hid (V2.heap[w.heap.size]?=some (.cells #[.slice AF nF cF,.slice AR nR cR] 25 (0,0))):=Lib.hid (heap_below HQ3.out HBT.out)
    obtain ⟨⟨p0,p1⟩,-⟩:=bx2 HP2.out
    obtain ⟨⟨d0,d1⟩,-⟩:=bx2 HQF.out
    obtain ⟨⟨b0,b1,b2,b3⟩,-⟩:=box4f HQM.out
    have hl1:=lt_heap HP2.out
    have hl2:=lt_heap HQF.out
    have hl3:=lt_heap HQM.out
    clear hs1 hs2 q0 q1 r0 r1 HQ0 HQ2 HB0 HB2 HH1 HC
    clear HR
    have hto:=HTO.out
    rw [hnc.out,hnt.out] at hto
    have hmk1:∀ w:World,(Instr.makeSlice 54 (.int .i64 (nc:Int)) (.int .i64 (nc:Int))).run Tryz.prog w = .ok (.slice (some ⟨w.heap.size,0,none⟩) nc nc) (w.alloc (.cells (madeCells #[.bool false] nc) 4)) :=
     fun w=>run_make_row' 54 4 _ 1 Tryz.underlying54 bl_info rfl .i64 .i64 nc (by omega) (by omega) w
    have hmk2:∀ w:World,(Instr.makeSlice 54 (.int .i64 (nt:Int)) (.int .i64 (nt:Int))).run Tryz.prog w = .ok (.slice (some ⟨w.heap.size,0,none⟩) nt nt) (w.alloc (.cells (madeCells #[.bool false] nt) 4)) :=
     fun w=>run_make_row' 54 4 _ 1 Tryz.underlying54 bl_info rfl .i64 .i64 nt (by omega) (by omega) w
    go_upto_region 6 with (fail)
    go_cut [5,6] (fun c t wx=>Hid (MkB V2 nc nt c t wx))
    case first =>
     go_region
     · go_wp2_with fail
       go_meet
       exact Lib.hid ⟨V2.heap.size,V2.heap.size+1,rfl,rfl,by omega,by omega,by omega,by
        unfold BlAt
        rw [← made_bl]
        exact heap_old (heap_new V2 (.cells (madeCells #[.bool false] nc) 4)) (.cells (madeCells #[.bool false] nt) 4),by
        unfold BlAt
        rw [← made_bl]
        exact heap_new' (V2.alloc (.cells (madeCells #[.bool false] nc) 4)) (.cells (madeCells #[.bool false] nt) 4) (V2.heap.size+1) (by simp),(two V2 _ _).drew⟩
     · go_wp2_with fail
       go_meet
       exact Lib.hid ⟨V2.heap.size+1,V2.heap.size,rfl,rfl,by omega,by omega,by omega,by
        unfold BlAt
        rw [← made_bl]
        exact heap_new' (V2.alloc (.cells (madeCells #[.bool false] nt) 4)) (.cells (madeCells #[.bool false] nc) 4) (V2.heap.size+1) (by simp),by
        unfold BlAt
        rw [← made_bl]
        exact heap_old (heap_new V2 (.cells (madeCells #[.bool false] nt) 4)) (.cells (madeCells #[.bool false] nc) 4),(two V2 _ _).drew⟩
    case rest =>
     obtain ⟨qc,qt,rfl,rfl,hqc,hqt,hqne,hbc,hbt0,hbel⟩:=hcut.out
     have HS0:Hid (OnSt V2 qc qt nc nt wc (List.replicate nc false) (List.replicate nt false)):=Lib.hid ⟨hbc,hbt0,List.length_replicate ..,List.length_replicate ..,hqc,hqt,hqne,hbel⟩
     obtain ⟨⟨b0,b1,b2,b3⟩,-⟩:=box4f (heap_below HQM.out hbel)
     have hlm:=lt_heap (heap_below HQM.out hbel)
     clear hcut hqc hqt hqne hbc hbt0 hbel hmk1 hmk2 p0 p1 d0 d1 hl1 hl2 hl3
     go_wp2_with fail
     clear b0 b1 b2 b3 hlm
     go_loopg [42] nf (fun gh i wr=>∃ (j:Nat) (l1 l2:List Bool),j+gh=nf∧i = .int .i64 (j:Int)∧Hid (OnSt V2 qc qt nc nt wr l1 l2)∧Hid (Cov (compG g).fns j 0 l1 l2))
     case atStart=>exact ⟨0, _, _,by omega,rfl,HS0,Lib.hid Cov.zero⟩
     case round =>
      clear HS0
      obtain ⟨wo,hwo⟩:∃ wo,wo=wr:=⟨_,rfl⟩
      subst hwo
      obtain ⟨jf,l1,l2,hj,rfl,HST,HCV⟩:=hrel
      have hszk:=HST.out.b.size
      have hqc:=lt_heap HST.out.c
      have hqt:=lt_heap HST.out.t
      cases gk with
      | zero =>
       have h1:¬ (jf:Int)<(nf:Int):=by omega
       obtain rfl:nf=jf:=by omega
       have HAL:Hid ((∀ a,a<nc→l1[a]?=some true)∧∀ a,a<nt→l2[a]?=some true):=Lib.hid (by
        have hcv:=HCV.out
        rw [← hnf.out] at hcv
        have:=hcv.all HM.out.uc HM.out.ut
        rw [← hnc.out,← hnt.out]
        exact this)
       have hix0:∀ w:World,(Instr.index 59 (.agg #[.slice (some ⟨qc,0,none⟩) nc nc,.slice (some ⟨qt,0,none⟩) nt nt]) (.int .i64 0)).run Tryz.prog w = .ok (.slice (some ⟨qc,0,none⟩) nc nc) w:=fun w=>by kernel_rfl
       have hix1:∀ w:World,(Instr.index 59 (.agg #[.slice (some ⟨qc,0,none⟩) nc nc,.slice (some ⟨qt,0,none⟩) nt nt]) (.int .i64 1)).run Tryz.prog w = .ok (.slice (some ⟨qt,0,none⟩) nt nt) w:=fun w=>by kernel_rfl
       clear HFA
       go_wp2_with fail
       obtain ⟨wp,hwp⟩:∃ wp,wp=wo:=⟨_,rfl⟩
       subst hwp
       go_loopg [96] 2 (fun gh i wr=>(gh=2∧i = .int .i64 0∨gh=1∧i = .int .i64 1∨gh=0∧i = .int .i64 2)∧Hid (wr=wp))
       case atStart=>exact ⟨.inl ⟨rfl,rfl⟩,Lib.hid rfl⟩
       case round =>
        obtain ⟨hcase,HWP⟩:=hrel
        rcases hcase with ⟨hgk,rfl⟩ | ⟨hgk,rfl⟩ | ⟨hgk,rfl⟩
        · subst hgk
          have hx:=hix0
          clear hix0 hix1
          go_wp2_with fail
          go_loopg [101] nc (fun gh i wr2=>∃ k:Nat,k+gh=nc∧i = .int .i64 (k:Int)∧Hid (wr2=wp))
          case atStart=>exact ⟨0,by omega,rfl,HWP⟩
          case round =>
           obtain ⟨k,hk,rfl,HWQ⟩:=hrel
           cases gk with
           | zero =>
            have h3:¬ (k:Int)<(nc:Int):=by omega
            go_wp2_with fail
            go_roundg 1
            case measure=>omega
            case rel=>exact ⟨.inr (.inl ⟨rfl,rfl⟩),HWQ⟩
           | succ gi =>
            have h3:(k:Int)<(nc:Int):=by omega
            have z0:wr.cell? ⟨qc,k,none⟩=some (.bool true):=by rw [HWQ.out]; exact HST.out.c.cell (HAL.out.1 k (by omega))
            go_wp2_with fail
            go_roundg gi
            case measure=>omega
            case rel=>exact ⟨k+1,by omega,by go_num,HWQ⟩
        · subst hgk
          have hx:=hix1
          clear hix0 hix1
          go_wp2_with fail
          go_loopg [101] nt (fun gh i wr2=>∃ k:Nat,k+gh=nt∧i = .int .i64 (k:Int)∧Hid (wr2=wp))
          case atStart=>exact ⟨0,by omega,rfl,HWP⟩
          case round =>
           obtain ⟨k,hk,rfl,HWQ⟩:=hrel
           cases gk with
           | zero =>
            have h3:¬ (k:Int)<(nt:Int):=by omega
            go_wp2_with fail
            go_roundg 0
            case measure=>omega
            case rel=>exact ⟨.inr (.inr ⟨rfl,rfl⟩),HWQ⟩
           | succ gi =>
            have h3:(k:Int)<(nt:Int):=by omega
            have z0:wr.cell? ⟨qt,k,none⟩=some (.bool true):=by rw [HWQ.out]; exact HST.out.t.cell (HAL.out.2 k (by omega))
            go_wp2_with fail
            go_roundg gi
            case measure=>omega
            case rel=>exact ⟨k+1,by omega,by go_num,HWQ⟩
        · subst hgk
          have HBV:Hid (Below V2.heap.size V2 wr):=Lib.hid (by rw [HWP.out]; exact HST.out.b)
          obtain ⟨⟨b0,b1,b2,b3⟩,-⟩:=box4f (heap_below HQM.out HBV.out)
          have hlm:=lt_heap (heap_below HQM.out HBV.out)
          have HNC:Hid ((compG g).cs.Nodup):=Lib.hid HM.out.nc
          have HNT:Hid ((compG g).ts.Nodup):=Lib.hid HM.out.nt
          clear h1 hix0 hix1 hszk hqc hqt HAL HST HCV HWP hj
          go_wp2_with fail
          clear b0 b1 b2 b3 hlm
          go_loopg [112] nc (fun gh i wr2=>∃ i0:Nat,i0+gh=nc∧i = .int .i64 (i0:Int)∧Hid (Below V2.heap.size V2 wr2))
          case atStart=>exact ⟨0,by omega,rfl,HBV⟩
          case round =>
           clear HBV
           obtain ⟨i0,hi,rfl,HB5⟩:=hrel
           cases gk with
           | zero =>
            have h3:¬ (i0:Int)<(nc:Int):=by omega
            have b1:=cell_block (heap_below HQM.out HB5.out) 1
            have hlm:=lt_heap (heap_below HQM.out HB5.out)
            clear hi
            go_wp2_with fail
            clear b1 hlm h3
            go_loopg [137] nt (fun gh i wr2=>∃ i0:Nat,i0+gh=nt∧i = .int .i64 (i0:Int)∧Hid (Below V2.heap.size V2 wr2))
            case atStart=>exact ⟨0,by omega,rfl,HB5⟩
            case round =>
             clear HB5
             obtain ⟨t0,ht,rfl,HB6⟩:=hrel
             cases gk with
             | zero =>
              have h3:¬ (t0:Int)<(nt:Int):=by omega
              have HAB:=Lib.hid (HAW.out _ (HV2.out.trans (HB6.out.mono HV2.out.size)))
              go_wp2_with (first
               | (go_at_call 6
                  refine HAB.out.mono ?_
                  rintro e w4 ⟨rfl,hb4⟩
                  have HB7:=Lib.hid (HV2.out.trans ((HB6.out.trans (hb4.mono HB6.out.size)).mono HV2.out.size))
                  clear hb4)
               | (fail))
              go_ret
              exact ⟨rfl,HB7.out⟩
             | succ g7 =>
              have h3:(t0:Int)<(nt:Int):=by omega
              go_wp2_with fail
              go_loopg [141] t0 (fun gh k wr2=>∃ k0:Nat,k0+gh=t0∧k = .int .i64 (k0:Int)∧Hid (Below V2.heap.size V2 wr2))
              case atStart=>exact ⟨0,by omega,rfl,HB6⟩
              case round =>
               clear HB6
               obtain ⟨k0,hk,rfl,HB7⟩:=hrel
               cases gk with
               | zero =>
                have h4:¬ (k0:Int)<(t0:Int):=by omega
                go_wp2_with fail
                go_roundg g7
                case measure=>omega
                case rel=>exact ⟨t0+1,by omega,by go_num,HB7⟩
               | succ g8 =>
                have h4:(k0:Int)<(t0:Int):=by omega
                have hil:t0<(compG g).ts.length:=by rw [hnt.out]; omega
                have hkl:k0<(compG g).ts.length:=by omega
                have hne:=nodup_ne HNT.out (show k0<t0 by omega) (List.getElem?_eq_getElem hil) (List.getElem?_eq_getElem hkl)
                obtain ⟨gc,eg,-,hgc,u0⟩:=HTA.out t0 _ (List.getElem?_eq_getElem hil)
                obtain ⟨gc',eg',-,hgc',v0⟩:=HTA.out k0 _ (List.getElem?_eq_getElem hkl)
                have ec:gc'=gc:=by
                 rw [eg] at eg'
                 injection eg' with eg'
                 injection eg' with eg'
                 exact eg'.symm
                subst ec
                subst eg
                have hq1:=HK.out.2 _ (List.getElem_mem hil)
                have hq2:=HK.out.2 _ (List.getElem_mem hkl)
                generalize (compG g).ts[t0]=c at *
                generalize (compG g).ts[k0]=c' at *
                have hgv:gc'<V2.heap.size:=Nat.lt_of_lt_of_le hgc HBT.out.size
                have y0:wr.cell? ⟨gc',t0,none⟩=some (.string (strOf c)):=(HB7.out.cell (p:=⟨gc',t0,none⟩) hgv).trans ((HBT.out.cell (p:=⟨gc',t0,none⟩) hgc).trans u0)
                have y1:wr.cell? ⟨gc',k0,none⟩=some (.string (strOf c')):=(HB7.out.cell (p:=⟨gc',k0,none⟩) hgv).trans ((HBT.out.cell (p:=⟨gc',k0,none⟩) hgc).trans v0)
                have hs:((strOf c).toList == (strOf c').toList)=false:=by
                 rw [strOf_eq c c' hq1.1 hq2.1]
                 exact decide_eq_false hne
                generalize strOf c=X at *
                generalize strOf c'=X' at *
                have b1:=cell_block (heap_below HQM.out HB7.out) 1
                have hlm:=lt_heap (heap_below HQM.out HB7.out)
                have hgr:gc'<wr.heap.size:=Nat.lt_of_lt_of_le hgv HB7.out.size
                clear hil hkl hne u0 v0 hq1 hq2
                go_upto_region 54 with (fail)
                go_quiet (fail)
                have HB8:=Lib.hid (below_drewN HB7.out nq)
                go_wp2_with fail
                go_roundg g8
                case measure=>omega
                case rel=>exact ⟨k0+1,by omega,by go_num,HB8⟩
           | succ g5 =>
            have h3:(i0:Int)<(nc:Int):=by omega
            go_wp2_with fail
            go_loopg [116] i0 (fun gh k wr2=>∃ k0:Nat,k0+gh=i0∧k = .int .i64 (k0:Int)∧Hid (Below V2.heap.size V2 wr2))
            case atStart=>exact ⟨0,by omega,rfl,HB5⟩
            case round =>
             clear HB5
             obtain ⟨k0,hk,rfl,HB6⟩:=hrel
             cases gk with
             | zero =>
              have h4:¬ (k0:Int)<(i0:Int):=by omega
              go_wp2_with fail
              go_roundg g5
              case measure=>omega
              case rel=>exact ⟨i0+1,by omega,by go_num,HB6⟩
             | succ g6 =>
              have h4:(k0:Int)<(i0:Int):=by omega
              have hil:i0<(compG g).cs.length:=by rw [hnc.out]; omega
              have hkl:k0<(compG g).cs.length:=by omega
              have hne:=nodup_ne HNC.out (show k0<i0 by omega) (List.getElem?_eq_getElem hil) (List.getElem?_eq_getElem hkl)
              obtain ⟨gc,eg,-,hgc,u0,u1,u2,u3⟩:=HCA.out i0 _ (List.getElem?_eq_getElem hil)
              obtain ⟨gc',eg',-,hgc',v0,v1,v2,v3⟩:=HCA.out k0 _ (List.getElem?_eq_getElem hkl)
              have ec:gc'=gc:=by
               rw [eg] at eg'
               injection eg' with eg'
               injection eg' with eg'
               exact eg'.symm
              subst ec
              subst eg
              have hq1:=HK.out.1 _ (List.getElem_mem hil)
              have hq2:=HK.out.1 _ (List.getElem_mem hkl)
              generalize (compG g).cs[i0]=c at *
              generalize (compG g).cs[k0]=c' at *
              have hgv:gc'<V2.heap.size:=Nat.lt_of_lt_of_le hgc HBT.out.size
              have HSV:=Lib.hid (fun (W:World) (hb:Below V2.heap.size V2 W) (m m':Nat) (hm:1≤m) (hm':1≤m')=>samevals_cst c c' hne hq1 hq2 W gc' (i0*4) (k0*4) m m' (Nat.lt_of_lt_of_le hgv hb.size) hm hm'
               ((hb.cell (p:=⟨gc',i0*4,none⟩) hgv).trans ((HBT.out.cell (p:=⟨gc',i0*4,none⟩) hgc).trans u0)) ((hb.cell (p:=⟨gc',i0*4+1,none⟩) hgv).trans ((HBT.out.cell (p:=⟨gc',i0*4+1,none⟩) hgc).trans u1)) ((hb.cell (p:=⟨gc',i0*4+2,none⟩) hgv).trans ((HBT.out.cell (p:=⟨gc',i0*4+2,none⟩) hgc).trans u2)) ((hb.cell (p:=⟨gc',i0*4+3,none⟩) hgv).trans ((HBT.out.cell (p:=⟨gc',i0*4+3,none⟩) hgc).trans u3))
               ((hb.cell (p:=⟨gc',k0*4,none⟩) hgv).trans ((HBT.out.cell (p:=⟨gc',k0*4,none⟩) hgc).trans v0)) ((hb.cell (p:=⟨gc',k0*4+1,none⟩) hgv).trans ((HBT.out.cell (p:=⟨gc',k0*4+1,none⟩) hgc).trans v1)) ((hb.cell (p:=⟨gc',k0*4+2,none⟩) hgv).trans ((HBT.out.cell (p:=⟨gc',k0*4+2,none⟩) hgc).trans v2)) ((hb.cell (p:=⟨gc',k0*4+3,none⟩) hgv).trans ((HBT.out.cell (p:=⟨gc',k0*4+3,none⟩) hgc).trans v3)))
              have HSW:=Lib.hid (fun (W:World) (hb:Below V2.heap.size V2 W)=>HSV.out W hb (cc-i0) (cc-k0) (by omega) (by omega))
              clear HSV
              obtain ⟨i1,hi1⟩:∃ n,Hid (i0+1=n):=⟨_,Lib.hid rfl⟩
              obtain ⟨k1,hk1⟩:∃ n,Hid (k0+1=n):=⟨_,Lib.hid rfl⟩
              have wi1:IntKind.i64.wrap ((i0:Int)+1)=(i1:Int):=by
               rw [IntWalk.i64_in _ (by omega)]
               have:=hi1.out
               omega
              have wk1:IntKind.i64.wrap ((k0:Int)+1)=(k1:Int):=by
               rw [IntWalk.i64_in _ (by omega)]
               have:=hk1.out
               omega
              have j1:(i0:Int)≤(i1:Int):=by have:=hi1.out; omega
              have j2:(i1:Int)≤(cc:Int):=by have:=hi1.out; omega
              have j3:(k0:Int)≤(k1:Int):=by have:=hk1.out; omega
              have j4:(k1:Int)≤(cc:Int):=by have:=hk1.out; omega
              have j5:i1-i0=1:=by have:=hi1.out; omega
              have j6:k1-k0=1:=by have:=hk1.out; omega
              have j7:(i0:Int)<(cc:Int):=by omega
              have j8:(k0:Int)<(cc:Int):=by omega
              have b0:=cell_block (heap_below HQM.out HB6.out) 0
              have hlm:=lt_heap (heap_below HQM.out HB6.out)
              have j9:¬ cc=i0:=by omega
              have j10:¬ cc=k0:=by omega
              clear hil hkl hne u0 u1 u2 u3 v0 v1 v2 v3 hq1 hq2
              go_upto_region 44 with (fail)
              go_region_held3 (fun w'=>w'.cell? ⟨w3.heap.size,0,none⟩=some (.slice (some ⟨gc',0,none⟩) nc cc)) (go_keep)
               (first
                | (go_at_call 10
                   with_reducible refine (HSW.out _ ?hbx).mono ?_
                   case hbx=>first | exact HB6.out | exact HB6.out.drew
                   rintro e w4 ⟨rfl,hb4⟩
                   have hb5:Below wr.heap.size wr w4:=by first | exact hb4 | exact ((Below.refl _ _).drew).trans hb4
                   have HB7:=Lib.hid (HB6.out.trans (hb5.mono HB6.out.size))
                   have b0:=cell_block (heap_below HQM.out HB7.out) 0
                   clear hb4 hb5)
                | (fail))
              go_wp2_with fail
              go_roundg g6
              case measure=>omega
              case rel=>exact ⟨k0+1,by omega,by go_num,HB7⟩
      | succ gg =>
       have h1:(jf:Int)<(nf:Int):=by omega
       have hjl:jf<(compG g).fns.length:=by rw [hnf.out]; omega
       obtain ⟨gf,uf,ea,hg1,hg2,u0,u1,u2,u3,hic⟩:=HFA.out jf (compG g).fns[jf] (List.getElem?_eq_getElem hjl)
       subst ea
       have HFJ:=Lib.hid (List.getElem?_eq_getElem hjl)
       have hcode:(compG g).fns[jf].code∈(mkP g).fns.map Fnc.code:=List.mem_map.2 ⟨_,List.getElem_mem hjl,rfl⟩
       have HRC:=Lib.hid (HM.out.rc _ hcode)
       have HJK:=Lib.hid (HM.out.jk _ hcode)
       generalize (compG g).fns[jf]=F at *
       obtain ⟨Ai,ci,rfl,hci,hcim,hia⟩:=hic
       have HIA:=Lib.hid hia
       obtain ⟨L,hL⟩:∃ L,Hid (F.code.length=L):=⟨_,Lib.hid rfl⟩
       rw [hL.out] at u3 hci
       unfold maxLen at hcim
       obtain ⟨X,hX⟩:∃ X,strOf F.name=X:=⟨_,rfl⟩
       obtain ⟨P,hP⟩:∃ P,(F.params:Int)=P:=⟨_,rfl⟩
       obtain ⟨Q,hQ⟩:∃ P,(F.vars:Int)=P:=⟨_,rfl⟩
       rw [hX] at u0
       rw [hP] at u1
       rw [hQ] at u2
       have hgv:gf<V2.heap.size:=Nat.lt_of_lt_of_le hg2 HBT.out.size
       have hgo:gf<wo.heap.size:=Nat.lt_of_lt_of_le hgv hszk
       have y0:wo.cell? ⟨gf,jf*4,none⟩=some (.string X):=(HST.out.b.cell (p:=⟨gf,jf*4,none⟩) hgv).trans ((HBT.out.cell (p:=⟨gf,jf*4,none⟩) hg2).trans u0)
       have y1:wo.cell? ⟨gf,jf*4+1,none⟩=some (.int .i64 P):=(HST.out.b.cell (p:=⟨gf,jf*4+1,none⟩) hgv).trans ((HBT.out.cell (p:=⟨gf,jf*4+1,none⟩) hg2).trans u1)
       have y2:wo.cell? ⟨gf,jf*4+2,none⟩=some (.int .i64 Q):=(HST.out.b.cell (p:=⟨gf,jf*4+2,none⟩) hgv).trans ((HBT.out.cell (p:=⟨gf,jf*4+2,none⟩) hg2).trans u2)
       have y3:wo.cell? ⟨gf,jf*4+3,none⟩=some (.slice Ai L ci):=(HST.out.b.cell (p:=⟨gf,jf*4+3,none⟩) hgv).trans ((HBT.out.cell (p:=⟨gf,jf*4+3,none⟩) hg2).trans u3)
       obtain ⟨W3,hW3⟩:∃ W,Hid (wo.alloc (.cells #[.string X,.int .i64 P,.int .i64 Q,.slice Ai L ci] 44)=W):=⟨_,Lib.hid rfl⟩
       have hq3:=heap_new wo (.cells #[.string X,.int .i64 P,.int .i64 Q,.slice Ai L ci] 44)
       have hb3:=(Below.refl wo.heap.size wo).alloc (Nat.le_refl _) (.cells #[.string X,.int .i64 P,.int .i64 Q,.slice Ai L ci] 44)
       rw [hW3.out] at hq3 hb3
       have HQ3f:=Lib.hid hq3
       have HS3:=Lib.hid (HST.out.below hb3)
       obtain ⟨⟨b0,b1,b2,b3⟩,-⟩:=box4f hq3
       have hs3:=lt_heap hq3
       clear hX hP hQ u0 u1 u2 u3 hg1 hjl hcode hia hq3 hb3 HST
       go_upto_region 10 with (fail)
       rw [hW3.out]
       go_wp2_with fail
       clear y0 y1 y2 y3 b0 b1 b2 b3 hgo
       go_loopg [49] L (fun gh i wr=>∃ (i0:Nat) (m1 m2:List Bool),i0+gh=L∧i = .int .i64 (i0:Int)∧Hid (OnSt V2 qc qt nc nt wr m1 m2)∧Hid (Cov (compG g).fns jf i0 m1 m2)∧Hid (wr.heap[wo.heap.size]?=some (.cells #[.string X,.int .i64 P,.int .i64 Q,.slice Ai L ci] 44 (0,0))))
       case atStart=>exact ⟨0,l1,l2,by omega,rfl,HS3,HCV,HQ3f⟩
       case round =>
        clear HS3 HCV HQ3f hs3
        obtain ⟨i,m1,m2,hi,rfl,HST,HCV,HFB⟩:=hrel
        have hszr:=HST.out.b.size
        have hlf:=lt_heap HFB.out
        cases gk with
        | zero =>
         have h2:¬ (i:Int)<(L:Int):=by omega
         have HCN:=Lib.hid (HCV.out.next HFJ.out (by rw [hL.out]; omega))
         go_wp2_with fail
         go_roundg gg
         case measure=>omega
         case rel=>exact ⟨jf+1,m1,m2,by omega,by go_num,HST,HCN⟩
        | succ gi =>
         have h2:(i:Int)<(L:Int):=by omega
         have hil:i<F.code.length:=by rw [hL.out]; omega
         obtain ⟨ga,eai,hga1,hga2,v0,v1,v2⟩:=HIA.out i F.code[i] (List.getElem?_eq_getElem hil)
         subst eai
         have HXI:=Lib.hid (List.getElem?_eq_getElem hil)
         have hrc:=HRC.out F.code[i] (List.getElem_mem hil)
         have hjk:=HJK.out i F.code[i] (List.getElem?_eq_getElem hil) (fun h=>h)
         generalize F.code[i]=x at *
         have hgv2:ga<V2.heap.size:=Nat.lt_of_lt_of_le hga2 HBT.out.size
         have hgr:ga<wr.heap.size:=Nat.lt_of_lt_of_le hgv2 hszr
         have hqc2:=lt_heap HST.out.c
         have hqt2:=lt_heap HST.out.t
         have y0:wr.cell? ⟨ga,i*3,none⟩=some (.int .u8 (x.op:Int)):=(HST.out.b.cell (p:=⟨ga,i*3,none⟩) hgv2).trans ((HBT.out.cell (p:=⟨ga,i*3,none⟩) hga2).trans v0)
         have y1:wr.cell? ⟨ga,i*3+1,none⟩=some (.int .i64 x.a):=(HST.out.b.cell (p:=⟨ga,i*3+1,none⟩) hgv2).trans ((HBT.out.cell (p:=⟨ga,i*3+1,none⟩) hga2).trans v1)
         have y2:wr.cell? ⟨ga,i*3+2,none⟩=some (.int .i64 x.b):=(HST.out.b.cell (p:=⟨ga,i*3+2,none⟩) hgv2).trans ((HBT.out.cell (p:=⟨ga,i*3+2,none⟩) hga2).trans v2)
         obtain ⟨o,ho⟩:∃ o,Hid (x.op=o):=⟨_,Lib.hid rfl⟩
         obtain ⟨a,ha⟩:∃ o,Hid (x.a=o):=⟨_,Lib.hid rfl⟩
         obtain ⟨bx,hbx⟩:∃ o,x.b=o:=⟨_,rfl⟩
         rw [ho.out] at y0 hrc hjk
         rw [ha.out] at y1 hrc hjk
         rw [hbx] at y2
         obtain ⟨W4,hW4⟩:∃ W,Hid (wr.alloc (.cells #[.int .u8 (o:Int),.int .i64 a,.int .i64 bx] 57)=W):=⟨_,Lib.hid rfl⟩
         have hq4:=heap_new wr (.cells #[.int .u8 (o:Int),.int .i64 a,.int .i64 bx] 57)
         have hb4:=(Below.refl wr.heap.size wr).alloc (Nat.le_refl _) (.cells #[.int .u8 (o:Int),.int .i64 a,.int .i64 bx] 57)
         rw [hW4.out] at hq4 hb4
         have HB4:=Lib.hid hb4
         have HS4:=Lib.hid (HST.out.below hb4)
         have HF4:=Lib.hid (heap_below HFB.out hb4)
         have c0:=cell_block hq4 0
         have c1:=cell_block hq4 1
         have c2:=cell_block hq4 2
         have hs4:=lt_heap hq4
         have f3:=cell_block HF4.out 3
         have hf4:=lt_heap HF4.out
         have HR2:=Lib.hid hrc
         have HJ2:=Lib.hid hjk
         clear hq4 hb4 v0 v1 v2 hga1 hil hbx hrc hjk HST HFB
         go_upto_region 14 with (fail)
         rw [hW4.out]
         clear hW4 y0 y1 y2
         have hqc4:=lt_heap HS4.out.c
         have hqt4:=lt_heap HS4.out.t
         by_cases o1:o=1
         · have k1:((o:Int) == 1)=true:=by rw [o1]; rfl
           obtain ⟨ac,hac,rfl⟩:=HR2.out.1 o1
           have hac:ac<nc:=by rw [← hnc.out]; exact hac
           have hl1:ac<m1.length:=by rw [HS4.out.n1]; exact hac
           obtain ⟨bz,z0⟩:∃ b,W4.cell? ⟨qc,ac,none⟩=some (.bool b):=⟨_,HS4.out.c.cell (List.getElem?_eq_getElem hl1)⟩
           have z1:=free_block HS4.out.c ac
           have z2:(ac:Int)<(nc:Int):=by omega
           have HSN2:=Lib.hid (HS4.out.setC ac)
           have HCN:=Lib.hid (HCV.out.stepC HFJ.out HXI.out (by rw [ho.out]; exact o1) ha.out hl1)
           have HFN:Hid ((W4.setCell ⟨qc,ac,none⟩ (.bool true)).heap[wo.heap.size]? = _):=Lib.hid (heap_set_ne HF4.out (by omega) ac (.bool true))
           clear o1 hl1
           go_wp2_with fail
           go_roundg gi
           case measure=>omega
           case rel=>exact ⟨i+1,m1.set ac true,m2,by omega,by go_num,HSN2,HCN,HFN⟩
         · have k1 : ((o:Int) == 1)=false:=beq_eq_false_iff_ne.2 (by omega)
           by_cases o2:o=24
           · have k2:((o:Int) == 24)=true:=by rw [o2]; rfl
             obtain ⟨ac,hac,rfl⟩:=HR2.out.2 o2
             have hac:ac<nt:=by rw [← hnt.out]; exact hac
             have hl1:ac<m2.length:=by rw [HS4.out.n2]; exact hac
             obtain ⟨bz,z0⟩:∃ b,W4.cell? ⟨qt,ac,none⟩=some (.bool b):=⟨_,HS4.out.t.cell (List.getElem?_eq_getElem hl1)⟩
             have z1:=free_block HS4.out.t ac
             have z2:(ac:Int)<(nt:Int):=by omega
             have HSN2:=Lib.hid (HS4.out.setT ac)
             have HCN:=Lib.hid (HCV.out.stepT HFJ.out HXI.out (by rw [ho.out]; exact o2) ha.out hl1)
             have HFN:Hid ((W4.setCell ⟨qt,ac,none⟩ (.bool true)).heap[wo.heap.size]? = _):=Lib.hid (heap_set_ne HF4.out (by omega) ac (.bool true))
             clear o1 o2 hl1
             go_wp2_with fail
             go_roundg gi
             case measure=>omega
             case rel=>exact ⟨i+1,m1,m2.set ac true,by omega,by go_num,HSN2,HCN,HFN⟩
           · have k2 : ((o:Int) == 24)=false:=beq_eq_false_iff_ne.2 (by omega)
             have HCN:=Lib.hid (HCV.out.step HFJ.out HXI.out (by rw [ho.out]; exact o1) (by rw [ho.out]; exact o2))
             by_cases o3:o=28∨o=29∨o=30
             · have hlt:=HJ2.out.1 o3
               have t1:¬ a≤(i:Int):=by omega
               have t2:decide (a≤(i:Int))=false:=decide_eq_false t1
               rcases o3 with o3 | o3 | o3
               · have k3:((o:Int) == 28)=true:=by rw [o3]; rfl
                 clear o1 o2 o3
                 go_wp2_with fail
                 go_roundg gi
                 case measure=>omega
                 case rel=>exact ⟨i+1,m1,m2,by omega,by go_num,HS4,HCN,HF4⟩
               · have k3:((o:Int) == 28)=false:=by rw [o3]; rfl
                 have k4:((o:Int) == 29)=true:=by rw [o3]; rfl
                 clear o1 o2 o3
                 go_wp2_with fail
                 go_roundg gi
                 case measure=>omega
                 case rel=>exact ⟨i+1,m1,m2,by omega,by go_num,HS4,HCN,HF4⟩
               · have k3:((o:Int) == 28)=false:=by rw [o3]; rfl
                 have k4:((o:Int) == 29)=false:=by rw [o3]; rfl
                 have k5:((o:Int) == 30)=true:=by rw [o3]; rfl
                 clear o1 o2 o3
                 go_wp2_with fail
                 go_roundg gi
                 case measure=>omega
                 case rel=>exact ⟨i+1,m1,m2,by omega,by go_num,HS4,HCN,HF4⟩
             · have k3 : ((o:Int) == 28)=false:=beq_eq_false_iff_ne.2 (by omega)
               have k4:((o:Int) == 29)=false:=beq_eq_false_iff_ne.2 (by omega)
               have k5:((o:Int) == 30)=false:=beq_eq_false_iff_ne.2 (by omega)
               by_cases o4:o=27
               · have k6:((o:Int) == 27)=true:=by rw [o4]; rfl
                 rcases HJ2.out.2 o4 with hlt | ⟨h0,jj,u,-,e1,e2,e3,e4,e5⟩
                 · have t1:¬ a≤(i:Int):=by omega
                   have t2:decide (a≤(i:Int))=false:=decide_eq_false t1
                   clear o1 o2 o3 o4
                   go_wp2_with fail
                   go_roundg gi
                   case measure=>omega
                   case rel=>exact ⟨i+1,m1,m2,by omega,by go_num,HS4,HCN,HF4⟩
                 · obtain ⟨am,rfl⟩:∃ m:Nat,a=(m:Int):=⟨a.toNat,by omega⟩
                   have t1:(am:Int)≤(i:Int):=by omega
                   have t2:decide ((am:Int)≤(i:Int))=true:=decide_eq_true t1
                   have hil2:i<L:=by omega
                   have HLV:=Lib.hid (leaves_any W4 ga L ci F.code hL.out hci hcim (Nat.lt_of_lt_of_le hgv2 HS4.out.b.size) (fun p y hy=>by
                    obtain ⟨g',eg,-,hg',r0,r1,r2⟩:=HIA.out p y hy
                    cases eg
                    exact ⟨(HS4.out.b.cell (p:=⟨ga,p*3,none⟩) hgv2).trans ((HBT.out.cell (p:=⟨ga,p*3,none⟩) hg').trans r0),(HS4.out.b.cell (p:=⟨ga,p*3+1,none⟩) hgv2).trans ((HBT.out.cell (p:=⟨ga,p*3+1,none⟩) hg').trans r1),(HS4.out.b.cell (p:=⟨ga,p*3+2,none⟩) hgv2).trans ((HBT.out.cell (p:=⟨ga,p*3+2,none⟩) hg').trans r2)⟩) am i hil2 ⟨jj,u,by omega,e3,e1,e4,e5⟩)
                   clear o1 o2 o3 o4 h0 e1 e2 e3 e4 e5
                   go_wp2_with (first
                    | (go_at_call 9
                       refine HLV.out.mono ?_
                       rintro e w5 ⟨rfl,hb5⟩
                       have HS5:=Lib.hid (HS4.out.below hb5)
                       have HF5:=Lib.hid (heap_below HF4.out hb5)
                       clear hb5)
                    | (fail))
                   go_roundg gi
                   case measure=>omega
                   case rel=>exact ⟨i+1,m1,m2,by omega,by go_num,HS5,HCN,HF5⟩
               · have k6:((o:Int) == 27)=false:=beq_eq_false_iff_ne.2 (by omega)
                 clear o1 o2 o3 o4
                 go_wp2_with fail
                 go_roundg gi
                 case measure=>omega
                 case rel=>exact ⟨i+1,m1,m2,by omega,by go_num,HS4,HCN,HF4⟩
  · obtain ⟨er,her⟩:∃ er,Hid ((checkF g).1=er):=⟨_,Lib.hid rfl⟩
    rw [her.out] at hz
    have e1:((er:Int) != 0)=true:=bne_iff_ne.2 (by omega)
    have HZ:=Lib.hid hz
    clear hz hlen
    go_wp2_with (first
     | (go_at_call 5
        refine HH1.out.mono ?_
        rintro e w2 ⟨rfl,hb2⟩
        have HB2:=Lib.hid (HB0.out.trans (hb2.mono HB0.out.size))
        have HQ2:=Lib.hid (heap_below HQ0.out hb2)
        obtain ⟨⟨r0,r1⟩,-⟩:=bx2 HQ2.out
        have hs2:=lt_heap HQ2.out
        clear hb2)
     | (go_at_call 7
        refine (HC.out _ HB2.out).mono ?_
        rintro e w3 ⟨hb3,⟨-,rfl⟩ | ⟨hz',-⟩⟩
        rotate_left
        · exact absurd (her.out.symm.trans hz') HZ.out
        rw [her.out]
        have HB3:Hid (Below w.heap.size w ((w3.alloc (.cells #[.slice none 0 0,.slice none 0 0,.slice none 0 0,.slice none 0 0] 33)).alloc (.cells #[.int .i64 (er:Int),.int .i64 (checkF g).2] 36))):=Lib.hid (HB2.out.trans ((hb3.trans ((two w3 _ _).mono hb3.size)).mono HB2.out.size))
        clear hb3)
     | (go_at_call 6
        refine (HAW.out _ HB3.out).mono ?_
        rintro e w4 ⟨rfl,hb4⟩
        have HB4:=Lib.hid (HB3.out.trans (hb4.mono HB3.out.size))
        clear hb4)
     | (fail))
    go_ret
    exact ⟨rfl,HB4.out⟩
set_option maxRecDepth 100000 in
set_option maxHeartbeats 8000000 in
theorem lifted (os:Os) (started:os.Started) (H:Type) (enc:TypeId × Value→H) :
 ReturnsInHanded {} Tryz.checked os 4 .any (fun w args=>(Rows.codeOnceSpec.pre enc Tryz.prog Tryz.f4 [] false w args∧laidMetH Tryz.prog laidO w)∧sizedMet enc Tryz.prog Tryz.f4 (OpenSpec.ofChange Rows.codeOnceSpec) false w args) (Rows.codeOnceSpec.post enc Tryz.prog Tryz.f4 false true false false):=by
 refine returnsInHanded_of_change_and (C:=Tryz.checked) (X:=fun w _ => laidMetH Tryz.prog laidO w) (fun _ _ _ hh h=>h.of_heap hh) knob_own started (by as_aux_lemma=>kernel_rfl) Tryz.func4
  (ChangeSpec.witness_shaped (enc:=enc) (C:=Tryz.checked) (os:=os) (X:=fun w _ => laidMetH Tryz.prog laidO w) false (World.doorLaid Tryz.prog 400 os) #[.agg #[.slice none 0 0,.slice none 0 0]] 8 rfl (World.shaped_of_RefB (by as_aux_lemma=>kernel_rfl) (by as_aux_lemma=>kernel_rfl)) (by as_aux_lemma=>kernel_rfl) (by as_aux_lemma=>kernel_rfl) (by as_aux_lemma=>kernel_rfl) (doorO_met os _)) ?_
 intro W base args ds gs before hval0 hW _ hsz hL _
 have hval:∀ (j:Nat) t v,Tryz.f4.params[j]?=some t→args[j]?=some v→Value.okWide Tryz.prog W .any base t v:=hval0
 have hW':=hW
 obtain ⟨p,q,hA0,hV,rfl,hfz,hnd⟩:=hW
 have hA:DataW.TrodAll enc Tryz.prog W 0 (fun _ => true) true Tryz.f4.params.toList args.toList ds p:=hA0
 rw [Tryz.params4] at hA hval
 obtain ⟨v0,vs0,d0,ds0,p0,q0,hargs,rfl,rfl,h0,r0⟩:=trodAll_cons hA
 obtain ⟨rfl,rfl,rfl⟩:=trodAll_nil r0
 obtain rfl:args=#[v0]:=by cases args; simp_all
 obtain ⟨rfl,rfl⟩:=trodVars_none hV
 have k0:=h0
 have lt0:∀ x∈p0,x.block<W.heap.size:=by obtain ⟨m,hm⟩:=k0; exact DataW.trod_lt m _ _ _ hm
 have w0:∃ g,Rw W (fun b=>b<W.heap.size) (Pg.nd g) v0∧NbP g∧B8P g∧g.fns.length+g.roles.length≤1125899906842624:=by
  obtain ⟨g,g1,g2,g3⟩:=prog_open (hval 0 25 v0 rfl rfl) h0
  exact ⟨g,g1,g2,g3,prog_len g1 h0 hsz⟩
 clear hA0 hval0
 refine (walk W (w11_laid hL) v0 w0).mono fun e W' ⟨he,bel⟩=>?_
 subst he
 exact ⟨_,rfl, _, _, _,[], _,[],hW',trodAll_mk1 (shut_bool Tryz.underlying4 _),(trodAll_cons_mk (Below.trod laid_out (by as_aux_lemma=>kernel_rfl) (of_decide_eq_true (by as_aux_lemma=>kernel_rfl)) k0 bel lt0) (trodAll_mk0)),rfl,bel.frame _,fun h=>by cases h⟩
set_option maxHeartbeats 8000000 in
theorem closed:joinedFacts Tryz.pinned.checked.prog 4 Tryz.f4 Rows.codeOnceSpec Rows.codeOnceRow=true:=by
 unfold joinedFacts
 simp only [Bool.and_eq_true]
 repeat' apply And.intro
 all_goals (as_aux_lemma=>kernel_rfl)
set_option maxHeartbeats 8000000 in
theorem over:Rows.codeOnceRow.holds Tryz.pinned (OpenSpec.ofChange Rows.codeOnceSpec) :=
 OpenClaim.holds_of_wide 4 Tryz.f4 rfl rfl rfl rfl rfl rfl rfl ⟨rfl,rfl,rfl,rfl,rfl⟩ rfl rfl rfl rfl rfl (by as_aux_lemma=>kernel_rfl) Tryz.func4 closed
  (of_decide_eq_true (by as_aux_lemma=>kernel_rfl)) (by unfold Func.isWrapper; first | (rw [if_pos (by decide +kernel)]; kernel_rfl) | (rw [if_neg (by decide +kernel)]; exact ⟨rfl,rfl⟩))
  (fun os started H enc _ => lifted os started H enc)
set_option maxHeartbeats 8000000 in
theorem proved:Rows.CodeOnceCardSaid :=
 Claim7.holds_tied_plain_at .later [] [.data,.data,.data,.sentinel,.sentinel,.data,.data] true Rows.codeOnceCard.stood.harness Rows.codeOnceCard.stood.looks
  over (fun _ h=>by cases h) (by as_aux_lemma=>kernel_rfl) (fun _ h=>by cases h) codeOnce_row_tie rfl ⟨rfl,rfl⟩ (by as_aux_lemma=>kernel_rfl) rfl
  (fun f fn hf hfn=>by
    obtain rfl : f = 4 := Option.some.inj ((show Tryz.prog.funcNamed "drover/droverlaw11.CodeOnce" = some 4 by as_aux_lemma => kernel_rfl).symm.trans hf) |>.symm
    obtain rfl:fn=Tryz.f4:=(Option.some.inj (Tryz.func4.symm.trans hfn)).symm
    exact ⟨by as_aux_lemma=>kernel_rfl,fun j t ht=>by
     have hall:(Tryz.f4.params.toList.all fun u=>!Tryz.prog.wantsStandIn u)=true:=by as_aux_lemma=>kernel_rfl
     have hm:t∈Tryz.f4.params.toList:=Array.mem_toList_iff.2 (Array.mem_of_getElem? ht)
     exact (show Tryz.prog.wantsStandIn t=false by simpa using List.all_eq_true.1 hall t hm)⟩)
  (by as_aux_lemma=>kernel_rfl)
end Go.Proofs.YtcmopnkldplngaaGreatDoor.codeOnce
