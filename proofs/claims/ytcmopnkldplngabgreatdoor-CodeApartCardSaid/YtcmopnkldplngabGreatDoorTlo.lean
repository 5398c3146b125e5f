/- Texts Tl,Tm,Tn,To,To2 of this seat in one: see each part. -/
import Derived.Deep.RegionLaw
import Derived.Test.YtcmopnkldplngabGreatDoorTfk
namespace Go.Proofs.YtcmopnkldplngabGreatDoor
open Go.RowKit
set_option linter.unusedVariables false
section
variable {w0:World} {T:List Nat} {R:Ru} {q:Nat} {or:Rr Ex} {m:Nat}
theorem OutX.more {w X Y:World} {nd:Nd} {p p':Pst} {e:Ending} (h:OutX w0 T R q w nd p e X) (k:Kp q X Y) (hc:Cx w0 T R q Y p') (hq:q<w.heap.size):OutX w0 T R q w nd p' e Y:=by
 obtain ⟨v,h1,h2,h3,h4⟩:=h
 exact ⟨v,h1,h2.more k hq,hc,h4.trans k⟩
set_option maxRecDepth 100000 in
set_option maxHeartbeats 4000000 in
theorem unary_any (ht:TxtOk w0 T) (HX:XC w0 T R q or m) (hG:Gk or) (k:Nat) (hk:k≤100000):∀ j:Nat,RC w0 T R q 140 #[at0 q] (unaryF T or k j) (m+j+1):=by
 intro j
 induction j with
 | zero =>
   intro w p r h hg hr
   simp [unaryF] at hr
 | succ j ih =>
   intro w p r h hg hr
   rw [unaryF] at hr
   have HB:=Lib.hid (begin_any (h.alloc exZ) (by unfold mostG at hg; omega))
   have hgb:=begin_g p
   have HSS:=Lib.hid (fun w' (h':Cx w0 T R q w' p.begin)=>sign_made ht h' [[45],[33]] #[.string ⟨#[45]⟩,.string ⟨#[33]⟩] 9 2 2 rfl rfl (by decide) (by decide))
   have hgs:=one_g T 5 [[45],[33]] p.begin
   have HO:=Lib.hid (fun w' (h':Cx w0 T R q w' p.begin)=>(one_sok ht 5 [[45],[33]] h'.ok).1)
   obtain ⟨p1,hp1⟩:∃ p1,p.begin=p1:=⟨_,rfl⟩
   rw [hp1] at HB HSS hr hgb hgs HO
   obtain ⟨s2,p2,hP2⟩:∃ s2 p2,p1.one T 5 [[45],[33]]=(s2,p2):=⟨_, _,rfl⟩
   rw [hP2] at HSS hr hgs HO
   dsimp only at HSS hr hgs HO
   have he2:(strOf s2).toList.isEmpty=decide (s2=[]):=one_empty _
   have HFD:=Lib.hid (fun u w' p' (h':Cx w0 T R q w' p') (h1:1≤p'.g) (h2:p'.g≤mostG)=>finD_any u h' h1 h2)
   have H0:=Lib.hid h
   have HZ:=Lib.hid (heap_new w exZ)
   have hq:=h.lt
   have hqa:¬ w.heap.size=q:=by omega
   clear hp1 hP2
   by_cases h2:s2=[]
   · rw [if_neg (fun hh=>hh h2)] at hr
     rw [decide_eq_true h2] at he2
     cases ho:postF T or k p2 with
     | none=>rw [ho] at hr; cases hr
     | some y =>
       obtain ⟨x,p3⟩:=y
       rw [ho] at hr
       cases hr
       have hg3:p3.g=p2.g:=postF_g hG k _ _ ho
       have HP:=Lib.hid (fun w' (h':Cx w0 T R q w' p2)=>post_any ht HX hG w' p2 (x,p3) h' k hk (by omega) ho)
       have HG3:Hid (1≤p3.g∧p3.g≤mostG):=Lib.hid (by omega)
       clear h ht HX hG ih hg hgb hgs ho hg3 h2
       unfold at0 exZ at *
       go_enter_defers Tryz.func140,Tryz.ntmps140
       go_wp2_with (first
         | (go_at_call 173
            refine HB.out.mono ?_
            rintro e w2 ⟨rfl,h2,hk2⟩
            have HC2:=Lib.hid h2
            have HK2:=Lib.hid (((Kp.refl q w).alloc _).trans hk2)
            have HZ2:=Lib.hid (hk2.heap HZ.out hqa)
            clear h2 hk2)
         | (go_at_call 172
            refine (HSS.out _ HC2.out).mono ?_
            rintro e w3 ⟨rfl,h3,hk3⟩
            have HC3:=Lib.hid h3
            have HK3:=Lib.hid (HK2.out.trans hk3)
            have HZ3:=Lib.hid (hk3.heap HZ2.out hqa)
            have hz3:=Lib.hid (lt_heap HZ3.out)
            clear h3 hk3)
         | (go_at_call 175
            refine (HP.out _ HC3.out).mono ?_
            rintro e w4 ⟨v4,rfl,hx4,h4,hk4⟩
            have HC4:=Lib.hid h4
            have HK4:=Lib.hid (HK3.out.trans hk4)
            have HZ4:=Lib.hid (hk4.heap HZ3.out hqa)
            obtain ⟨k0,s0,n0,l0⟩:=x
            obtain ⟨y,rfl,-,-,hy⟩:=(Ex.rd k0 s0 n0 l0 v4).1 hx4
            obtain ⟨A4,n4,c4,rfl⟩:=hy.row_form
            have HX4:=Lib.hid hx4
            have hz4:=lt_heap HZ4.out
            obtain ⟨⟨d0,d1,d2,d3⟩,f0,f1,f2,f3⟩:=box4f HZ4.out
            clear h4 hk4 hx4 hy)
         | (fail))
       have hcx:=H0.out.p4 (z0 := .int .u8 (k0:Int)) (z1 := .string (strOf s0)) (z2 := .int .i64 n0) (z3 := .slice A4 n4 c4) HC4.out HK4.out (Nat.le_refl _)
       have HEX:=Lib.hid (endX (nd:=Ex.nd (.mk k0 s0 n0 l0)) H0.out HC4.out HK4.out (Nat.le_refl _) HX4.out (fun b hb=>⟨by have:=hb.1; have:=hz3.out; omega,Nat.le_trans HK3.out.size hb.1,hb.2⟩))
       have q5:=set4 HZ4.out (.int .u8 (k0:Int)) (.string (strOf s0)) (.int .i64 n0) (.slice A4 n4 c4)
       refine leaves_cons (f:=174) (args:=#[.pointer (some ⟨q,0,none⟩)]) (by simp) (by simp [go_sem]) ?_
       refine (HFD.out _ _ p3 hcx HG3.out.1 HG3.out.2).mono ?_
       rintro e u' w5 ⟨rfl,rfl,h5,k5⟩
       obtain ⟨⟨e0,e1,e2,e3⟩,-⟩:=box4f (k5.heap q5 hqa)
       refine ⟨.agg #[.int .u8 (k0:Int),.string (strOf s0),.int .i64 n0,.slice A4 n4 c4],by simp [results,Tryz.results140,go_sem,e0,e1,e2,e3],?_⟩
       exact HEX.out.more k5 h5 hq
   · rw [if_pos h2] at hr
     rw [decide_eq_false h2] at he2
     cases ho:unaryF T or k j p2 with
     | none=>rw [ho] at hr; cases hr
     | some y =>
       obtain ⟨x,p3⟩:=y
       rw [ho] at hr
       cases hr
       have hg3:p3.g=p2.g:=unaryF_g hG k j _ _ ho
       have HP:=Lib.hid (fun w' (h':Cx w0 T R q w' p2)=>ih w' p2 (x,p3) h' (by omega) ho)
       have HG3:Hid (1≤p3.g∧p3.g≤mostG):=Lib.hid (by omega)
       clear h ht HX hG ih hg hgb hgs ho hg3 h2
       unfold at0 exZ at *
       go_enter_defers Tryz.func140,Tryz.ntmps140
       go_wp2_with (first
         | (go_at_call 173
            refine HB.out.mono ?_
            rintro e w2 ⟨rfl,h2,hk2⟩
            have HC2:=Lib.hid h2
            have HK2:=Lib.hid (((Kp.refl q w).alloc _).trans hk2)
            have HZ2:=Lib.hid (hk2.heap HZ.out hqa)
            clear h2 hk2)
         | (go_at_call 172
            refine (HSS.out _ HC2.out).mono ?_
            rintro e w3 ⟨rfl,h3,hk3⟩
            have HC3:=Lib.hid h3
            have HK3:=Lib.hid (HK2.out.trans hk3)
            have HZ3:=Lib.hid (hk3.heap HZ2.out hqa)
            have hz3:=Lib.hid (lt_heap HZ3.out)
            have HSO:=Lib.hid (HO.out _ HC2.out)
            clear h3 hk3)
         | (go_at_call 140
            refine (HP.out _ HC3.out).mono ?_
            rintro e w4 ⟨v4,rfl,hx4,h4,hk4⟩
            have HC4:=Lib.hid h4
            have HK4:=Lib.hid (HK3.out.trans hk4)
            have HZ4:=Lib.hid (hk4.heap HZ3.out hqa)
            obtain ⟨k0,s0,n0,l0⟩:=x
            obtain ⟨y,rfl,-,-,hy⟩:=(Ex.rd k0 s0 n0 l0 v4).1 hx4
            obtain ⟨A4,n4,c4,rfl⟩:=hy.row_form
            have HX4:=Lib.hid hx4
            have HS4:=Lib.hid hk4.size
            have hz4:=lt_heap HZ4.out
            obtain ⟨⟨d0,d1,d2,d3⟩,f0,f1,f2,f3⟩:=box4f HZ4.out
            clear h4 hk4 hx4 hy)
         | (fail))
       have HR5:=Lib.hid (RowX.lit w3 w4 276 #[.int .u8 (k0:Int),.string (strOf s0),.int .i64 n0,.slice A4 n4 c4] (Ex.nd (.mk k0 s0 n0 l0)) 4 rfl HS4.out HX4.out).rd
       have hcx:=(H0.out.p4 (z0 := .int .u8 7) (z1 := .string (strOf s2)) (z2 := .int .i64 0) (z3 := .slice (some ⟨w4.heap.size,0,none⟩) 1 1) HC4.out HK4.out (Nat.le_refl _)).alloc (.cells #[.int .u8 (k0:Int),.string (strOf s0),.int .i64 n0,.slice A4 n4 c4] 276)
       have HEX:=Lib.hid (endXo (nd:=Ex.nd (.mk 7 s2 0 [.mk k0 s0 n0 l0])) (z0 := .int .u8 7) (z1 := .string (strOf s2)) (z2 := .int .i64 0) (z3 := .slice (some ⟨w4.heap.size,0,none⟩) 1 1) (.cells #[.int .u8 (k0:Int),.string (strOf s0),.int .i64 n0,.slice A4 n4 c4] 276) H0.out HC4.out HK4.out (Nat.le_refl _) hz4 ((Ex.rd 7 s2 0 [.mk k0 s0 n0 l0] _).2 ⟨_,rfl,HSO.out.1,by have:=HSO.out.2; omega,HR5.out⟩) (fun b hb=>⟨by have:=hb.1; have:=hz3.out; omega,Nat.le_trans HK3.out.size hb.1,hb.2⟩))
       have q5:=heap_old (set4 HZ4.out (.int .u8 7) (.string (strOf s2)) (.int .i64 0) (.slice (some ⟨w4.heap.size,0,none⟩) 1 1)) (.cells #[.int .u8 (k0:Int),.string (strOf s0),.int .i64 n0,.slice A4 n4 c4] 276)
       refine leaves_cons (f:=174) (args:=#[.pointer (some ⟨q,0,none⟩)]) (by simp) (by simp [go_sem]) ?_
       refine (HFD.out _ _ p3 hcx HG3.out.1 HG3.out.2).mono ?_
       rintro e u' w5 ⟨rfl,rfl,h5,k5⟩
       obtain ⟨⟨e0,e1,e2,e3⟩,-⟩:=box4f (k5.heap q5 hqa)
       refine ⟨.agg #[.int .u8 7,.string (strOf s2),.int .i64 0,.slice (some ⟨w4.heap.size,0,none⟩) 1 1],by simp [results,Tryz.results140,go_sem,e0,e1,e2,e3],?_⟩
       exact HEX.out.more k5 h5 hq
theorem or_any (ht:TxtOk w0 T):∀ n:Nat,n≤100000→XC w0 T R q (orF T n) (n*n)
 | 0, _ => fun w p r h hg hr=>by simp [orF] at hr
 | n + 1,hn=>fun w p r h hg hr=>by
   rw [orF] at hr
   have e:n*n+n+1≤(n+1)*(n+1):=by
     rw [Nat.add_mul,Nat.mul_add]
     omega
   have hg':p.g+(n*n+n+1)≤mostG:=by omega
   have g0:=unaryF_g (T:=T) (orF_g (T:=T) n) n n
   have g1:=twosF_g (T:=T) g0 32768 sMul
   have g2:=twosF_g (T:=T) g1 32768 sAdd
   have g3:=twosF_g (T:=T) g2 1 sCmp
   have g4:=twosF_g (T:=T) g3 32768 sAnd
   have u:=unary_any ht (or_any ht n (by omega)) (orF_g n) n (by omega) n
   have c1:=twosU_any ht R.mul 32768 (by omega) sMul (by decide) (by decide) (fun w p h=>h.hr.mul) u g0
   have c2:=twosL_any ht R.add R.mul 32768 (by omega) sAdd (by decide) (by decide) (fun w p h=>h.hr.add) c1 g1
   have c3:=twosL_any ht R.cmp R.add 1 (by omega) sCmp (by decide) (by decide) (fun w p h=>h.hr.cmp) c2 g2
   have c4:=twosL_any ht R.and R.cmp 32768 (by omega) sAnd (by decide) (by decide) (fun w p h=>h.hr.and) c3 g3
   have c5:=twosL_any ht R.or R.and 32768 (by omega) sOr (by decide) (by decide) (fun w p h=>h.hr.or) c4 g4
   exact c5 w p r h hg' hr
end
end Go.Proofs.YtcmopnkldplngabGreatDoor
namespace Go.Proofs.YtcmopnkldplngabGreatDoor
open Go.RowKit
set_option linter.unusedVariables false
section
variable {w X:World} {g:Nat} {S:Nat→Prop} {nd:Nd} {v:Value}
theorem set1_heap_alloc (o:Obj) (i:Nat) (u:Value) {k:Nat} (hk:k≠g):((X.setCell ⟨g,i,none⟩ u).alloc o).heap[k]?=(X.alloc o).heap[k]?:=by
 have hs:(X.setCell ⟨g,i,none⟩ u).heap.size=X.heap.size:=by simp
 by_cases h1:k<X.heap.size
 · rw [Below.heap_alloc _ o k (by omega),Below.heap_alloc _ o k h1]
   unfold World.setCell
   simp only [Array.getElem?_modify]
   rw [if_neg (fun e=>hk e.symm)]
 · by_cases h2:k=X.heap.size
   · subst h2
     rw [heap_new X o,← hs]
     exact heap_new _ o
   · rw [Array.getElem?_eq_none (by simp; omega),Array.getElem?_eq_none (by simp; omega)]
theorem set1_cell_alloc (o:Obj) (i:Nat) (u:Value) {a:Addr} (ha:a.block≠g):((X.setCell ⟨g,i,none⟩ u).alloc o).cell? a=(X.alloc o).cell? a:=by
 have:=set1_heap_alloc (X:=X) (i:=i) (u:=u) o ha
 unfold World.cell?
 rw [this]
theorem Rd.set1 (h:Rd X S nd v) (hS:∀ b,S b→b≠g) (i:Nat) (u:Value):Rd (X.setCell ⟨g,i,none⟩ u) S nd v:=Rd.keep (fun a ha=>cell_ne (hS _ ha)) (fun _ h=>h) _ _ h
end
def P6 (X:World) (g:Nat) (z0 z1 z2 z3 z4 z5:Value):World:=(((((X.setCell ⟨g,0,none⟩ z0).setCell ⟨g,1,none⟩ z1).setCell ⟨g,2,none⟩ z2).setCell ⟨g,3,none⟩ z3).setCell ⟨g,4,none⟩ z4).setCell ⟨g,5,none⟩ z5
def smZ:Obj := .cells #[.int .u8 0,.string ⟨#[]⟩,.slice none 0 0,.slice none 0 0,.slice none 0 0,.int .i64 0] 218
section
variable {w0:World} {T:List Nat} {R:Ru} {q:Nat}
def Sg (w X:World) (g0 g3:Nat):Nat→Prop:=fun b=>Nw w X b∧b≠g0∧b≠g3
structure StAt (w X:World) (g0 g3:Nat) (k:Nat) (s:List Nat) (x:List Ex) (b c:List Sm) (ln:Nat) (yx yb yc:Value):Prop where
 e:X.heap[g3]?=some (.cells #[.int .u8 (k:Int),.string (strOf s),yx,yb,yc,.int .i64 (ln:Int)] 218 (0,0))
 z:X.heap[g0]?=some (.cells #[.int .u8 0,.string ⟨#[]⟩,.slice none 0 0,.slice none 0 0,.slice none 0 0,.int .i64 0] 218 (0,0))
 rx:Rd X (Sg w X g0 g3) (.row 4 (x.map Ex.nd)) yx
 rb:Rd X (Sg w X g0 g3) (.row 6 (b.map Sm.nd)) yb
 rc:Rd X (Sg w X g0 g3) (.row 6 (c.map Sm.nd)) yc
 ok:Sok s
section
variable {w X Y:World} {g0 g3:Nat} {k:Nat} {s:List Nat} {x:List Ex} {b c:List Sm} {ln:Nat} {yx yb yc:Value}
theorem Sg.keep (hk:Kp q X Y) (hq:q<w.heap.size) {nd:Nd} {v:Value} (h:Rd X (Sg w X g0 g3) nd v):Rd Y (Sg w Y g0 g3) nd v :=
 Rd.keep (fun p hp=>hk.cellq hp.1.2 (by have:=hp.1.1; omega)) (fun b hb=>⟨⟨hb.1.1,Nat.lt_of_lt_of_le hb.1.2 hk.size⟩,hb.2⟩) _ _ h
theorem StAt.kp (h:StAt w X g0 g3 k s x b c ln yx yb yc) (hk:Kp q X Y) (hq:q<w.heap.size) (h0:g0≠q) (h3:g3≠q):StAt w Y g0 g3 k s x b c ln yx yb yc :=
 ⟨hk.heap h.e h3,hk.heap h.z h0,Sg.keep hk hq h.rx,Sg.keep hk hq h.rb,Sg.keep hk hq h.rc,h.ok⟩
theorem Sg.set (i:Nat) (u:Value) {nd:Nd} {v:Value} (h:Rd X (Sg w X g0 g3) nd v):Rd (X.setCell ⟨g3,i,none⟩ u) (Sg w (X.setCell ⟨g3,i,none⟩ u) g0 g3) nd v :=
 Rd.keep (fun _ _ => rfl) (fun b hb=>⟨⟨hb.1.1,by simpa using hb.1.2⟩,hb.2⟩) _ _ (h.set1 (fun b hb=>hb.2.2) i u)
theorem Sg.seto (o:Obj) (i:Nat) (u:Value) {nd:Nd} {v:Value} (h:Rd (X.alloc o) (Sg w (X.alloc o) g0 g3) nd v):Rd ((X.setCell ⟨g3,i,none⟩ u).alloc o) (Sg w ((X.setCell ⟨g3,i,none⟩ u).alloc o) g0 g3) nd v :=
 Rd.keep (fun p hp=>set1_cell_alloc o i u hp.2.2) (fun b hb=>⟨⟨hb.1.1,by simpa using hb.1.2⟩,hb.2⟩) _ _ h
theorem Sg.alloc (o:Obj) {nd:Nd} {v:Value} (h:Rd X (Sg w X g0 g3) nd v):Rd (X.alloc o) (Sg w (X.alloc o) g0 g3) nd v :=
 Rd.keep (fun p hp=>((Below.refl _ X).alloc (Nat.le_refl _) o).cell hp.1.2) (fun b hb=>⟨⟨hb.1.1,by have:=hb.1.2; simp; omega⟩,hb.2⟩) _ _ h
theorem Sg.of {b':World} {nd:Nd} {v:Value} (h:Rd X (Nw b' X) nd v) (hw:w.heap.size≤b'.heap.size) (h0:g0<b'.heap.size) (h3:g3<b'.heap.size):Rd X (Sg w X g0 g3) nd v :=
 Rd.keep (fun _ _ => rfl) (fun k hk=>⟨⟨Nat.le_trans hw hk.1,hk.2⟩,by have:=hk.1; omega,by have:=hk.1; omega⟩) _ _ h
theorem StAt.alloc (h:StAt w X g0 g3 k s x b c ln yx yb yc) (o:Obj):StAt w (X.alloc o) g0 g3 k s x b c ln yx yb yc:=⟨heap_old h.e o,heap_old h.z o,Sg.alloc o h.rx,Sg.alloc o h.rb,Sg.alloc o h.rc,h.ok⟩
theorem StAt.setK (h:StAt w X g0 g3 k s x b c ln yx yb yc) (hn:g0≠g3) (k':Nat):StAt w (X.setCell ⟨g3,0,none⟩ (.int .u8 (k':Int))) g0 g3 k' s x b c ln yx yb yc :=
 ⟨by simpa using heap_set h.e 0 (.int .u8 (k':Int)),heap_set_ne h.z hn _ _,Sg.set _ _ h.rx,Sg.set _ _ h.rb,Sg.set _ _ h.rc,h.ok⟩
theorem StAt.setS (h:StAt w X g0 g3 k s x b c ln yx yb yc) (hn:g0≠g3) (s':List Nat) (hs:Sok s'):StAt w (X.setCell ⟨g3,1,none⟩ (.string (strOf s'))) g0 g3 k s' x b c ln yx yb yc :=
 ⟨by simpa using heap_set h.e 1 (.string (strOf s')),heap_set_ne h.z hn _ _,Sg.set _ _ h.rx,Sg.set _ _ h.rb,Sg.set _ _ h.rc,hs⟩
theorem StAt.setX (h:StAt w X g0 g3 k s x b c ln yx yb yc) (hn:g0≠g3) {x':List Ex} {y:Value} (hx:Rd X (Sg w X g0 g3) (.row 4 (x'.map Ex.nd)) y):StAt w (X.setCell ⟨g3,2,none⟩ y) g0 g3 k s x' b c ln y yb yc :=
 ⟨by simpa using heap_set h.e 2 y,heap_set_ne h.z hn _ _,Sg.set _ _ hx,Sg.set _ _ h.rb,Sg.set _ _ h.rc,h.ok⟩
theorem StAt.setXo (h:StAt w X g0 g3 k s x b c ln yx yb yc) (hn:g0≠g3) (o:Obj) {x':List Ex} {y:Value} (hx:Rd (X.alloc o) (Sg w (X.alloc o) g0 g3) (.row 4 (x'.map Ex.nd)) y):StAt w ((X.setCell ⟨g3,2,none⟩ y).alloc o) g0 g3 k s x' b c ln y yb yc :=
 ⟨heap_old (by simpa using heap_set h.e 2 y) o,heap_old (heap_set_ne h.z hn _ _) o,Sg.seto o _ _ hx,Sg.seto o _ _ (Sg.alloc o h.rb),Sg.seto o _ _ (Sg.alloc o h.rc),h.ok⟩
theorem StAt.setB (h:StAt w X g0 g3 k s x b c ln yx yb yc) (hn:g0≠g3) {b':List Sm} {y:Value} (hx:Rd X (Sg w X g0 g3) (.row 6 (b'.map Sm.nd)) y):StAt w (X.setCell ⟨g3,3,none⟩ y) g0 g3 k s x b' c ln yx y yc :=
 ⟨by simpa using heap_set h.e 3 y,heap_set_ne h.z hn _ _,Sg.set _ _ h.rx,Sg.set _ _ hx,Sg.set _ _ h.rc,h.ok⟩
theorem StAt.setC (h:StAt w X g0 g3 k s x b c ln yx yb yc) (hn:g0≠g3) {c':List Sm} {y:Value} (hx:Rd X (Sg w X g0 g3) (.row 6 (c'.map Sm.nd)) y):StAt w (X.setCell ⟨g3,4,none⟩ y) g0 g3 k s x b c' ln yx yb y :=
 ⟨by simpa using heap_set h.e 4 y,heap_set_ne h.z hn _ _,Sg.set _ _ h.rx,Sg.set _ _ h.rb,Sg.set _ _ hx,h.ok⟩
theorem Cx.one {p0 p:Pst} (h0:Cx w0 T R q w p0) (hc:Cx w0 T R q X p) (hk:Kp q w X) (hg:w.heap.size≤g3) (i:Nat) (v:Value):Cx w0 T R q (X.setCell ⟨g3,i,none⟩ v) p∧Kp q w (X.setCell ⟨g3,i,none⟩ v):=by
 have:=h0.lt
 have hk':=hk.setNew (p:=⟨g3,i,none⟩) hg v
 exact ⟨h0.on hk' (heap_set_ne hc.hp (by omega) i v) hc.ok,hk'⟩
theorem endS {p0 p:Pst} (h0:Cx w0 T R q w p0) (hc:Cx w0 T R q X p) (hk:Kp q w X) (hg:w.heap.size≤g0) (h:StAt w X g0 g3 k s x b c ln yx yb yc) :
   OutX w0 T R q w (Sm.nd (.mk k s x b c ln)) p (.returned (.agg #[.int .u8 (k:Int),.string (strOf s),yx,yb,yc,.int .i64 (ln:Int)])) (P6 X g0 (.int .u8 (k:Int)) (.string (strOf s)) yx yb yc (.int .i64 (ln:Int))):=by
 have hcell:∀ a:Addr,a.block≠g0→(P6 X g0 (.int .u8 (k:Int)) (.string (strOf s)) yx yb yc (.int .i64 (ln:Int))).cell? a=X.cell? a:=fun a ha=>by
   unfold P6
   rw [cell_ne ha,cell_ne ha,cell_ne ha,cell_ne ha,cell_ne ha,cell_ne ha]
 have hsz:(P6 X g0 (.int .u8 (k:Int)) (.string (strOf s)) yx yb yc (.int .i64 (ln:Int))).heap.size=X.heap.size:=by unfold P6; simp
 have key:∀ {nd:Nd} {v:Value},Rd X (Sg w X g0 g3) nd v→Rd (P6 X g0 (.int .u8 (k:Int)) (.string (strOf s)) yx yb yc (.int .i64 (ln:Int))) (Nw w (P6 X g0 (.int .u8 (k:Int)) (.string (strOf s)) yx yb yc (.int .i64 (ln:Int)))) nd v:=fun h =>
   Rd.keep (fun a ha=>hcell a ha.2.1) (fun b hb=>⟨hb.1.1,by rw [hsz]; exact hb.1.2⟩) _ _ h
 have c1:=Cx.one h0 hc hk hg 0 (.int .u8 (k:Int))
 have c2:=Cx.one h0 c1.1 c1.2 hg 1 (.string (strOf s))
 have c3:=Cx.one h0 c2.1 c2.2 hg 2 yx
 have c4:=Cx.one h0 c3.1 c3.2 hg 3 yb
 have c5:=Cx.one h0 c4.1 c4.2 hg 4 yc
 have c6:=Cx.one h0 c5.1 c5.2 hg 5 (.int .i64 (ln:Int))
 exact ⟨_,rfl,(Sm.rd k s x b c ln _).2 ⟨yx,yb,yc,rfl,h.ok.1,by have:=h.ok.2; omega,key h.rx,key h.rb,key h.rc⟩,c6.1,c6.2⟩
end
theorem stmt_info:(Tryz.prog.info? 218).map (fun i=>(i.zero,i.size,i.bytes))=some (some (.agg #[.int .u8 0,.string ⟨#[]⟩,.slice none 0 0,.slice none 0 0,.slice none 0 0,.int .i64 0]),6,104):=by kernel_rfl
end
end Go.Proofs.YtcmopnkldplngabGreatDoor
namespace Go.Proofs.YtcmopnkldplngabGreatDoor
open Go.RowKit
set_option linter.unusedVariables false
section
variable {w0:World} {T:List Nat} {R:Ru} {q:Nat}
def SC (w0:World) (T:List Nat) (R:Ru) (q:Nat) (B:Rr Sm) (m:Nat):Prop:=∀ w p (r:Sm × Pst),Cx w0 T R q w p→p.g+m≤mostG→B p=some r→Calls Tryz.prog 209 #[at0 q] w (OutX w0 T R q w r.1.nd r.2)
def BC (w0:World) (T:List Nat) (R:Ru) (q:Nat) (B:Rr (List Sm)) (m:Nat):Prop:=∀ w p (r:List Sm × Pst),Cx w0 T R q w p→p.g+m≤mostG→B p=some r→Calls Tryz.prog 180 #[at0 q] w (OutX w0 T R q w (.row 6 (r.1.map Sm.nd)) r.2)
theorem ok_at {w:World} {p:Pst} (h:Cx w0 T R q w p):Calls Tryz.prog 142 #[at0 q] w fun e w'=>e = .returned (.bool (decide (p.er=0)))∧w'=w:=ok_any h
set_option maxRecDepth 100000 in
set_option maxHeartbeats 4000000 in
theorem body_any (ht:TxtOk w0 T) {B:Rr Sm} {m:Nat} (HX:SC w0 T R q B m) (hG:Gk B) (k:Nat) (hk:k≤100000):BC w0 T R q (bodyF T B k) m:=by
 intro w p r h hg hr
 have HM:=Lib.hid (must_any ht h [123] ⟨#[123]⟩ rfl (by decide))
 have hgm:=must_g T [123] p
 have hq:=h.lt
 have H0:=Lib.hid h
 unfold bodyF at hr
 obtain ⟨b1,p1,hP1⟩:∃ b1 p1,p.must T [123]=(b1,p1):=⟨_, _,rfl⟩
 rw [hP1] at HM hr hgm
 dsimp only at HM hr hgm
 have HR:=Lib.hid hr
 have HG3:=Lib.hid hgm
 have HXX:=Lib.hid (fun w' p' (rr:Sm × Pst) (h':Cx w0 T R q w' p') (hg':p'.g=p.g) (ho':B p'=some rr)=>HX w' p' rr h' (by omega) ho')
 have HSS:=Lib.hid (fun p' w' (h':Cx w0 T R q w' p')=>sign_made ht h' [[125]] #[.string ⟨#[125]⟩] 9 1 1 rfl rfl (by decide) (by decide))
 have HGG:=Lib.hid (fun p':Pst=>one_g T 5 [[125]] p')
 have HOK:=Lib.hid (fun p' w' (h':Cx w0 T R q w' p')=>ok_at h')
 clear h hr ht hgm hP1 HX
 obtain ⟨i0,hi0,hz0,hz1,hz2⟩:=info_parts stmt_info
 unfold at0 at *
 go_enter Tryz.func180,Tryz.ntmps180
 go_wp2_with (first
   | (go_at_call 181
      refine HM.out.mono ?_
      rintro e w1 ⟨rfl,h1,hk1⟩
      have HH1:=Lib.hid h1
      have HK1:=Lib.hid hk1
      clear h1 hk1)
   | (fail))
 go_loopg [3] k (fun g v wr=>∃ (l:List Sm) (L:List Nd) (pj:Pst),Hid (stmtsF T B g l pj=some r∧l.map Sm.nd=L)∧L.length+g≤200000∧Hid (pj.g=p.g)∧Hid (RowX w wr 218 6 v L)∧Hid (Cx w0 T R q wr pj)∧Hid (Kp q w wr))
 case atStart=>exact ⟨[],[],p1,Lib.hid ⟨HR.out,rfl⟩,by simp; omega,HG3,Lib.hid (RowX.nil _ _ _ _),HH1,HK1⟩
 case round =>
   obtain ⟨l,L,pj,HF,hlen,HGJ,HRow,HCj,HKj⟩:=hrel
   obtain ⟨Av,cv,rfl,hcv,hcmv⟩:=HRow.out.form
   cases gk with
   | zero=>exact absurd HF.out.1 (by simp [stmtsF])
   | succ g =>
     have hF:=HF.out.1
     have HLL:=Lib.hid HF.out.2
     rw [stmtsF] at hF
     have HS4:=Lib.hid (HSS.out pj wr HCj.out)
     have HO4:=Lib.hid (HOK.out pj wr HCj.out)
     have hg4:=HGG.out pj
     obtain ⟨s4,p4,hP4⟩:∃ s4 p4,pj.one T 5 [[125]]=(s4,p4):=⟨_, _,rfl⟩
     rw [hP4] at hF HS4 hg4
     dsimp only at hF HS4 hg4
     have he4:(strOf s4).toList.isEmpty=decide (s4=[]):=one_empty _
     have hszr:w.heap.size≤wr.heap.size:=HKj.out.size
     clear hP4 HF HM HH1 HK1 HR
     by_cases her:pj.er=0
     · rw [if_neg (fun hh=>hh her)] at hF
       rw [decide_eq_true her] at HO4
       clear her
       by_cases h4:s4=[]
       · rw [if_neg (fun hh=>hh h4)] at hF
         rw [decide_eq_true h4] at he4
         cases ho4:B p4 with
         | none=>rw [ho4] at hF; cases hF
         | some y4 =>
           obtain ⟨x4,p5⟩:=y4
           rw [ho4] at hF
           dsimp only at hF
           have HF5:=Lib.hid hF
           have HG5:Hid (p5.g=p.g):=Lib.hid (by have:=hG _ _ ho4; rw [show p5.g = _ from this,hg4,HGJ.out])
           have HX4:=Lib.hid (fun w' (h':Cx w0 T R q w' p4)=>HXX.out w' p4 _ h' (by rw [hg4,HGJ.out]) ho4)
           clear hF h4 hg4 ho4 HSS HXX HGG HOK
           go_wp2_with (first
             | (go_at_call 142
                refine HO4.out.mono ?_
                rintro e w5 ⟨rfl,rfl⟩)
             | (go_at_call 172
                refine HS4.out.mono ?_
                rintro e w5 ⟨rfl,h5,hk5⟩
                have HH5:=Lib.hid h5
                have HK5:=Lib.hid hk5
                clear h5 hk5)
             | (go_at_call 209
                refine (HX4.out _ HH5.out).mono ?_
                rintro e w6 ⟨v6,rfl,hx6,hc6,hk6⟩
                have HC6:=Lib.hid hc6
                have HK6:=Lib.hid (HK5.out.trans hk6)
                have HX6:=Lib.hid (hx6.early HK5.out.size)
                obtain ⟨k4,s5,x5,b5,c5,ln5⟩:=x4
                obtain ⟨yx,yb,yc,rfl,-,-,hyx,hyb,hyc⟩:=(Sm.rd k4 s5 x5 b5 c5 ln5 v6).1 hx6
                obtain ⟨A1,n1,c1,rfl⟩:=hyx.row_form
                obtain ⟨A2,n2,c2,rfl⟩:=hyb.row_form
                obtain ⟨A3,n3,c3,rfl⟩:=hyc.row_form
                have HRA:=Lib.hid (fun o=>(HRow.out.kp HK6.out hq).kp ((Kp.refl q w6).alloc o) hq)
                clear hc6 hk6 hx6 hyx hyb hyc)
             | (at_builtin
                obtain ⟨xs,ho5,hf5⟩:=HRA.out (.cells #[.int .u8 (k4:Int),.string (strOf s5),.slice A1 n1 c1,.slice A2 n2 c2,.slice A3 n3 c3,.int .i64 ln5] 218)
                have hs6:w.heap.size≤w6.heap.size:=Nat.le_trans hszr HK6.out.size
                refine wpList_append_at _ rfl (.tmp 14) (.tmp 17) 85 rfl w.heap.size 218 i0 _ 6 104 Tryz.underlying85 hi0 hz0 hz1 hz2 rfl (by omega) _ _ xs rfl ho5 _ _ 1 1 [.int .u8 (k4:Int),.string (strOf s5),.slice A1 n1 c1,.slice A2 n2 c2,.slice A3 n3 c3,.int .i64 ln5] rfl (At.made _ _ _) rfl (by intro u hu; simp at hu; rcases hu with rfl | rfl | rfl | rfl | rfl | rfl <;> rfl) (by unfold maxLen; omega) (by omega) (by simp; omega) ?_
                intro v' w7 ho7 hg7 hor7
                have hx5:Rd (w6.alloc (.cells #[.int .u8 (k4:Int),.string (strOf s5),.slice A1 n1 c1,.slice A2 n2 c2,.slice A3 n3 c3,.int .i64 ln5] 218)) (fun b=>Nw w (w6.alloc (.cells #[.int .u8 (k4:Int),.string (strOf s5),.slice A1 n1 c1,.slice A2 n2 c2,.slice A3 n3 c3,.int .i64 ln5] 218)) b∧some b≠(Value.slice Av L.length cv).ownBlock) (Sm.nd (.mk k4 s5 x5 b5 c5 ln5)) (.agg #[.int .u8 (k4:Int),.string (strOf s5),.slice A1 n1 c1,.slice A2 n2 c2,.slice A3 n3 c3,.int .i64 ln5]):=by
                  refine Rd.keep (fun p hp=>((Below.refl _ w6).alloc (Nat.le_refl _) _).cell hp.2) (fun b hb=>⟨⟨Nat.le_trans hszr hb.1,by have:=hb.2; simp; omega⟩,?_⟩) _ _ HX6.out
                  rcases own_ge HRow.out.choose_spec.1 with e | ⟨g',e,-,e2⟩
                  · rw [e]; simp
                  · rw [e]
                    intro e3
                    have:=Option.some.inj e3
                    have:=hb.1
                    omega
                have HR7:=Lib.hid (RowX.snoc (x:=Sm.nd (.mk k4 s5 x5 b5 c5 ln5)) (news:=[.int .u8 (k4:Int),.string (strOf s5),.slice A1 n1 c1,.slice A2 n2 c2,.slice A3 n3 c3,.int .i64 ln5]) ho5 hf5 hx5 rfl ho7 hg7 hor7)
                have hcg:=Cx.grown H0.out (HC6.out.alloc _) ((HKj.out.trans HK6.out).alloc _) hg7 (fun g' e0=>by
                  have e:(Value.slice Av L.length cv).ownBlock=some g':=e0
                  rcases own_ge HRow.out.choose_spec.1 with e2 | ⟨g2,e2,e3,-⟩
                  · rw [e2] at e; cases e
                  · rw [e2] at e
                    have:=Option.some.inj e
                    omega)
                have HC7:=Lib.hid hcg.1
                have HK7:=Lib.hid hcg.2
                clear hcg
                clear ho5 hf5 hx5 ho7 hg7 hor7)
             | (fail))
           go_roundg g
           case measure=>omega
           case rel=>exact ⟨l ++ [_],L ++ [_],p5,Lib.hid ⟨HF5.out,by rw [List.map_append,HLL.out]; rfl⟩,by simp; omega,HG5,HR7,HC7,HK7⟩
       · rw [if_pos h4] at hF
         rw [decide_eq_false h4] at he4
         cases hF
         clear h4 HXX hg4
         go_wp2_with (first
           | (go_at_call 142
              refine HO4.out.mono ?_
              rintro e w5 ⟨rfl,rfl⟩)
           | (go_at_call 172
              refine HS4.out.mono ?_
              rintro e w5 ⟨rfl,h5,hk5⟩
              have HH5:=Lib.hid h5
              have HK5:=Lib.hid hk5
              clear h5 hk5)
           | (fail))
         go_ret
         refine ⟨_,rfl,?_,HH5.out,HKj.out.trans HK5.out⟩
         show Rd _ _ (.row 6 (l.map Sm.nd)) _
         rw [HLL.out]
         exact (HRow.out.kp HK5.out hq).rd
     · rw [if_pos her] at hF
       rw [decide_eq_false her] at HO4
       cases hF
       clear her HXX hg4 HS4 he4
       go_wp2_with (first
         | (go_at_call 142
            refine HO4.out.mono ?_
            rintro e w5 ⟨rfl,rfl⟩)
         | (fail))
       go_ret
       refine ⟨_,rfl,?_,HCj.out,HKj.out⟩
       show Rd _ _ (.row 6 (l.map Sm.nd)) _
       rw [HLL.out]
       exact HRow.out.rd
end
end Go.Proofs.YtcmopnkldplngabGreatDoor
namespace Go.Proofs.YtcmopnkldplngabGreatDoor
open Go.RowKit
set_option linter.unusedVariables false
section
variable {w0:World} {T:List Nat} {R:Ru} {q:Nat} {or:Rr Ex} {body:Rr (List Sm)} {m:Nat}
def BrOut (w0:World) (T:List Nat) (R:Ru) (q:Nat) (wS:World) (g0 g3 k ln:Nat) (r:Sm × Pst) (w':World):Prop :=
 ∃ x b c yx yb yc,r.1 = .mk k [] x b c ln∧StAt wS w' g0 g3 k [] x b c ln yx yb yc∧Cx w0 T R q w' r.2∧Kp q wS w'
theorem Sg.one {wS w1 X:World} {g0 g3:Nat} {k1:Nat} {s1:List Nat} {n1:Int} {l1:List Ex} {A1:Option Addr} {m1 c1:Nat} (hx:Rd X (Nw w1 X) (Ex.nd (.mk k1 s1 n1 l1)) (.agg #[.int .u8 (k1:Int),.string (strOf s1),.int .i64 n1,.slice A1 m1 c1]))
   (hw:wS.heap.size≤w1.heap.size) (h0:g0<w1.heap.size) (h3:g3<w1.heap.size) (h1:w1.heap.size≤X.heap.size) :
   Rd (X.alloc (.cells #[.int .u8 (k1:Int),.string (strOf s1),.int .i64 n1,.slice A1 m1 c1] 276)) (Sg wS (X.alloc (.cells #[.int .u8 (k1:Int),.string (strOf s1),.int .i64 n1,.slice A1 m1 c1] 276)) g0 g3) (.row 4 (([.mk k1 s1 n1 l1]:List Ex).map Ex.nd)) (.slice (some ⟨X.heap.size,0,none⟩) 1 1):=by
 have hf:Flat X (Sg wS X g0 g3) 4 [.int .u8 (k1:Int),.string (strOf s1),.int .i64 n1,.slice A1 m1 c1] [Ex.nd (.mk k1 s1 n1 l1)]:=Flat.one rfl (Sg.of hx hw h0 h3)
 have hl:=Rd.lit (E:=276) (arr:=#[.int .u8 (k1:Int),.string (strOf s1),.int .i64 n1,.slice A1 m1 c1]) (k:=1) (fun b hb=>hb.1.2) hf rfl (by omega)
 refine Rd.keep (fun _ _ => rfl) (fun b hb=>?_) _ _ hl
 rcases hb with hb | hb
 · exact ⟨⟨hb.1.1,by have:=hb.1.2; simp; omega⟩,hb.2⟩
 · subst hb
   exact ⟨⟨by omega,by simp⟩,by omega,by omega⟩
set_option maxRecDepth 100000 in
set_option maxHeartbeats 4000000 in
theorem branch_any (ht:TxtOk w0 T) (HX:XC w0 T R q or m) (HB:BC w0 T R q body m) (hG:Gk or) (hGb:Gk body) (wS:World) (pS:Pst) (hS:Cx w0 T R q wS pS) (w:World) (p:Pst) (h:Cx w0 T R q w p) (hK:Kp q wS w) (g0 g3 k ln:Nat) (hg0:wS.heap.size≤g0) (hg3:wS.heap.size≤g3) (hn:g0≠g3)
   (hk:k=3∨k=4) (yx yb yc:Value) (hst:StAt wS w g0 g3 k [] [] [] [] ln yx yb yc) (hg:p.g+m≤mostG) (r:Sm × Pst) (hr:branchF T or body k ln p=some r) :
   Calls Tryz.prog 242 #[at0 q,at0 g3] w fun e w'=>e = .returned (.tuple #[])∧BrOut w0 T R q wS g0 g3 k ln r w':=by
 have HM:=Lib.hid (must_any ht h [40] ⟨#[40]⟩ rfl (by decide))
 have HMM:=Lib.hid (fun p' w' (h':Cx w0 T R q w' p')=>must_any ht h' [41] ⟨#[41]⟩ rfl (by decide))
 have HKE:=Lib.hid (fun p' w' (h':Cx w0 T R q w' p')=>key_made ht h' [[101,108,115,101]] #[.string ⟨#[101,108,115,101]⟩] 9 1 1 rfl rfl (by decide) (by decide))
 have hgm:=must_g T [40] p
 have hqS:=hS.lt
 have HqS:=Lib.hid hS.lt
 have hq:=h.lt
 have hq0:g0≠q:=by omega
 have hq3:g3≠q:=by omega
 unfold branchF at hr
 obtain ⟨b1,p1,hP1⟩:∃ b1 p1,p.must T [40]=(b1,p1):=⟨_, _,rfl⟩
 rw [hP1] at HM hr hgm
 dsimp only at HM hr hgm
 cases ho:or p1 with
 | none=>rw [ho] at hr; cases hr
 | some y =>
   obtain ⟨x,p2⟩:=y
   rw [ho] at hr
   dsimp only at hr
   have hg2:=hG _ _ ho
   have hg3':=must_g T [41] p2
   obtain ⟨b3,p3,hP3⟩:∃ b3 p3,p2.must T [41]=(b3,p3):=⟨_, _,rfl⟩
   have HM2:=Lib.hid (HMM.out p2)
   rw [hP3] at hr hg3' HM2
   dsimp only at hr hg3' HM2
   cases hb:body p3 with
   | none=>rw [hb] at hr; cases hr
   | some yb' =>
     obtain ⟨bd,p4⟩:=yb'
     rw [hb] at hr
     dsimp only at hr
     have hg4:=hGb _ _ hb
     have hgg:p4.g=p.g:=by rw [show p4.g = _ from hg4,hg3',show p2.g = _ from hg2,hgm]
     have HXX:=Lib.hid (fun w' (h':Cx w0 T R q w' p1)=>HX w' p1 (x,p2) h' (by omega) ho)
     have HBB:=Lib.hid (fun w' (h':Cx w0 T R q w' p3)=>HB w' p3 (bd,p4) h' (by rw [hg3',show p2.g = _ from hg2,hgm]; exact hg) hb)
     have HB2:=Lib.hid (fun w' p' (rr:List Sm × Pst) (h':Cx w0 T R q w' p') (hg':p'.g=p.g) (hb':body p'=some rr)=>HB w' p' rr h' (by omega) hb')
     have HGG:=Lib.hid hgg
     have HR:=Lib.hid hr
     have HS0:=Lib.hid hS
     have HK0:=Lib.hid hK
     have HST:=Lib.hid hst
     have hl3:=Lib.hid (lt_heap hst.e)
     have hl0:=Lib.hid (lt_heap hst.z)
     clear HX HB hG hGb ht h hS hK hst hP1 hP3 ho hb hg2 hg3' hg4 hgm hgg hr HMM
     unfold at0 at *
     go_enter Tryz.func242,Tryz.ntmps242
     go_upto_region 2 with (first
       | (go_at_call 181
          refine HM.out.mono ?_
          rintro e w1 ⟨rfl,h1,hk1⟩
          have HH1:=Lib.hid h1
          have HK1:=Lib.hid (HK0.out.trans hk1)
          have HS1:=Lib.hid (HST.out.kp hk1 HqS.out hq0 hq3)
          have HL1:=Lib.hid (show g3<w1.heap.size∧g0<w1.heap.size from ⟨lt_heap HS1.out.e,lt_heap HS1.out.z⟩)
          have hz1:=lt_heap HS1.out.e
          obtain ⟨⟨-,-,-,-,-,-,-,-,-,-,c10⟩,-⟩:=box11 h1.hp
          unfold lvF at0 at c10
          have hlt1:=h1.lt
          clear h1 hk1)
       | (go_at_call 171
          refine (HXX.out _ HH1.out).mono ?_
          rintro e w2 ⟨v2,rfl,hx2,h2,hk2⟩
          obtain ⟨k1,s1,n1,l1⟩:=x
          obtain ⟨y,rfl,-,-,hy⟩:=(Ex.rd k1 s1 n1 l1 v2).1 hx2
          obtain ⟨A1,m1,c1,rfl⟩:=hy.row_form
          have HH2:=Lib.hid h2
          have HK2:=Lib.hid (HK1.out.trans hk2)
          have HS2:=Lib.hid (HS1.out.kp hk2 HqS.out hq0 hq3)
          have HX2:=Lib.hid hx2
          have HZ2:=Lib.hid hk2.size
          obtain ⟨⟨d0,d1,d2,d3,d4,d5⟩,f0,f1,f2,f3,f4,f5⟩:=bx6 HS2.out.e
          have hz2:=lt_heap HS2.out.e
          clear h2 hk2 hx2 hy c10)
       | (fail))
     have hs3:=HS2.out.setXo hn (.cells #[.int .u8 (k1:Int),.string (strOf s1),.int .i64 n1,.slice A1 m1 c1] 276) (Sg.one HX2.out HK1.out.size HL1.out.2 HL1.out.1 HZ2.out)
     have hc3:=Cx.one HS0.out HH2.out HK2.out hg3 2 (.slice (some ⟨w2.heap.size,0,none⟩) 1 1)
     have hc3a:=hc3.1.alloc (.cells #[.int .u8 (k1:Int),.string (strOf s1),.int .i64 n1,.slice A1 m1 c1] 276)
     have hc3b:=hc3.2.alloc (.cells #[.int .u8 (k1:Int),.string (strOf s1),.int .i64 n1,.slice A1 m1 c1] 276)
     clear hc3 d0 d1 d2 d3 d4 d5 f0 f1 f2 f3 f4 f5
     obtain ⟨W3,hW3⟩:∃ W,(w2.setCell ⟨g3,2,none⟩ (.slice (some ⟨w2.heap.size,0,none⟩) 1 1)).alloc (.cells #[.int .u8 (k1:Int),.string (strOf s1),.int .i64 n1,.slice A1 m1 c1] 276)=W:=⟨_,rfl⟩
     rw [hW3] at hs3 hc3a hc3b ⊢
     have HS3:=Lib.hid hs3
     have HC3:=Lib.hid hc3a
     have HK3:=Lib.hid hc3b
     clear hs3 hc3a hc3b hW3 HS2 HH2 HK2 HX2 HH1 HK1 HXX HM HZ2 HL1 HS1 hz2 hz1 hlt1 hl3 hl0 HST HK0 hq
     go_upto_region 4 with (first
       | (go_at_call 181
          refine (HM2.out _ HC3.out).mono ?_
          rintro e w4 ⟨rfl,h4,hk4⟩
          have HH4:=Lib.hid h4
          have HK4:=Lib.hid (HK3.out.trans hk4)
          have HS4:=Lib.hid (HS3.out.kp hk4 HqS.out hq0 hq3)
          have HL4:=Lib.hid (show g3<w4.heap.size∧g0<w4.heap.size from ⟨lt_heap HS4.out.e,lt_heap HS4.out.z⟩)
          clear h4 hk4)
       | (go_at_call 180
          refine (HBB.out _ HH4.out).mono ?_
          rintro e w5 ⟨v5,rfl,hx5,h5,hk5⟩
          obtain ⟨A5,n5,c5,rfl⟩:=hx5.row_form
          have HH5:=Lib.hid h5
          have HK5:=Lib.hid (HK4.out.trans hk5)
          have HS5:=Lib.hid (HS4.out.kp hk5 HqS.out hq0 hq3)
          have HX5:=Lib.hid hx5
          obtain ⟨⟨d0,d1,d2,d3,d4,d5⟩,f0,f1,f2,f3,f4,f5⟩:=bx6 HS5.out.e
          have hz5:=lt_heap HS5.out.e
          clear h5 hk5 hx5)
       | (fail))
     have hs6:=HS5.out.setB hn (b':=bd) (Sg.of HX5.out HK4.out.size HL4.out.2 HL4.out.1)
     have hc6:=Cx.one HS0.out HH5.out HK5.out hg3 3 (.slice A5 n5 c5)
     clear d0 d1 d2 d3 d4 d5 f0 f1 f2 f3 f4 f5
     obtain ⟨W6,hW6⟩:∃ W,w5.setCell ⟨g3,3,none⟩ (.slice A5 n5 c5)=W:=⟨_,rfl⟩
     rw [hW6] at hs6 hc6 ⊢
     have HS6:=Lib.hid hs6
     have HC6:=Lib.hid hc6.1
     have HK6:=Lib.hid hc6.2
     clear hs6 hc6 hW6 HS5 HH5 HK5 HX5 HC3 HK3 HS3 HH4 HK4 HS4 HL4 HBB HM2 hz5
     obtain ⟨⟨d0,-⟩,-⟩:=bx6 HS6.out.e
     have hz6:=lt_heap HS6.out.e
     have hR:=HR.out
     rcases hk with rfl | rfl
     · rw [if_pos rfl] at hR
       have HE:=Lib.hid (HKE.out p4 W6 HC6.out)
       have hge:=one_g T 4 [[101,108,115,101]] p4
       obtain ⟨s7,p7,hP7⟩:∃ s7 p7,p4.one T 4 [[101,108,115,101]]=(s7,p7):=⟨_, _,rfl⟩
       rw [hP7] at hR HE hge
       dsimp only at hR HE hge
       have he7:(strOf s7).toList.isEmpty=decide (s7=[]):=one_empty _
       by_cases h7:s7=[]
       · rw [if_neg (fun hh=>hh h7)] at hR
         rw [decide_eq_true h7] at he7
         cases hR
         clear h7 HR HKE HB2 hP7 hge
         go_wp2_with (first
           | (go_at_call 143
              refine HE.out.mono ?_
              rintro e w7 ⟨rfl,h7,hk7⟩
              have HC7:=Lib.hid h7
              have HK7:=Lib.hid (HK6.out.trans hk7)
              have HS7:=Lib.hid (HS6.out.kp hk7 HqS.out hq0 hq3)
              clear h7 hk7)
           | (fail))
         go_end0
         exact ⟨rfl, _, _, _, _, _, _,rfl,HS7.out,HC7.out,HK7.out⟩
       · rw [if_pos h7] at hR
         rw [decide_eq_false h7] at he7
         cases hb8:body p7 with
         | none=>rw [hb8] at hR; cases hR
         | some y8 =>
           obtain ⟨bc,p8⟩:=y8
           rw [hb8] at hR
           cases hR
           have HB8:=Lib.hid (fun w' (h':Cx w0 T R q w' p7)=>HB2.out w' p7 _ h' (by rw [hge,HGG.out]) hb8)
           clear h7 HR HKE HB2 hP7 hge hb8
           go_wp2_with (first
             | (go_at_call 143
                refine HE.out.mono ?_
                rintro e w7 ⟨rfl,h7,hk7⟩
                have HC7:=Lib.hid h7
                have HK7:=Lib.hid (HK6.out.trans hk7)
                have HS7:=Lib.hid (HS6.out.kp hk7 HqS.out hq0 hq3)
                have HL7:=Lib.hid (show g3<w7.heap.size∧g0<w7.heap.size from ⟨lt_heap HS7.out.e,lt_heap HS7.out.z⟩)
                clear h7 hk7)
             | (go_at_call 180
                refine (HB8.out _ HC7.out).mono ?_
                rintro e w8 ⟨v8,rfl,hx8,h8,hk8⟩
                obtain ⟨A8,n8,c8,rfl⟩:=hx8.row_form
                have HC8:=Lib.hid h8
                have HK8:=Lib.hid (HK7.out.trans hk8)
                have HS8:=Lib.hid (HS7.out.kp hk8 HqS.out hq0 hq3)
                have HX8:=Lib.hid hx8
                obtain ⟨⟨e0,e1,e2,e3,e4,e5⟩,f0,f1,f2,f3,f4,f5⟩:=bx6 HS8.out.e
                have hz8:=lt_heap HS8.out.e
                clear h8 hk8 hx8)
             | (fail))
           go_end0
           have hs9:=HS8.out.setC hn (c':=bc) (Sg.of HX8.out HK7.out.size HL7.out.2 HL7.out.1)
           have hc9:=Cx.one HS0.out HC8.out HK8.out hg3 4 (.slice A8 n8 c8)
           exact ⟨rfl, _, _, _, _, _, _,rfl,hs9,hc9.1,hc9.2⟩
     · rw [if_neg (by decide)] at hR
       cases hR
       clear HR HKE HB2
       go_wp2_with fail
       go_end0
       exact ⟨rfl, _, _, _, _, _, _,rfl,HS6.out,HC6.out,HK6.out⟩
end
end Go.Proofs.YtcmopnkldplngabGreatDoor
namespace Go.Proofs.YtcmopnkldplngabGreatDoor
open Go.RowKit
set_option linter.unusedVariables false
section
variable {w:World}
theorem Flat.app {S:Nat→Prop} {sz:Nat} {xs ys:List Value} {l m:List Nd} (h:Flat w S sz xs l) (k:Flat w S sz ys m):Flat w S sz (xs ++ ys) (l ++ m):=by
 have h1:=h.1
 have k1:=k.1
 refine ⟨by rw [List.length_append,List.length_append,h1,k1,Nat.add_mul],fun i x hx=>?_⟩
 by_cases hi:i<l.length
 · rw [List.getElem?_append_left hi] at hx
   have h2:(i+1)*sz≤l.length*sz:=Nat.mul_le_mul_right _ hi
   rw [Nat.add_mul,Nat.one_mul] at h2
   rw [List.drop_append_of_le_length (by omega),List.take_append_of_le_length (by rw [List.length_drop]; omega)]
   exact h.2 i x hx
 · rw [List.getElem?_append_right (by omega)] at hx
   have h2:i*sz=l.length*sz+(i-l.length)*sz:=by rw [← Nat.add_mul]; congr 1; omega
   rw [h2,← h1,List.drop_append,List.drop_eq_nil_of_le (by omega),List.nil_append]
   rw [show xs.length+(i-l.length)*sz-xs.length=(i-l.length)*sz by omega]
   exact k.2 _ x hx
theorem rds_flat {S:Nat→Prop} {A:Option Addr}:∀ (i:Nat) (l:List Ex),Rds w S A 4 i (l.map Ex.nd)→∃ xs:List Value,Flat w S 4 xs (l.map Ex.nd)∧(∀ u∈xs,u.oneCell'=true)∧(xs≠[]→∃ b o,A=some ⟨b,o,none⟩∧S b)∧∀ b o,A=some ⟨b,o,none⟩→∀ j u,xs[j]?=some u→w.cell? ⟨b,o+i*4+j,none⟩=some u
 | i,[],h=>⟨[],Flat.nil _ _ _,by simp,by simp,by simp⟩
 | i,x :: r,h=>by
   rw [List.map_cons,Rds] at h
   obtain ⟨⟨b,o,vs,rfl,h1,h2,h3,h4⟩,h5⟩:=h
   obtain ⟨xs,g1,g2,-,g4⟩:=rds_flat (i+1) r h5
   obtain ⟨k,s,n,m⟩:=x
   obtain ⟨y,hv,-,-,hy⟩:=(Ex.rd k s n m _).1 h4
   obtain ⟨A3,n3,c3,rfl⟩:=hy.row_form
   have hv2:vs=[.int .u8 (k:Int),.string (strOf s),.int .i64 n,.slice A3 n3 c3]:=by
     injection hv with hv
     have:=congrArg Array.toList hv
     simpa using this
   subst hv2
   refine ⟨[.int .u8 (k:Int),.string (strOf s),.int .i64 n,.slice A3 n3 c3] ++ xs,?_,?_,fun _ => ⟨b,o,rfl,h1⟩,?_⟩
   · have:=(Flat.one (n:=4) (by rfl) h4).app g1
     simpa using this
   · intro u hu
     rw [List.mem_append] at hu
     rcases hu with hu | hu
     · simp at hu
       rcases hu with rfl | rfl | rfl | rfl <;> rfl
     · exact g2 u hu
   · intro b' o' e j u hu
     cases e
     by_cases hj:j<4
     · rw [List.getElem?_append_left (by simpa using hj)] at hu
       exact h3 j u hu
     · rw [List.getElem?_append_right (by simp; omega)] at hu
       have:=g4 b o rfl (j-4) u (by simpa using hu)
       rw [show o+(i+1)*4+(j-4)=o+i*4+j by omega] at this
       exact this
theorem row_flat {S:Nat→Prop} {l:List Ex} {v:Value} (hS:∀ b,S b→b<w.heap.size) (h:Rd w S (.row 4 (l.map Ex.nd)) v):∃ A n c xs,v = .slice A n c∧n=l.length∧Flat w S 4 xs (l.map Ex.nd)∧(∀ u∈xs,u.oneCell'=true)∧At w w.heap.size A xs:=by
 rw [Rd] at h
 obtain ⟨A,c,rfl,-,-,h⟩:=h
 obtain ⟨xs,h1,h2,h3,h4⟩:=rds_flat 0 l h
 refine ⟨A, _,c,xs,rfl,by simp,h1,h2,fun hn=>?_⟩
 obtain ⟨b,o,e,hb⟩:=h3 hn
 exact ⟨b,o,e,hS b hb,fun i u hu=>by have:=h4 b o e i u hu; simpa using this⟩
theorem step_ex {ops:Array Oper} {o:Oper} {a:Act} {K:Act→World→Prop} {Q:Exit→Act→World→Prop} {E:Prop} (hgd:o.guard=none) (s x:Operand)
   (ho:o.op = .call { callee := .builtin .append,args:=#[s,x],argTypes:=#[216,216] })
   {base:Nat} {v:Value} {n:Nat} {xs:List Value} (hs:a.eval s=v) (hown:w.ownsRow base 276 4 v n xs) {B:Nat} {A:Option Addr} {m c:Nat} {news:List Value} (hx:a.eval x = .slice A m c)
   (hr:At w B A news) (hm:news.length=m*4) (h1:∀ u∈news,u.oneCell'=true) (hn:n+m≤1000000000) (hbase:base≤w.heap.size)
   (h:∀ v' w',w'.ownsRow base 276 4 v' (n+m) (xs ++ news)→w.grownBy w' v.ownBlock→(v'.ownBlock=v.ownBlock∨v'.ownBlock=some w.heap.size)→K (a.put o.dst v') w') :
   if Region.wanted o (yielded ops a.tmps)=true then Oper.wp Tryz.prog o a w K Q else E:=by
 have hw:Region.wanted o (yielded ops a.tmps)=true:=by simp [Region.wanted,hgd]
 rw [if_pos hw]
 obtain ⟨i0,hi0,hz0,hz1,hz2⟩:=info_parts expr_info
 exact wp_append_at w s x 216 ho base 276 i0 _ 4 56 Tryz.underlying216 hi0 hz0 hz1 hz2 rfl (by omega) v n xs hs hown B A m c news hx hr hm h1 (by unfold maxLen; omega) (by omega) hbase h
theorem cons_row {Y Y':World} {g0 g3 gv base:Nat} {cells xs:List Value} {x:Nd} {l:List Nd} {v':Value} (hx:Rd Y (fun b=>Sg w Y g0 g3 b∧b≠gv) x (.agg cells.toArray)) (hl:Flat Y (fun b=>Sg w Y g0 g3 b∧b≠gv) 4 xs l) (hc:cells.length=4)
   (ho:Y'.ownsRow base 276 4 v' (1+l.length) (cells ++ xs)) (hg:Y.grownBy Y' (some gv)) (hw:w.heap.size≤base) (h0:g0<base) (h3:g3<base):Rd Y' (Sg w Y' g0 g3) (.row 4 (x :: l)) v':=by
 have hf:Flat Y (fun b=>Sg w Y g0 g3 b∧b≠gv) 4 (cells ++ xs) (x :: l):=(Flat.one hc hx).app hl
 have hf':Flat Y' (Sg w Y' g0 g3) 4 (cells ++ xs) (x :: l):=hf.keep (fun p hp=>World.cell?_of_block (hg.block p.block hp.1.1.2 (fun e=>hp.2 (Option.some.inj e)))) (fun b hb=>⟨⟨hb.1.1.1,Nat.lt_of_lt_of_le hb.1.1.2 hg.size⟩,hb.1.2⟩)
 rw [show 1+l.length=(x :: l).length by simp; omega] at ho
 exact hf'.row ho (fun b h1 h2=>⟨⟨by omega,h2⟩,by omega,by omega⟩)
theorem moreF_len {α:Type} {T:List Nat} {one:Rr α}:∀ (m:Nat) (l:List α) (p:Pst) (r:List α × Pst),moreF T one m l p=some r→r.1.length≤l.length+m
 | 0,l,p,r,hr=>by simp [moreF] at hr
 | m + 1,l,p,r,hr=>by
   rw [moreF] at hr
   split at hr
   · cases hr; simp
   · split at hr
     · cases hr
     · have:=moreF_len m _ _ _ hr
       simp at this
       omega
theorem listF_len {α:Type} {T:List Nat} {one:Rr α} {m:Nat} {p:Pst} {r:List α × Pst} (hr:listF T one m p=some r):r.1.length≤m+1:=by
 unfold listF at hr
 split at hr
 · cases hr; simp
 · split at hr
   · cases hr; simp
   · split at hr
     · cases hr
     · have:=moreF_len m _ _ _ hr
       simp at this
       omega
end
end Go.Proofs.YtcmopnkldplngabGreatDoor
