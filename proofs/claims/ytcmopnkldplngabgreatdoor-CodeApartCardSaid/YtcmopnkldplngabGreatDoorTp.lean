/- Package tree: stmt: the walk. -/
import Derived.Test.YtcmopnkldplngabGreatDoorTlo
namespace Go.Proofs.YtcmopnkldplngabGreatDoor
open Go.RowKit
set_option linter.unusedVariables false
section
variable {w0:World} {T:List Nat} {R:Ru} {q:Nat} {or:Rr Ex} {m:Nat}
theorem kindF_le (s:List Nat):1≤kindF s∧kindF s≤9:=by
 unfold kindF
 repeat' split
 all_goals omega
theorem StAt.start {w:World} (ln:Nat):StAt w ((w.alloc smZ).alloc (.cells #[.int .u8 0,.string ⟨#[]⟩,.slice none 0 0,.slice none 0 0,.slice none 0 0,.int .i64 (ln:Int)] 218)) w.heap.size (w.heap.size+1) 0 [] [] [] [] ln (.slice none 0 0) (.slice none 0 0) (.slice none 0 0) :=
 ⟨heap_new' _ _ _ (by simp),heap_old (heap_new _ _) _,Rd.nil _,Rd.nil _,Rd.nil _,⟨by simp,by simp⟩⟩
set_option maxRecDepth 100000 in
set_option maxHeartbeats 8000000 in
theorem stmt_step (ht : TxtOk w0 T) (HX:XC w0 T R q or m) (hG:Gk or) (k:Nat) (hk:k≤100000) {B:Rr (List Sm)} (HB:BC w0 T R q B m) (hGb:Gk B) (w:World) (p:Pst) (h:Cx w0 T R q w p) (hg:p.g+1+m≤mostG) (r:Sm × Pst)
   (hr:stmtK T or B k (kindF (p.begin.one T 4 keysS).1) p.ln (p.begin.one T 4 keysS).2=some r) :
   Calls Tryz.prog 209 #[at0 q] w (OutX w0 T R q w r.1.nd r.2.fin):=by
 have c4:=(box11 h.hp).1.2.2.2.2.1
 have c4':=(box11 (h.alloc smZ).hp).1.2.2.2.2.1
 have HB1:=Lib.hid (begin_any ((h.alloc smZ).alloc (.cells #[.int .u8 0,.string ⟨#[]⟩,.slice none 0 0,.slice none 0 0,.slice none 0 0,.int .i64 (p.ln:Int)] 218)) (by unfold mostG at hg; omega))
 have hgb:=begin_g p
 have HKI:=Lib.hid (fun w' (h':Cx w0 T R q w' p.begin)=>stmtKind_any ht h')
 have hgs:=one_g T 4 keysS p.begin
 have HSt:=Lib.hid (StAt.start (w:=w) p.ln)
 obtain ⟨p1,hp1⟩:∃ p1,p.begin=p1:=⟨_,rfl⟩
 rw [hp1] at HB1 HKI hr hgb hgs
 obtain ⟨s2,p2,hP2⟩:∃ s2 p2,p1.one T 4 keysS=(s2,p2):=⟨_, _,rfl⟩
 rw [hP2] at HKI hr hgs
 dsimp only at HKI hr hgs
 have hkf:=kindF_le s2
 obtain ⟨kk,hkk⟩:∃ kk,kindF s2=kk:=⟨_,rfl⟩
 rw [hkk] at HKI hr hkf
 have HFD:=Lib.hid (fun u w' p' (h':Cx w0 T R q w' p') (h1:1≤p'.g) (h2:p'.g≤mostG)=>finD_any u h' h1 h2)
 have hg2:p2.g=p.g+1:=by omega
 have hrg:r.2.g=p2.g:=stmtK_g hG hGb k _ _ _ _ hr
 have HGR:Hid (1≤r.2.g∧r.2.g≤mostG):=Lib.hid (by omega)
 have H0:=Lib.hid h
 have hq:=h.lt
 have hqa:¬ w.heap.size=q:=by omega
 have hqb:¬ w.heap.size+1=q:=by omega
 have hn:w.heap.size≠w.heap.size+1:=by omega
 have HMM:=Lib.hid (fun p' w' (s:List Nat) (S:ByteArray) (hS:S=strOf s) (h8:∀ x∈s,x<256) (h':Cx w0 T R q w' p')=>must_any ht h' s S hS h8)
 have HNN:=Lib.hid (fun p' w' (h':Cx w0 T R q w' p')=>name_any' ht h')
 have HXX:=Lib.hid (fun w' p' (rr:Ex × Pst) (h':Cx w0 T R q w' p') (hg':p'.g=p2.g) (ho':or p'=some rr)=>HX w' p' rr h' (by omega) ho')
 have HLL:=Lib.hid (fun w' p' (rr:List Ex × Pst) (h':Cx w0 T R q w' p') (hg':p'.g=p2.g) (ho':listF T or k p'=some rr)=>listX_any ht HX hG w' p' rr h' k hk (by omega) ho')
 have HPP:=Lib.hid (fun w' p' (rr:Ex × Pst) (h':Cx w0 T R q w' p') (hg':p'.g=p2.g) (ho':postF T or k p'=some rr)=>post_any ht HX hG w' p' rr h' k hk (by omega) ho')
 have HBR:=Lib.hid (fun w' p' (h':Cx w0 T R q w' p') (hK:Kp q w w') (hg':p'.g=p2.g) (kk:Nat) (hkk:kk=3∨kk=4) (hst:StAt w w' w.heap.size (w.heap.size+1) kk [] [] [] [] p.ln (.slice none 0 0) (.slice none 0 0) (.slice none 0 0)) (rr:Sm × Pst) (hr':branchF T or B kk p.ln p'=some rr)=>branch_any ht HX HB hG hGb w p h w' p' h' hK w.heap.size (w.heap.size+1) kk p.ln (Nat.le_refl _) (by omega) hn hkk _ _ _ hst (by omega) rr hr')
 have HR:=Lib.hid hr
 have HGG:=Lib.hid hG
 clear h ht HX hG HB hGb hr hgb hgs hP2 hp1 hrg hkk hg
 unfold at0 smZ at *
 go_enter_defers Tryz.func209,Tryz.ntmps209
 go_upto_region 5 with (first
   | (go_at_call 173
      refine HB1.out.mono ?_
      rintro e w3 ⟨rfl,h3,hk3⟩
      have HC3:=Lib.hid h3
      have HK3:=Lib.hid ((((Kp.refl q w).alloc _).alloc _).trans hk3)
      have HS3:=Lib.hid (HSt.out.kp hk3 hq hqa hqb)
      clear h3 hk3)
   | (go_at_call 241
      refine (HKI.out _ HC3.out).mono ?_
      rintro e w4 ⟨rfl,h4,hk4⟩
      have HC4:=Lib.hid h4
      have HK4:=Lib.hid (HK3.out.trans hk4)
      have HS4:=Lib.hid (HS3.out.kp hk4 hq hqa hqb)
      obtain ⟨⟨d0,d1,d2,d3,d4,d5⟩,f0,f1,f2,f3,f4,f5⟩:=bx6 HS4.out.e
      have hz4:=lt_heap HS4.out.e
      clear h4 hk4)
   | (fail))
 have hs5:=HS4.out.setK hn kk
 have hc5:=Cx.one H0.out HC4.out HK4.out (g3:=w.heap.size+1) (by omega) 0 (.int .u8 (kk:Int))
 clear d0 d1 d2 d3 d4 d5 f0 f1 f2 f3 f4 f5 hz4 c4 c4'
 obtain ⟨W5,hW5⟩:∃ W,w4.setCell ⟨w.heap.size+1,0,none⟩ (.int .u8 (kk:Int))=W:=⟨_,rfl⟩
 rw [hW5] at hs5 hc5 ⊢
 have HS5:=Lib.hid hs5
 have HC5:=Lib.hid hc5.1
 have HK5:=Lib.hid hc5.2
 clear hs5 hc5 hW5 HS4 HC4 HK4 HSt HS3 HC3 HK3 HB1 HKI
 obtain ⟨⟨d0,-⟩,-⟩:=bx6 HS5.out.e
 have hz5:=lt_heap HS5.out.e
 have hR:=HR.out
 unfold stmtK at hR
 by_cases hcA:kk=1∨kk=2
 · rw [if_pos hcA] at hR
   rcases hcA with rfl | rfl
   · have hgn:=name_g T p2
     have HOK:=Lib.hid (fun s p' (e:p2.name T=(s,p'))=>name_sok e HC5.out.ok)
     have HN2:=Lib.hid (HNN.out p2)
     obtain ⟨s3,p3,hP3⟩:∃ s3 p3,p2.name T=(s3,p3):=⟨_, _,rfl⟩
     have HSO:=Lib.hid (HOK.out _ _ hP3)
     rw [hP3] at hR hgn HN2
     dsimp only at hR hgn HN2
     clear hP3 HOK
     have hgm:=must_g T [61] p3
     have HM6:=Lib.hid (fun w' (h':Cx w0 T R q w' p3)=>HMM.out p3 w' [61] ⟨#[61]⟩ rfl (by decide) h')
     obtain ⟨b4,p4,hP4⟩:∃ b4 p4,p3.must T [61]=(b4,p4):=⟨_, _,rfl⟩
     rw [hP4] at hR hgm HM6
     dsimp only at hR hgm HM6
     clear hP4
     cases ho:or p4 with
     | none=>rw [ho] at hR; cases hR
     | some y =>
       obtain ⟨x,p5⟩:=y
       rw [ho] at hR
       cases hR
       have HX6:=Lib.hid (fun w' (h':Cx w0 T R q w' p4)=>HXX.out w' p4 _ h' (by omega) ho)
       clear HXX HLL HPP HBR HNN HR ho
       go_upto_region 9 with (first
         | (go_at_call 178
            refine (HN2.out _ HC5.out).mono ?_
            rintro e w6 ⟨rfl,h9,hk9⟩
            have HC6:=Lib.hid h9
            have HK6:=Lib.hid (HK5.out.trans hk9)
            have HS6:=Lib.hid (HS5.out.kp hk9 hq hqa hqb)
            obtain ⟨⟨d0,d1,d2,d3,d4,d5⟩,f0,f1,f2,f3,f4,f5⟩:=bx6 HS6.out.e
            have hz6:=lt_heap HS6.out.e
            clear h9 hk9)
         | (fail))
       have hs9:=HS6.out.setS hn s3 HSO.out
       have hc9:=Cx.one H0.out HC6.out HK6.out (g3:=w.heap.size+1) (by omega) 1 (.string (strOf s3))
       clear d0 d1 d2 d3 d4 d5 f0 f1 f2 f3 f4 f5
       obtain ⟨W7,hW9⟩:∃ W,w6.setCell ⟨w.heap.size+1,1,none⟩ (.string (strOf s3))=W:=⟨_,rfl⟩
       rw [hW9] at hs9 hc9 ⊢
       have HS7:=Lib.hid hs9
       have HC7:=Lib.hid hc9.1
       have HK7:=Lib.hid hc9.2
       clear hs9 hc9 hW9
       go_upto_region 10 with (first
         | (go_at_call 181
            refine (HM6.out _ HC7.out).mono ?_
            rintro e w8 ⟨rfl,h9,hk9⟩
            have HC8:=Lib.hid h9
            have HK8:=Lib.hid (HK7.out.trans hk9)
            have HS8:=Lib.hid (HS7.out.kp hk9 hq hqa hqb)
            obtain ⟨⟨-,-,-,-,-,-,-,-,-,-,c10⟩,-⟩:=box11 h9.hp
            unfold lvF at0 at c10
            have hlt8:=h9.lt
            clear h9 hk9)
         | (fail))
       go_upto_region 25 with (first
         | (go_at_call 171
            refine (HX6.out _ HC8.out).mono ?_
            rintro e w9 ⟨v9,rfl,hx9,h9,hk9⟩
            obtain ⟨k1,s1,n1,l1⟩:=x
            obtain ⟨y,rfl,-,-,hy⟩:=(Ex.rd k1 s1 n1 l1 v9).1 hx9
            obtain ⟨A1,m1,c1,rfl⟩:=hy.row_form
            have HC9:=Lib.hid h9
            have HK9:=Lib.hid (HK8.out.trans hk9)
            have HS9:=Lib.hid (HS8.out.kp hk9 hq hqa hqb)
            have HX9x:=Lib.hid hx9
            have HZ9:=Lib.hid hk9.size
            have HL9:=Lib.hid (And.intro (lt_heap HS8.out.e) (lt_heap HS8.out.z))
            obtain ⟨⟨d0,d1,d2,d3,d4,d5⟩,f0,f1,f2,f3,f4,f5⟩:=bx6 HS9.out.e
            have hz9:=lt_heap HS9.out.e
            clear h9 hk9 hx9 hy)
         | (fail))
       have hs9:=HS9.out.setXo hn (.cells #[.int .u8 (k1:Int),.string (strOf s1),.int .i64 n1,.slice A1 m1 c1] 276) (Sg.one HX9x.out HK8.out.size HL9.out.2 HL9.out.1 HZ9.out)
       have hc9:=Cx.one H0.out HC9.out HK9.out (g3:=w.heap.size+1) (by omega) 2 (.slice (some ⟨w9.heap.size,0,none⟩) 1 1)
       have hc9a:=hc9.1.alloc (.cells #[.int .u8 (k1:Int),.string (strOf s1),.int .i64 n1,.slice A1 m1 c1] 276)
       have hc9b:=hc9.2.alloc (.cells #[.int .u8 (k1:Int),.string (strOf s1),.int .i64 n1,.slice A1 m1 c1] 276)
       clear hc9 c10 d0 d1 d2 d3 d4 d5 f0 f1 f2 f3 f4 f5
       obtain ⟨W10,hW9⟩:∃ W,(w9.setCell ⟨w.heap.size+1,2,none⟩ (.slice (some ⟨w9.heap.size,0,none⟩) 1 1)).alloc (.cells #[.int .u8 (k1:Int),.string (strOf s1),.int .i64 n1,.slice A1 m1 c1] 276)=W:=⟨_,rfl⟩
       rw [hW9] at hs9 hc9a hc9b ⊢
       have HS10:=Lib.hid hs9
       have HC10:=Lib.hid hc9a
       have HK10:=Lib.hid hc9b
       clear hs9 hc9a hc9b hW9
       go_wp2_with (first
         | (go_at_call 181
            refine (HMM.out p5 _ [59] ⟨#[59]⟩ rfl (by decide) HC10.out).mono ?_
            rintro e w11 ⟨rfl,h9,hk9⟩
            have HC11:=Lib.hid h9
            have HK11:=Lib.hid (HK10.out.trans hk9)
            have HS11:=Lib.hid (HS10.out.kp hk9 hq hqa hqb)
            obtain ⟨⟨r0,r1,r2,r3,r4,r5⟩,-⟩:=bx6 HS11.out.e
            obtain ⟨⟨i0,i1,i2,i3,i4,i5⟩,f0,f1,f2,f3,f4,f5⟩:=bx6 HS11.out.z
            have hz11:=lt_heap HS11.out.z
            clear h9 hk9)
         | (fail))
       have hE:=Lib.hid (endS H0.out HC11.out HK11.out (Nat.le_refl _) HS11.out)
       have q6:=st6 HS11.out.z (.int .u8 1) (.string (strOf s3)) (.slice (some ⟨w9.heap.size,0,none⟩) 1 1) (.slice none 0 0) (.slice none 0 0) (.int .i64 (p.ln:Int))
       obtain ⟨v,-,-,hcx,-⟩:=hE.out
       refine leaves_cons (f:=174) (args:=#[.pointer (some ⟨q,0,none⟩)]) (by simp) (by simp [go_sem]) ?_
       refine (HFD.out _ _ (p5.must T [59]).2 hcx HGR.out.1 HGR.out.2).mono ?_
       rintro e u' wz ⟨rfl,rfl,h9,k9⟩
       obtain ⟨⟨e0,e1,e2,e3,e4,e5⟩,-⟩:=bx6 (k9.heap q6 hqa)
       refine ⟨.agg #[.int .u8 1,.string (strOf s3),.slice (some ⟨w9.heap.size,0,none⟩) 1 1,.slice none 0 0,.slice none 0 0,.int .i64 (p.ln:Int)],by simp [results,Tryz.results209,go_sem,e0,e1,e2,e3,e4,e5],?_⟩
       exact hE.out.more k9 h9 hq
   · have hgn:=name_g T p2
     have HOK:=Lib.hid (fun s p' (e:p2.name T=(s,p'))=>name_sok e HC5.out.ok)
     have HN2:=Lib.hid (HNN.out p2)
     obtain ⟨s3,p3,hP3⟩:∃ s3 p3,p2.name T=(s3,p3):=⟨_, _,rfl⟩
     have HSO:=Lib.hid (HOK.out _ _ hP3)
     rw [hP3] at hR hgn HN2
     dsimp only at hR hgn HN2
     clear hP3 HOK
     have hgm:=must_g T [61] p3
     have HM6:=Lib.hid (fun w' (h':Cx w0 T R q w' p3)=>HMM.out p3 w' [61] ⟨#[61]⟩ rfl (by decide) h')
     obtain ⟨b4,p4,hP4⟩:∃ b4 p4,p3.must T [61]=(b4,p4):=⟨_, _,rfl⟩
     rw [hP4] at hR hgm HM6
     dsimp only at hR hgm HM6
     clear hP4
     cases ho:or p4 with
     | none=>rw [ho] at hR; cases hR
     | some y =>
       obtain ⟨x,p5⟩:=y
       rw [ho] at hR
       cases hR
       have HX6:=Lib.hid (fun w' (h':Cx w0 T R q w' p4)=>HXX.out w' p4 _ h' (by omega) ho)
       clear HXX HLL HPP HBR HNN HR ho
       go_upto_region 9 with (first
         | (go_at_call 178
            refine (HN2.out _ HC5.out).mono ?_
            rintro e w6 ⟨rfl,h9,hk9⟩
            have HC6:=Lib.hid h9
            have HK6:=Lib.hid (HK5.out.trans hk9)
            have HS6:=Lib.hid (HS5.out.kp hk9 hq hqa hqb)
            obtain ⟨⟨d0,d1,d2,d3,d4,d5⟩,f0,f1,f2,f3,f4,f5⟩:=bx6 HS6.out.e
            have hz6:=lt_heap HS6.out.e
            clear h9 hk9)
         | (fail))
       have hs9:=HS6.out.setS hn s3 HSO.out
       have hc9:=Cx.one H0.out HC6.out HK6.out (g3:=w.heap.size+1) (by omega) 1 (.string (strOf s3))
       clear d0 d1 d2 d3 d4 d5 f0 f1 f2 f3 f4 f5
       obtain ⟨W7,hW9⟩:∃ W,w6.setCell ⟨w.heap.size+1,1,none⟩ (.string (strOf s3))=W:=⟨_,rfl⟩
       rw [hW9] at hs9 hc9 ⊢
       have HS7:=Lib.hid hs9
       have HC7:=Lib.hid hc9.1
       have HK7:=Lib.hid hc9.2
       clear hs9 hc9 hW9
       go_upto_region 10 with (first
         | (go_at_call 181
            refine (HM6.out _ HC7.out).mono ?_
            rintro e w8 ⟨rfl,h9,hk9⟩
            have HC8:=Lib.hid h9
            have HK8:=Lib.hid (HK7.out.trans hk9)
            have HS8:=Lib.hid (HS7.out.kp hk9 hq hqa hqb)
            obtain ⟨⟨-,-,-,-,-,-,-,-,-,-,c10⟩,-⟩:=box11 h9.hp
            unfold lvF at0 at c10
            have hlt8:=h9.lt
            clear h9 hk9)
         | (fail))
       go_upto_region 25 with (first
         | (go_at_call 171
            refine (HX6.out _ HC8.out).mono ?_
            rintro e w9 ⟨v9,rfl,hx9,h9,hk9⟩
            obtain ⟨k1,s1,n1,l1⟩:=x
            obtain ⟨y,rfl,-,-,hy⟩:=(Ex.rd k1 s1 n1 l1 v9).1 hx9
            obtain ⟨A1,m1,c1,rfl⟩:=hy.row_form
            have HC9:=Lib.hid h9
            have HK9:=Lib.hid (HK8.out.trans hk9)
            have HS9:=Lib.hid (HS8.out.kp hk9 hq hqa hqb)
            have HX9x:=Lib.hid hx9
            have HZ9:=Lib.hid hk9.size
            have HL9:=Lib.hid (And.intro (lt_heap HS8.out.e) (lt_heap HS8.out.z))
            obtain ⟨⟨d0,d1,d2,d3,d4,d5⟩,f0,f1,f2,f3,f4,f5⟩:=bx6 HS9.out.e
            have hz9:=lt_heap HS9.out.e
            clear h9 hk9 hx9 hy)
         | (fail))
       have hs9:=HS9.out.setXo hn (.cells #[.int .u8 (k1:Int),.string (strOf s1),.int .i64 n1,.slice A1 m1 c1] 276) (Sg.one HX9x.out HK8.out.size HL9.out.2 HL9.out.1 HZ9.out)
       have hc9:=Cx.one H0.out HC9.out HK9.out (g3:=w.heap.size+1) (by omega) 2 (.slice (some ⟨w9.heap.size,0,none⟩) 1 1)
       have hc9a:=hc9.1.alloc (.cells #[.int .u8 (k1:Int),.string (strOf s1),.int .i64 n1,.slice A1 m1 c1] 276)
       have hc9b:=hc9.2.alloc (.cells #[.int .u8 (k1:Int),.string (strOf s1),.int .i64 n1,.slice A1 m1 c1] 276)
       clear hc9 c10 d0 d1 d2 d3 d4 d5 f0 f1 f2 f3 f4 f5
       obtain ⟨W10,hW9⟩:∃ W,(w9.setCell ⟨w.heap.size+1,2,none⟩ (.slice (some ⟨w9.heap.size,0,none⟩) 1 1)).alloc (.cells #[.int .u8 (k1:Int),.string (strOf s1),.int .i64 n1,.slice A1 m1 c1] 276)=W:=⟨_,rfl⟩
       rw [hW9] at hs9 hc9a hc9b ⊢
       have HS10:=Lib.hid hs9
       have HC10:=Lib.hid hc9a
       have HK10:=Lib.hid hc9b
       clear hs9 hc9a hc9b hW9
       go_wp2_with (first
         | (go_at_call 181
            refine (HMM.out p5 _ [59] ⟨#[59]⟩ rfl (by decide) HC10.out).mono ?_
            rintro e w11 ⟨rfl,h9,hk9⟩
            have HC11:=Lib.hid h9
            have HK11:=Lib.hid (HK10.out.trans hk9)
            have HS11:=Lib.hid (HS10.out.kp hk9 hq hqa hqb)
            obtain ⟨⟨r0,r1,r2,r3,r4,r5⟩,-⟩:=bx6 HS11.out.e
            obtain ⟨⟨i0,i1,i2,i3,i4,i5⟩,f0,f1,f2,f3,f4,f5⟩:=bx6 HS11.out.z
            have hz11:=lt_heap HS11.out.z
            clear h9 hk9)
         | (fail))
       have hE:=Lib.hid (endS H0.out HC11.out HK11.out (Nat.le_refl _) HS11.out)
       have q6:=st6 HS11.out.z (.int .u8 2) (.string (strOf s3)) (.slice (some ⟨w9.heap.size,0,none⟩) 1 1) (.slice none 0 0) (.slice none 0 0) (.int .i64 (p.ln:Int))
       obtain ⟨v,-,-,hcx,-⟩:=hE.out
       refine leaves_cons (f:=174) (args:=#[.pointer (some ⟨q,0,none⟩)]) (by simp) (by simp [go_sem]) ?_
       refine (HFD.out _ _ (p5.must T [59]).2 hcx HGR.out.1 HGR.out.2).mono ?_
       rintro e u' wz ⟨rfl,rfl,h9,k9⟩
       obtain ⟨⟨e0,e1,e2,e3,e4,e5⟩,-⟩:=bx6 (k9.heap q6 hqa)
       refine ⟨.agg #[.int .u8 2,.string (strOf s3),.slice (some ⟨w9.heap.size,0,none⟩) 1 1,.slice none 0 0,.slice none 0 0,.int .i64 (p.ln:Int)],by simp [results,Tryz.results209,go_sem,e0,e1,e2,e3,e4,e5],?_⟩
       exact hE.out.more k9 h9 hq
 · rw [if_neg hcA] at hR
   by_cases hcB:kk=3∨kk=4
   · rw [if_pos hcB] at hR
     rcases hcB with rfl | rfl
     · have HBR2:=Lib.hid (HBR.out W5 p2 HC5.out HK5.out rfl _ (by omega) HS5.out r hR)
       clear HXX HLL HPP HBR HNN HR HMM
       obtain ⟨sm,p3⟩:=r
       go_wp2_with (first
         | (go_at_call 242
            refine HBR2.out.mono ?_
            rintro e w6 ⟨rfl,x6,b6,c6,yx,yb,yc,hsm,hs6,hc6,hk6⟩
            dsimp only at hsm hc6
            subst hsm
            obtain ⟨A1,n1,c1,rfl⟩:=hs6.rx.row_form
            obtain ⟨A2,n2,c2,rfl⟩:=hs6.rb.row_form
            obtain ⟨A3,n3,c3,rfl⟩:=hs6.rc.row_form
            have HS6:=Lib.hid hs6
            have HC6:=Lib.hid hc6
            have HK6:=Lib.hid hk6
            obtain ⟨⟨r0,r1,r2,r3,r4,r5⟩,-⟩:=bx6 HS6.out.e
            obtain ⟨⟨i0,i1,i2,i3,i4,i5⟩,f0,f1,f2,f3,f4,f5⟩:=bx6 HS6.out.z
            have hz6:=lt_heap HS6.out.z
            clear hs6 hc6 hk6)
         | (fail))
       have hE:=Lib.hid (endS H0.out HC6.out HK6.out (Nat.le_refl _) HS6.out)
       have q6:=st6 HS6.out.z (.int .u8 3) (.string ⟨#[]⟩) (.slice A1 n1 c1) (.slice A2 n2 c2) (.slice A3 n3 c3) (.int .i64 (p.ln:Int))
       obtain ⟨v,-,-,hcx,-⟩:=hE.out
       refine leaves_cons (f:=174) (args:=#[.pointer (some ⟨q,0,none⟩)]) (by simp) (by simp [go_sem]) ?_
       refine (HFD.out _ _ p3 hcx HGR.out.1 HGR.out.2).mono ?_
       rintro e u' wz ⟨rfl,rfl,h9,k9⟩
       obtain ⟨⟨e0,e1,e2,e3,e4,e5⟩,-⟩:=bx6 (k9.heap q6 hqa)
       refine ⟨.agg #[.int .u8 3,.string ⟨#[]⟩,.slice A1 n1 c1,.slice A2 n2 c2,.slice A3 n3 c3,.int .i64 (p.ln:Int)],by simp [results,Tryz.results209,go_sem,e0,e1,e2,e3,e4,e5],?_⟩
       exact hE.out.more k9 h9 hq
     · have HBR2:=Lib.hid (HBR.out W5 p2 HC5.out HK5.out rfl _ (by omega) HS5.out r hR)
       clear HXX HLL HPP HBR HNN HR HMM
       obtain ⟨sm,p3⟩:=r
       go_wp2_with (first
         | (go_at_call 242
            refine HBR2.out.mono ?_
            rintro e w6 ⟨rfl,x6,b6,c6,yx,yb,yc,hsm,hs6,hc6,hk6⟩
            dsimp only at hsm hc6
            subst hsm
            obtain ⟨A1,n1,c1,rfl⟩:=hs6.rx.row_form
            obtain ⟨A2,n2,c2,rfl⟩:=hs6.rb.row_form
            obtain ⟨A3,n3,c3,rfl⟩:=hs6.rc.row_form
            have HS6:=Lib.hid hs6
            have HC6:=Lib.hid hc6
            have HK6:=Lib.hid hk6
            obtain ⟨⟨r0,r1,r2,r3,r4,r5⟩,-⟩:=bx6 HS6.out.e
            obtain ⟨⟨i0,i1,i2,i3,i4,i5⟩,f0,f1,f2,f3,f4,f5⟩:=bx6 HS6.out.z
            have hz6:=lt_heap HS6.out.z
            clear hs6 hc6 hk6)
         | (fail))
       have hE:=Lib.hid (endS H0.out HC6.out HK6.out (Nat.le_refl _) HS6.out)
       have q6:=st6 HS6.out.z (.int .u8 4) (.string ⟨#[]⟩) (.slice A1 n1 c1) (.slice A2 n2 c2) (.slice A3 n3 c3) (.int .i64 (p.ln:Int))
       obtain ⟨v,-,-,hcx,-⟩:=hE.out
       refine leaves_cons (f:=174) (args:=#[.pointer (some ⟨q,0,none⟩)]) (by simp) (by simp [go_sem]) ?_
       refine (HFD.out _ _ p3 hcx HGR.out.1 HGR.out.2).mono ?_
       rintro e u' wz ⟨rfl,rfl,h9,k9⟩
       obtain ⟨⟨e0,e1,e2,e3,e4,e5⟩,-⟩:=bx6 (k9.heap q6 hqa)
       refine ⟨.agg #[.int .u8 4,.string ⟨#[]⟩,.slice A1 n1 c1,.slice A2 n2 c2,.slice A3 n3 c3,.int .i64 (p.ln:Int)],by simp [results,Tryz.results209,go_sem,e0,e1,e2,e3,e4,e5],?_⟩
       exact hE.out.more k9 h9 hq
   · rw [if_neg hcB] at hR
     by_cases hcC:kk=5∨kk=9
     · rw [if_pos hcC] at hR
       rcases hcC with rfl | rfl
       · cases ho:or p2 with
         | none=>rw [ho] at hR; cases hR
         | some y =>
           obtain ⟨x,p3⟩:=y
           rw [ho] at hR
           cases hR
           have HX6:=Lib.hid (fun w' (h':Cx w0 T R q w' p2)=>HXX.out w' p2 _ h' rfl ho)
           have c10:=(box11 HC5.out.hp).1.2.2.2.2.2.2.2.2.2.2
           unfold lvF at0 at c10
           clear HXX HLL HPP HBR HNN HR ho
           go_upto_region 25 with (first
             | (go_at_call 171
                refine (HX6.out _ HC5.out).mono ?_
                rintro e w6 ⟨v9,rfl,hx9,h9,hk9⟩
                obtain ⟨k1,s1,n1,l1⟩:=x
                obtain ⟨y,rfl,-,-,hy⟩:=(Ex.rd k1 s1 n1 l1 v9).1 hx9
                obtain ⟨A1,m1,c1,rfl⟩:=hy.row_form
                have HC6:=Lib.hid h9
                have HK6:=Lib.hid (HK5.out.trans hk9)
                have HS6:=Lib.hid (HS5.out.kp hk9 hq hqa hqb)
                have HX6x:=Lib.hid hx9
                have HZ6:=Lib.hid hk9.size
                have HL6:=Lib.hid (And.intro (lt_heap HS5.out.e) (lt_heap HS5.out.z))
                obtain ⟨⟨d0,d1,d2,d3,d4,d5⟩,f0,f1,f2,f3,f4,f5⟩:=bx6 HS6.out.e
                have hz6:=lt_heap HS6.out.e
                clear h9 hk9 hx9 hy)
             | (fail))
           have hs9:=HS6.out.setXo hn (.cells #[.int .u8 (k1:Int),.string (strOf s1),.int .i64 n1,.slice A1 m1 c1] 276) (Sg.one HX6x.out HK5.out.size HL6.out.2 HL6.out.1 HZ6.out)
           have hc9:=Cx.one H0.out HC6.out HK6.out (g3:=w.heap.size+1) (by omega) 2 (.slice (some ⟨w6.heap.size,0,none⟩) 1 1)
           have hc9a:=hc9.1.alloc (.cells #[.int .u8 (k1:Int),.string (strOf s1),.int .i64 n1,.slice A1 m1 c1] 276)
           have hc9b:=hc9.2.alloc (.cells #[.int .u8 (k1:Int),.string (strOf s1),.int .i64 n1,.slice A1 m1 c1] 276)
           clear hc9 c10 d0 d1 d2 d3 d4 d5 f0 f1 f2 f3 f4 f5
           obtain ⟨W7,hW9⟩:∃ W,(w6.setCell ⟨w.heap.size+1,2,none⟩ (.slice (some ⟨w6.heap.size,0,none⟩) 1 1)).alloc (.cells #[.int .u8 (k1:Int),.string (strOf s1),.int .i64 n1,.slice A1 m1 c1] 276)=W:=⟨_,rfl⟩
           rw [hW9] at hs9 hc9a hc9b ⊢
           have HS7:=Lib.hid hs9
           have HC7:=Lib.hid hc9a
           have HK7:=Lib.hid hc9b
           clear hs9 hc9a hc9b hW9
           go_wp2_with (first
             | (go_at_call 181
                refine (HMM.out p3 _ [59] ⟨#[59]⟩ rfl (by decide) HC7.out).mono ?_
                rintro e w8 ⟨rfl,h9,hk9⟩
                have HC8:=Lib.hid h9
                have HK8:=Lib.hid (HK7.out.trans hk9)
                have HS8:=Lib.hid (HS7.out.kp hk9 hq hqa hqb)
                obtain ⟨⟨r0,r1,r2,r3,r4,r5⟩,-⟩:=bx6 HS8.out.e
                obtain ⟨⟨i0,i1,i2,i3,i4,i5⟩,f0,f1,f2,f3,f4,f5⟩:=bx6 HS8.out.z
                have hz8:=lt_heap HS8.out.z
                clear h9 hk9)
             | (fail))
           have hE:=Lib.hid (endS H0.out HC8.out HK8.out (Nat.le_refl _) HS8.out)
           have q6:=st6 HS8.out.z (.int .u8 5) (.string ⟨#[]⟩) (.slice (some ⟨w6.heap.size,0,none⟩) 1 1) (.slice none 0 0) (.slice none 0 0) (.int .i64 (p.ln:Int))
           obtain ⟨v,-,-,hcx,-⟩:=hE.out
           refine leaves_cons (f:=174) (args:=#[.pointer (some ⟨q,0,none⟩)]) (by simp) (by simp [go_sem]) ?_
           refine (HFD.out _ _ (p3.must T [59]).2 hcx HGR.out.1 HGR.out.2).mono ?_
           rintro e u' wz ⟨rfl,rfl,h9,k9⟩
           obtain ⟨⟨e0,e1,e2,e3,e4,e5⟩,-⟩:=bx6 (k9.heap q6 hqa)
           refine ⟨.agg #[.int .u8 5,.string ⟨#[]⟩,.slice (some ⟨w6.heap.size,0,none⟩) 1 1,.slice none 0 0,.slice none 0 0,.int .i64 (p.ln:Int)],by simp [results,Tryz.results209,go_sem,e0,e1,e2,e3,e4,e5],?_⟩
           exact hE.out.more k9 h9 hq
       · cases ho:or p2 with
         | none=>rw [ho] at hR; cases hR
         | some y =>
           obtain ⟨x,p3⟩:=y
           rw [ho] at hR
           cases hR
           have HX6:=Lib.hid (fun w' (h':Cx w0 T R q w' p2)=>HXX.out w' p2 _ h' rfl ho)
           have c10:=(box11 HC5.out.hp).1.2.2.2.2.2.2.2.2.2.2
           unfold lvF at0 at c10
           clear HXX HLL HPP HBR HNN HR ho
           go_upto_region 25 with (first
             | (go_at_call 171
                refine (HX6.out _ HC5.out).mono ?_
                rintro e w6 ⟨v9,rfl,hx9,h9,hk9⟩
                obtain ⟨k1,s1,n1,l1⟩:=x
                obtain ⟨y,rfl,-,-,hy⟩:=(Ex.rd k1 s1 n1 l1 v9).1 hx9
                obtain ⟨A1,m1,c1,rfl⟩:=hy.row_form
                have HC6:=Lib.hid h9
                have HK6:=Lib.hid (HK5.out.trans hk9)
                have HS6:=Lib.hid (HS5.out.kp hk9 hq hqa hqb)
                have HX6x:=Lib.hid hx9
                have HZ6:=Lib.hid hk9.size
                have HL6:=Lib.hid (And.intro (lt_heap HS5.out.e) (lt_heap HS5.out.z))
                obtain ⟨⟨d0,d1,d2,d3,d4,d5⟩,f0,f1,f2,f3,f4,f5⟩:=bx6 HS6.out.e
                have hz6:=lt_heap HS6.out.e
                clear h9 hk9 hx9 hy)
             | (fail))
           have hs9:=HS6.out.setXo hn (.cells #[.int .u8 (k1:Int),.string (strOf s1),.int .i64 n1,.slice A1 m1 c1] 276) (Sg.one HX6x.out HK5.out.size HL6.out.2 HL6.out.1 HZ6.out)
           have hc9:=Cx.one H0.out HC6.out HK6.out (g3:=w.heap.size+1) (by omega) 2 (.slice (some ⟨w6.heap.size,0,none⟩) 1 1)
           have hc9a:=hc9.1.alloc (.cells #[.int .u8 (k1:Int),.string (strOf s1),.int .i64 n1,.slice A1 m1 c1] 276)
           have hc9b:=hc9.2.alloc (.cells #[.int .u8 (k1:Int),.string (strOf s1),.int .i64 n1,.slice A1 m1 c1] 276)
           clear hc9 c10 d0 d1 d2 d3 d4 d5 f0 f1 f2 f3 f4 f5
           obtain ⟨W7,hW9⟩:∃ W,(w6.setCell ⟨w.heap.size+1,2,none⟩ (.slice (some ⟨w6.heap.size,0,none⟩) 1 1)).alloc (.cells #[.int .u8 (k1:Int),.string (strOf s1),.int .i64 n1,.slice A1 m1 c1] 276)=W:=⟨_,rfl⟩
           rw [hW9] at hs9 hc9a hc9b ⊢
           have HS7:=Lib.hid hs9
           have HC7:=Lib.hid hc9a
           have HK7:=Lib.hid hc9b
           clear hs9 hc9a hc9b hW9
           go_wp2_with (first
             | (go_at_call 181
                refine (HMM.out p3 _ [59] ⟨#[59]⟩ rfl (by decide) HC7.out).mono ?_
                rintro e w8 ⟨rfl,h9,hk9⟩
                have HC8:=Lib.hid h9
                have HK8:=Lib.hid (HK7.out.trans hk9)
                have HS8:=Lib.hid (HS7.out.kp hk9 hq hqa hqb)
                obtain ⟨⟨r0,r1,r2,r3,r4,r5⟩,-⟩:=bx6 HS8.out.e
                obtain ⟨⟨i0,i1,i2,i3,i4,i5⟩,f0,f1,f2,f3,f4,f5⟩:=bx6 HS8.out.z
                have hz8:=lt_heap HS8.out.z
                clear h9 hk9)
             | (fail))
           have hE:=Lib.hid (endS H0.out HC8.out HK8.out (Nat.le_refl _) HS8.out)
           have q6:=st6 HS8.out.z (.int .u8 9) (.string ⟨#[]⟩) (.slice (some ⟨w6.heap.size,0,none⟩) 1 1) (.slice none 0 0) (.slice none 0 0) (.int .i64 (p.ln:Int))
           obtain ⟨v,-,-,hcx,-⟩:=hE.out
           refine leaves_cons (f:=174) (args:=#[.pointer (some ⟨q,0,none⟩)]) (by simp) (by simp [go_sem]) ?_
           refine (HFD.out _ _ (p3.must T [59]).2 hcx HGR.out.1 HGR.out.2).mono ?_
           rintro e u' wz ⟨rfl,rfl,h9,k9⟩
           obtain ⟨⟨e0,e1,e2,e3,e4,e5⟩,-⟩:=bx6 (k9.heap q6 hqa)
           refine ⟨.agg #[.int .u8 9,.string ⟨#[]⟩,.slice (some ⟨w6.heap.size,0,none⟩) 1 1,.slice none 0 0,.slice none 0 0,.int .i64 (p.ln:Int)],by simp [results,Tryz.results209,go_sem,e0,e1,e2,e3,e4,e5],?_⟩
           exact hE.out.more k9 h9 hq
     · rw [if_neg hcC] at hR
       by_cases hcD:kk=6
       · rw [if_pos hcD] at hR
         subst hcD
         cases ho:postF T or k p2 with
         | none=>rw [ho] at hR; cases hR
         | some y =>
           obtain ⟨x,p3⟩:=y
           rw [ho] at hR
           dsimp only at hR
           have hg3:p3.g=p2.g:=postF_g HGG.out k _ _ ho
           have HN3:=Lib.hid (HNN.out p3)
           have hgn:=name_g T p3
           have HSK:=Lib.hid (fun s p' w' (h':Cx w0 T R q w' p3) (e:p3.name T=(s,p'))=>name_sok e h'.ok)
           obtain ⟨s4,p4,hP4⟩:∃ s4 p4,p3.name T=(s4,p4):=⟨_, _,rfl⟩
           have HSO:=Lib.hid (fun w' (h':Cx w0 T R q w' p3)=>HSK.out _ _ w' h' hP4)
           rw [hP4] at hR hgn HN3
           dsimp only at hR hgn HN3
           clear hP4 HSK
           cases hl:listF T or k p4 with
           | none=>rw [hl] at hR; cases hR
           | some y =>
             obtain ⟨l,p5⟩:=y
             rw [hl] at hR
             cases hR
             have HX6:=Lib.hid (fun w' (h':Cx w0 T R q w' p2)=>HPP.out w' p2 _ h' rfl ho)
             have HL6:=Lib.hid (fun w' (h':Cx w0 T R q w' p4)=>HLL.out w' p4 _ h' (by omega) hl)
             have HLN:Hid (l.length≤100001):=Lib.hid (by have:=listF_len hl; dsimp only at this; omega)
             have HL5:=Lib.hid (And.intro (lt_heap HS5.out.e) (lt_heap HS5.out.z))
             unfold lvF at HL6
             clear HXX HLL HPP HBR HNN HR ho hl
             go_upto_region 20 with (first
               | (go_at_call 175
                  refine (HX6.out _ HC5.out).mono ?_
                  rintro e w6 ⟨v9,rfl,hx9,h9,hk9⟩
                  obtain ⟨k1,s1,n1,l1⟩:=x
                  obtain ⟨y,rfl,-,-,hy⟩:=(Ex.rd k1 s1 n1 l1 v9).1 hx9
                  obtain ⟨A1,m1,c1,rfl⟩:=hy.row_form
                  have HC6:=Lib.hid h9
                  have HK6:=Lib.hid (HK5.out.trans hk9)
                  have HS6:=Lib.hid (HS5.out.kp hk9 hq hqa hqb)
                  have HX6x:=Lib.hid hx9
                  have hz6:=lt_heap HS6.out.e
                  clear h9 hk9 hx9 hy)
               | (fail))
             have hqt:¬ w6.heap.size=q:=by have:=HC6.out.lt; omega
             have hqt3:¬ w6.heap.size=w.heap.size+1:=by omega
             have HC7:=Lib.hid (HC6.out.alloc (.cells #[.int .u8 (k1:Int),.string (strOf s1),.int .i64 n1,.slice A1 m1 c1] 276))
             have HK7:=Lib.hid (HK6.out.alloc (.cells #[.int .u8 (k1:Int),.string (strOf s1),.int .i64 n1,.slice A1 m1 c1] 276))
             have HS7:=Lib.hid (HS6.out.alloc (.cells #[.int .u8 (k1:Int),.string (strOf s1),.int .i64 n1,.slice A1 m1 c1] 276))
             have HT7:=Lib.hid (heap_new w6 (.cells #[.int .u8 (k1:Int),.string (strOf s1),.int .i64 n1,.slice A1 m1 c1] 276))
             have HX7:=Lib.hid (Sg.alloc (.cells #[.int .u8 (k1:Int),.string (strOf s1),.int .i64 n1,.slice A1 m1 c1] 276) (Sg.of (w:=w) (g0:=w.heap.size) (g3:=w.heap.size+1) HX6x.out HK5.out.size HL5.out.2 HL5.out.1))
             go_upto_region 21 with (first
               | (go_at_call 178
                  refine (HN3.out _ HC7.out).mono ?_
                  rintro e w8 ⟨rfl,h9,hk9⟩
                  have HC8:=Lib.hid h9
                  have HK8:=Lib.hid (HK7.out.trans hk9)
                  have HS8:=Lib.hid (HS7.out.kp hk9 hq hqa hqb)
                  have HT8:=Lib.hid (hk9.heap HT7.out hqt)
                  have HX8:=Lib.hid (Sg.keep hk9 hq HX7.out)
                  have HSO8:=Lib.hid (HSO.out _ HC7.out)
                  obtain ⟨⟨d0,d1,d2,d3,d4,d5⟩,f0,f1,f2,f3,f4,f5⟩:=bx6 HS8.out.e
                  have hz8:=lt_heap HS8.out.e
                  clear h9 hk9)
               | (fail))
             have hs9:=HS8.out.setS hn s4 HSO8.out
             have hc9:=Cx.one H0.out HC8.out HK8.out (g3:=w.heap.size+1) (by omega) 1 (.string (strOf s4))
             have ht9:=heap_set_ne (i:=1) (v := .string (strOf s4)) HT8.out hqt3
             have hx9:=Sg.set 1 (.string (strOf s4)) HX8.out
             clear d0 d1 d2 d3 d4 d5 f0 f1 f2 f3 f4 f5
             obtain ⟨W9,hW9⟩:∃ W,w8.setCell ⟨w.heap.size+1,1,none⟩ (.string (strOf s4))=W:=⟨_,rfl⟩
             rw [hW9] at hs9 hc9 ht9 hx9 ⊢
             have HS9:=Lib.hid hs9
             have HC9:=Lib.hid hc9.1
             have HK9:=Lib.hid hc9.2
             have HT9:=Lib.hid ht9
             have HX9:=Lib.hid hx9
             clear hs9 hc9 hW9 ht9 hx9 HT8 HX8 HSO8 HS8 HC8 HK8 HX7 HT7 HS7 HK7 HC7 HX6x HS6 HK6 HC6 HSO HN3 HX6 hz8 hz6
             obtain ⟨gT,hgT⟩:∃ g,w6.heap.size=g:=⟨_,rfl⟩
             rw [hgT] at hqt hqt3 HT9 ⊢
             clear hgT
             have HL9:=Lib.hid (And.intro (lt_heap HS9.out.e) (And.intro (lt_heap HS9.out.z) (lt_heap HT9.out)))
             obtain ⟨⟨t0,t1,t2,t3⟩,-⟩:=box4f HT9.out
             have c10:=(box11 HC9.out.hp).1.2.2.2.2.2.2.2.2.2.2
             unfold lvF at0 at c10
             have hlt9:=HC9.out.lt
             have hzT:=lt_heap HT9.out
             have hz9:=lt_heap HS9.out.e
             have HB9:Hid (w.heap.size≤W9.heap.size):=Lib.hid HK9.out.size
             refine wp_region_noPanic ?_
             go_region_law (first
               | (go_simp
                  go_at_call 228
                  refine (HL6.out _ HC9.out.drew).mono ?_
                  rintro e w10 ⟨v10,rfl,hx10,h10,hk10⟩
                  have hk10':Kp q W9 w10:=((Kp.refl q W9).drew).trans hk10
                  obtain ⟨A2,n2,c2,xs2,rfl,hn2,hf2,hone2,hat2⟩:=row_flat (fun b hb=>hb.2) hx10
                  have HF2:=Lib.hid (And.intro hn2 (And.intro hf2 (And.intro hone2 hat2)))
                  have HC10:=Lib.hid h10
                  have HK10:=Lib.hid (HK9.out.trans hk10')
                  have HS10:=Lib.hid (HS9.out.kp hk10' hq hqa hqb)
                  have HT10:=Lib.hid (hk10'.heap HT9.out hqt)
                  have HZ10:=Lib.hid hk10'.size
                  have HX10:Hid (Rd w10 (fun b=>Sg w w10 w.heap.size (w.heap.size+1) b∧b<W9.heap.size) (Ex.nd (.mk k1 s1 n1 l1)) (.agg #[.int .u8 (k1:Int),.string (strOf s1),.int .i64 n1,.slice A1 m1 c1])):=Lib.hid (Rd.keep (fun p hp=>hk10'.cellq hp.1.2 (by have:=hp.1.1; omega)) (fun b hb=>⟨⟨⟨hb.1.1,by have:=hb.1.2; have:=hk10'.size; omega⟩,hb.2⟩,hb.1.2⟩) _ _ HX9.out)
                  obtain ⟨⟨i0,i1,i2,i3⟩,-⟩:=box4f HT10.out
                  have hzT10:=lt_heap HT10.out
                  clear h10 hk10 hk10' hx10 hn2 hf2 hone2 hat2)
               | (go_simp
                  go_at_call 228
                  refine (HL6.out _ (HC9.out.alloc _).drew).mono ?_
                  rintro e w10 ⟨v10,rfl,hx10,h10,hk10⟩
                  have hk10':Kp q (W9.alloc (.cells #[.int .u8 (k1:Int),.string (strOf s1),.int .i64 n1,.slice A1 m1 c1] 276)) w10:=((Kp.refl q _).drew).trans hk10
                  obtain ⟨A2,n2,c2,xs2,rfl,hn2,hf2,hone2,hat2⟩:=row_flat (fun b hb=>hb.2) hx10
                  have HF2:=Lib.hid (And.intro hn2 (And.intro hf2 (And.intro hone2 hat2)))
                  have HC10:=Lib.hid h10
                  have HK10:=Lib.hid ((HK9.out.alloc _).trans hk10')
                  have HS10:=Lib.hid ((HS9.out.alloc _).kp hk10' hq hqa hqb)
                  have HZ10:=Lib.hid hk10'.size
                  have HX10:Hid (Rd w10 (fun b=>Sg w w10 w.heap.size (w.heap.size+1) b∧b<W9.heap.size) (Ex.nd (.mk k1 s1 n1 l1)) (.agg #[.int .u8 (k1:Int),.string (strOf s1),.int .i64 n1,.slice A1 m1 c1])):=Lib.hid (Rd.keep (fun p hp=>(hk10'.cellq (by have:=hp.1.2; simp; omega) (by have:=hp.1.1; omega)).trans (((Below.refl _ W9).alloc (Nat.le_refl _) _).cell hp.1.2)) (fun b hb=>⟨⟨⟨hb.1.1,by have:=hb.1.2; have:=hk10'.size; simp at this; omega⟩,hb.2⟩,hb.1.2⟩) _ _ HX9.out)
                  have HOL:=Lib.hid (World.ownsRow.kept (row:=some q) (World.ownsRow_lit (e:=276) (size:=4) (base:=W9.heap.size) W9 #[.int .u8 (k1:Int),.string (strOf s1),.int .i64 n1,.slice A1 m1 c1] 1 (Nat.le_refl _) (by unfold maxLen; omega) rfl) hk10' (.inr (fun e=>by have e:some W9.heap.size=some q:=e; have:=Option.some.inj e; omega)))
                  clear h10 hk10 hk10' hx10 hn2 hf2 hone2 hat2)
               | (refine step_ex rfl (.tmp 58) (.tmp 64) rfl (base:=W9.heap.size) (v := .slice (some ⟨W9.heap.size,0,none⟩) 1 1) (n:=1) (by simp [Act.eval]) HOL.out (A:=A2) (m:=n2) (c:=c2) (news:=xs2) (by simp [Act.eval]) HF2.out.2.2.2 (by rw [HF2.out.2.1.1,List.length_map,HF2.out.1]) HF2.out.2.2.1 (by have:=HF2.out.1; have:=HLN.out; omega) (by have:=HZ10.out; simp at this; omega) ?_
                  intro v' w11 ho11 hg11 hor11
                  have hg11':World.grownBy w10 w11 (some W9.heap.size):=hg11
                  have hbk:=HB9.out
                  have hl9:=HL9.out
                  have hz0:=HZ10.out
                  have HROW:=Lib.hid (cons_row (w:=w) (g0:=w.heap.size) (g3:=w.heap.size+1) (gv:=W9.heap.size) (cells:=[.int .u8 (k1:Int),.string (strOf s1),.int .i64 n1,.slice A1 m1 c1]) (xs:=xs2) (l:=l.map Ex.nd) (v':=v') (Rd.keep (fun _ _ => rfl) (fun b hb=>⟨hb.1,by have:=hb.2; omega⟩) _ _ HX10.out) (HF2.out.2.1.keep (fun _ _ => rfl) (fun b hb=>by have h1:=hb.1; have h2:=hb.2; have h3:=HL9.out; simp at h1; exact ⟨⟨⟨by omega,h2⟩,by omega,by omega⟩,by omega⟩)) rfl (by rw [List.length_map,← HF2.out.1]; exact ho11) hg11' hbk (by omega) (by omega))
                  obtain ⟨A',n',c',rfl⟩:=HROW.out.row_form
                  have HS11:Hid (StAt w w11 w.heap.size (w.heap.size+1) 6 s4 [] [] [] p.ln (.slice none 0 0) (.slice none 0 0) (.slice none 0 0)):=Lib.hid (by
                    have hs:=HS10.out
                    have g1:=lt_heap hs.e
                    have g2:=lt_heap hs.z
                    have z1:w.heap.size+1<W9.heap.size:=HL9.out.1
                    refine ⟨(hg11'.block _ g1 (fun e=>?_)).trans hs.e,(hg11'.block _ g2 (fun e=>?_)).trans hs.z,Rd.nil _,Rd.nil _,Rd.nil _,hs.ok⟩
                    · have:=Option.some.inj e
                      first | omega | (simp at hz0; omega)
                    · have:=Option.some.inj e
                      first | omega | (simp at hz0; omega))
                  have hcg:=Cx.grown H0.out HC10.out HK10.out hg11' (fun g' e=>by have:=Option.some.inj e; first | omega | (simp at hz0; omega))
                  have HC11:=Lib.hid hcg.1
                  have HK11:=Lib.hid hcg.2
                  obtain ⟨⟨j0,j1,j2,j3,j4,j5⟩,k0,k1',k2,k3,k4,k5⟩:=bx6 HS11.out.e
                  have hz11:=lt_heap HS11.out.e
                  clear hcg ho11 hg11 hor11 hg11' hbk hl9 hz0)
               | (refine step_ex rfl (.tmp 58) (.tmp 64) rfl (base:=W9.heap.size) (v := .slice (some ⟨w10.heap.size,0,none⟩) 1 1) (n:=1) (by simp [Act.eval]) (World.ownsRow_lit (e:=276) (size:=4) (base:=W9.heap.size) w10 #[.int .u8 (k1:Int),.string (strOf s1),.int .i64 n1,.slice A1 m1 c1] 1 HZ10.out (by unfold maxLen; omega) rfl) (A:=A2) (m:=n2) (c:=c2) (news:=xs2) (by simp [Act.eval]) (At.alloc HF2.out.2.2.2 (Nat.le_refl _) (.cells #[.int .u8 (k1:Int),.string (strOf s1),.int .i64 n1,.slice A1 m1 c1] 276)) (by rw [HF2.out.2.1.1,List.length_map,HF2.out.1]) HF2.out.2.2.1 (by have:=HF2.out.1; have:=HLN.out; omega) (by have:=HZ10.out; simp; omega) ?_
                  intro v' w11 ho11 hg11 hor11
                  have hg11':World.grownBy (w10.alloc (.cells #[.int .u8 (k1:Int),.string (strOf s1),.int .i64 n1,.slice A1 m1 c1] 276)) w11 (some w10.heap.size):=hg11
                  have hbk:=HB9.out
                  have hl9:=HL9.out
                  have hz0:=HZ10.out
                  have HROW:=Lib.hid (cons_row (w:=w) (g0:=w.heap.size) (g3:=w.heap.size+1) (gv:=w10.heap.size) (cells:=[.int .u8 (k1:Int),.string (strOf s1),.int .i64 n1,.slice A1 m1 c1]) (xs:=xs2) (l:=l.map Ex.nd) (v':=v') (Rd.keep (fun p hp=>((Below.refl _ w10).alloc (Nat.le_refl _) _).cell hp.1.1.2) (fun b hb=>⟨⟨⟨hb.1.1.1,by have:=hb.1.1.2; simp; omega⟩,hb.1.2⟩,by have:=hb.1.1.2; omega⟩) _ _ HX10.out) (HF2.out.2.1.keep (fun p hp=>((Below.refl _ w10).alloc (Nat.le_refl _) _).cell hp.2) (fun b hb=>by have h1:=hb.1; have h2:=hb.2; have h3:=HL9.out; simp at h1; exact ⟨⟨⟨by omega,by simp; omega⟩,by omega,by omega⟩,by omega⟩)) rfl (by rw [List.length_map,← HF2.out.1]; exact ho11) hg11' hbk (by omega) (by omega))
                  obtain ⟨A',n',c',rfl⟩:=HROW.out.row_form
                  have HS11:Hid (StAt w w11 w.heap.size (w.heap.size+1) 6 s4 [] [] [] p.ln (.slice none 0 0) (.slice none 0 0) (.slice none 0 0)):=Lib.hid (by
                    have hs:=HS10.out.alloc (.cells #[.int .u8 (k1:Int),.string (strOf s1),.int .i64 n1,.slice A1 m1 c1] 276)
                    have g1:=lt_heap hs.e
                    have g2:=lt_heap hs.z
                    have z1:w.heap.size+1<W9.heap.size:=HL9.out.1
                    refine ⟨(hg11'.block _ g1 (fun e=>?_)).trans hs.e,(hg11'.block _ g2 (fun e=>?_)).trans hs.z,Rd.nil _,Rd.nil _,Rd.nil _,hs.ok⟩
                    · have:=Option.some.inj e
                      first | omega | (simp at hz0; omega)
                    · have:=Option.some.inj e
                      first | omega | (simp at hz0; omega))
                  have hcg:=Cx.grown H0.out (HC10.out.alloc _) (HK10.out.alloc _) hg11' (fun g' e=>by have:=Option.some.inj e; first | omega | (simp at hz0; omega))
                  have HC11:=Lib.hid hcg.1
                  have HK11:=Lib.hid hcg.2
                  obtain ⟨⟨j0,j1,j2,j3,j4,j5⟩,k0,k1',k2,k3,k4,k5⟩:=bx6 HS11.out.e
                  have hz11:=lt_heap HS11.out.e
                  clear hcg ho11 hg11 hor11 hg11' hbk hl9 hz0)
               | (fail))
             all_goals
               refine NoPanic.normal ?_
               have hs12:=HS11.out.setX hn (x' := .mk k1 s1 n1 l1 :: l) HROW.out
               have hc12:=Cx.one H0.out HC11.out HK11.out (g3:=w.heap.size+1) (by omega) 2 (.slice A' n' c')
               have HS12:=Lib.hid hs12
               have HC12:=Lib.hid hc12.1
               have HK12:=Lib.hid hc12.2
               clear hs12 hc12 j0 j1 j2 j3 j4 j5 k0 k1' k2 k3 k4 k5 hz11
               go_wp2_with (first
                 | (go_at_call 181
                    refine (HMM.out p5 _ [59] ⟨#[59]⟩ rfl (by decide) HC12.out).mono ?_
                    rintro e w13 ⟨rfl,h9,hk9⟩
                    have HC13:=Lib.hid h9
                    have HK13:=Lib.hid (HK12.out.trans hk9)
                    have HS13:=Lib.hid (HS12.out.kp hk9 hq hqa hqb)
                    obtain ⟨⟨r0,r1,r2,r3,r4,r5⟩,-⟩:=bx6 HS13.out.e
                    obtain ⟨⟨i0,i1,i2,i3,i4,i5⟩,f0,f1,f2,f3,f4,f5⟩:=bx6 HS13.out.z
                    have hz13:=lt_heap HS13.out.z
                    clear h9 hk9)
                 | (fail))
               have hE:=Lib.hid (endS H0.out HC13.out HK13.out (Nat.le_refl _) HS13.out)
               have q6:=st6 HS13.out.z (.int .u8 6) (.string (strOf s4)) (.slice A' n' c') (.slice none 0 0) (.slice none 0 0) (.int .i64 (p.ln:Int))
               obtain ⟨v,-,-,hcx,-⟩:=hE.out
               refine leaves_cons (f:=174) (args:=#[.pointer (some ⟨q,0,none⟩)]) (by simp) (by simp [go_sem]) ?_
               refine (HFD.out _ _ (p5.must T [59]).2 hcx HGR.out.1 HGR.out.2).mono ?_
               rintro e u' wz ⟨rfl,rfl,h9,k9⟩
               obtain ⟨⟨e0,e1,e2,e3,e4,e5⟩,-⟩:=bx6 (k9.heap q6 hqa)
               refine ⟨.agg #[.int .u8 6,.string (strOf s4),.slice A' n' c',.slice none 0 0,.slice none 0 0,.int .i64 (p.ln:Int)],by simp [results,Tryz.results209,go_sem,e0,e1,e2,e3,e4,e5],?_⟩
               exact hE.out.more k9 h9 hq
       · rw [if_neg hcD] at hR
         by_cases hcE:kk=7
         · rw [if_pos hcE] at hR
           subst hcE
           have hgn:=name_g T p2
           have HOK:=Lib.hid (fun s p' (e:p2.name T=(s,p'))=>name_sok e HC5.out.ok)
           have HN2:=Lib.hid (HNN.out p2)
           obtain ⟨s3,p3,hP3⟩:∃ s3 p3,p2.name T=(s3,p3):=⟨_, _,rfl⟩
           have HSO:=Lib.hid (HOK.out _ _ hP3)
           rw [hP3] at hR hgn HN2
           dsimp only at hR hgn HN2
           clear hP3 HOK
           cases hl:listF T or k p3 with
           | none=>rw [hl] at hR; cases hR
           | some y =>
             obtain ⟨l,p4⟩:=y
             rw [hl] at hR
             cases hR
             have HL6:=Lib.hid (fun w' (h':Cx w0 T R q w' p3)=>HLL.out w' p3 _ h' (by omega) hl)
             clear HXX HLL HPP HBR HNN HR hl
             go_upto_region 24 with (first
               | (go_at_call 178
                  refine (HN2.out _ HC5.out).mono ?_
                  rintro e w6 ⟨rfl,h9,hk9⟩
                  have HC6:=Lib.hid h9
                  have HK6:=Lib.hid (HK5.out.trans hk9)
                  have HS6:=Lib.hid (HS5.out.kp hk9 hq hqa hqb)
                  obtain ⟨⟨d0,d1,d2,d3,d4,d5⟩,f0,f1,f2,f3,f4,f5⟩:=bx6 HS6.out.e
                  have hz6:=lt_heap HS6.out.e
                  clear h9 hk9)
               | (fail))
             have hs9:=HS6.out.setS hn s3 HSO.out
             have hc9:=Cx.one H0.out HC6.out HK6.out (g3:=w.heap.size+1) (by omega) 1 (.string (strOf s3))
             clear d0 d1 d2 d3 d4 d5 f0 f1 f2 f3 f4 f5
             obtain ⟨W7,hW9⟩:∃ W,w6.setCell ⟨w.heap.size+1,1,none⟩ (.string (strOf s3))=W:=⟨_,rfl⟩
             rw [hW9] at hs9 hc9 ⊢
             have HS7:=Lib.hid hs9
             have HC7:=Lib.hid hc9.1
             have HK7:=Lib.hid hc9.2
             clear hs9 hc9 hW9
             have c10:=(box11 HC7.out.hp).1.2.2.2.2.2.2.2.2.2.2
             unfold lvF at0 at c10
             unfold lvF at HL6
             have HL7:=Lib.hid (show w.heap.size+1<W7.heap.size∧w.heap.size<W7.heap.size from ⟨lt_heap HS7.out.e,lt_heap HS7.out.z⟩)
             go_upto_region 25 with (first
               | (go_at_call 228
                  refine (HL6.out _ HC7.out).mono ?_
                  rintro e w8 ⟨v9,rfl,hx9,h9,hk9⟩
                  obtain ⟨A1,n1,c1,rfl⟩:=hx9.row_form
                  have HC8:=Lib.hid h9
                  have HK8:=Lib.hid (HK7.out.trans hk9)
                  have HS8:=Lib.hid (HS7.out.kp hk9 hq hqa hqb)
                  have HX8:=Lib.hid hx9
                  obtain ⟨⟨d0,d1,d2,d3,d4,d5⟩,f0,f1,f2,f3,f4,f5⟩:=bx6 HS8.out.e
                  have hz8:=lt_heap HS8.out.e
                  clear h9 hk9 hx9)
               | (fail))
             have hs9:=HS8.out.setX hn (x':=l) (Sg.of HX8.out HK7.out.size HL7.out.2 HL7.out.1)
             have hc9:=Cx.one H0.out HC8.out HK8.out (g3:=w.heap.size+1) (by omega) 2 (.slice A1 n1 c1)
             clear d0 d1 d2 d3 d4 d5 f0 f1 f2 f3 f4 f5 c10
             obtain ⟨W9,hW9⟩:∃ W,w8.setCell ⟨w.heap.size+1,2,none⟩ (.slice A1 n1 c1)=W:=⟨_,rfl⟩
             rw [hW9] at hs9 hc9 ⊢
             have HS9:=Lib.hid hs9
             have HC9:=Lib.hid hc9.1
             have HK9:=Lib.hid hc9.2
             clear hs9 hc9 hW9
             go_wp2_with (first
               | (go_at_call 181
                  refine (HMM.out p4 _ [59] ⟨#[59]⟩ rfl (by decide) HC9.out).mono ?_
                  rintro e w10 ⟨rfl,h9,hk9⟩
                  have HC10:=Lib.hid h9
                  have HK10:=Lib.hid (HK9.out.trans hk9)
                  have HS10:=Lib.hid (HS9.out.kp hk9 hq hqa hqb)
                  obtain ⟨⟨r0,r1,r2,r3,r4,r5⟩,-⟩:=bx6 HS10.out.e
                  obtain ⟨⟨i0,i1,i2,i3,i4,i5⟩,f0,f1,f2,f3,f4,f5⟩:=bx6 HS10.out.z
                  have hz10:=lt_heap HS10.out.z
                  clear h9 hk9)
               | (fail))
             have hE:=Lib.hid (endS H0.out HC10.out HK10.out (Nat.le_refl _) HS10.out)
             have q6:=st6 HS10.out.z (.int .u8 7) (.string (strOf s3)) (.slice A1 n1 c1) (.slice none 0 0) (.slice none 0 0) (.int .i64 (p.ln:Int))
             obtain ⟨v,-,-,hcx,-⟩:=hE.out
             refine leaves_cons (f:=174) (args:=#[.pointer (some ⟨q,0,none⟩)]) (by simp) (by simp [go_sem]) ?_
             refine (HFD.out _ _ (p4.must T [59]).2 hcx HGR.out.1 HGR.out.2).mono ?_
             rintro e u' wz ⟨rfl,rfl,h9,k9⟩
             obtain ⟨⟨e0,e1,e2,e3,e4,e5⟩,-⟩:=bx6 (k9.heap q6 hqa)
             refine ⟨.agg #[.int .u8 7,.string (strOf s3),.slice A1 n1 c1,.slice none 0 0,.slice none 0 0,.int .i64 (p.ln:Int)],by simp [results,Tryz.results209,go_sem,e0,e1,e2,e3,e4,e5],?_⟩
             exact hE.out.more k9 h9 hq
         · rw [if_neg hcE] at hR
           obtain rfl:kk=8:=by omega
           cases hR
           clear HXX HLL HPP HBR HNN HR
           go_wp2_with (first
             | (go_at_call 181
                refine (HMM.out p2 _ [59] ⟨#[59]⟩ rfl (by decide) HC5.out).mono ?_
                rintro e w6 ⟨rfl,h9,hk9⟩
                have HC6:=Lib.hid h9
                have HK6:=Lib.hid (HK5.out.trans hk9)
                have HS6:=Lib.hid (HS5.out.kp hk9 hq hqa hqb)
                obtain ⟨⟨r0,r1,r2,r3,r4,r5⟩,-⟩:=bx6 HS6.out.e
                obtain ⟨⟨i0,i1,i2,i3,i4,i5⟩,f0,f1,f2,f3,f4,f5⟩:=bx6 HS6.out.z
                have hz6:=lt_heap HS6.out.z
                clear h9 hk9)
             | (fail))
           have hE:=Lib.hid (endS H0.out HC6.out HK6.out (Nat.le_refl _) HS6.out)
           have q6:=st6 HS6.out.z (.int .u8 8) (.string ⟨#[]⟩) (.slice none 0 0) (.slice none 0 0) (.slice none 0 0) (.int .i64 (p.ln:Int))
           obtain ⟨v,-,-,hcx,-⟩:=hE.out
           refine leaves_cons (f:=174) (args:=#[.pointer (some ⟨q,0,none⟩)]) (by simp) (by simp [go_sem]) ?_
           refine (HFD.out _ _ (p2.must T [59]).2 hcx HGR.out.1 HGR.out.2).mono ?_
           rintro e u' wz ⟨rfl,rfl,h9,k9⟩
           obtain ⟨⟨e0,e1,e2,e3,e4,e5⟩,-⟩:=bx6 (k9.heap q6 hqa)
           refine ⟨.agg #[.int .u8 8,.string ⟨#[]⟩,.slice none 0 0,.slice none 0 0,.slice none 0 0,.int .i64 (p.ln:Int)],by simp [results,Tryz.results209,go_sem,e0,e1,e2,e3,e4,e5],?_⟩
           exact hE.out.more k9 h9 hq
end
end Go.Proofs.YtcmopnkldplngabGreatDoor
