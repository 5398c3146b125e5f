/- Texts Tu,Tv of this seat in one: see each part. -/
import Derived.Laws.EntriesVeiled
import Derived.Test.YtcmopnkldplngabGreatDoorTbe
import Derived.Test.YtcmopnkldplngabGreatDoorWij
import Derived.Test.YtcmopnkldplngabGreatDoorTqt
namespace Go.Proofs.YtcmopnkldplngabGreatDoor
open Go.RowKit
set_option linter.unusedVariables false
theorem say_sok:∀ (n:Nat) (l s:List Nat) (k:Nat),l.length≤n→(∀ x∈l,x<256)→say l=some (s,k)→(∀ x∈s,x<256)∧s.length≤l.length
 | 0,[],s,k, _, _,h=>by simp [say_nil] at h
 | n+1,[],s,k, _, _,h=>by simp [say_nil] at h
 | n + 1,x :: r,s,k,hn,h8,h=>by
   rw [say_cons] at h
   split at h
   · simp at h
     obtain ⟨rfl,rfl⟩:=h
     simp
   · split at h
     · simp at h
       obtain ⟨a,b,h1,rfl,rfl⟩:=h
       have:=say_sok n r a b (by simpa using hn) (fun y hy=>h8 y (by simp [hy])) h1
       refine ⟨?_,by simp; omega⟩
       intro y hy
       rcases List.mem_cons.1 hy with rfl | hy
       · exact h8 y (by simp)
       · exact this.1 y hy
     · obtain ⟨⟨y,j⟩,h1,h5⟩:=Option.bind_eq_some_iff.1 h
       obtain ⟨⟨a,b⟩,h2,h6⟩:=Option.map_eq_some_iff.1 h5
       simp only [Prod.mk.injEq] at h6
       obtain ⟨rfl,rfl⟩:=h6
       have h3:=esc_pos h1
       have h4:=(esc_take h1).2.2
       have:=say_sok n _ a b (by simp only [List.length_drop,List.length_cons] at *; omega) (fun z hz=>h8 z (List.mem_of_mem_drop hz)) h2
       refine ⟨?_,?_⟩
       · intro z hz
         rcases List.mem_cons.1 hz with rfl | hz
         · exact h4
         · exact this.1 z hz
       · have h7:=this.2
         simp only [List.length_drop,List.length_cons] at *
         omega
theorem tok_sok {l:List Nat} {t:Tk} (h8:∀ x∈l,x<256) (h:tok l=some t):(∀ x∈t.s,x<256)∧t.s.length≤l.length:=by
 unfold tok at h
 split at h
 · cases h; simp
 · rename_i x r
   split at h
   · unfold num at h
     split at h
     · cases h; simp
     · cases h
   · split at h
     · obtain ⟨⟨a,b⟩,h1,h2⟩:=Option.map_eq_some_iff.1 h
       cases h2
       have:=say_sok _ r a b (Nat.le_refl _) (fun y hy=>h8 y (by simp [hy])) h1
       exact ⟨this.1,by simp; omega⟩
     · split at h
       · cases h
         exact ⟨fun y hy=>h8 y ((List.takeWhile_sublist _).subset hy),tw_len _⟩
       · obtain ⟨s,h1,h2⟩:=Option.map_eq_some_iff.1 h
         cases h2
         have hp:=(sgn_mem h1).2
         exact ⟨fun y hy=>h8 y (hp.subset hy),hp.length_le⟩
theorem txt_ok (T:List Nat) (h8:∀ x∈T,x<256) (hn:T.length≤140737488355328) (w0:World) (hw:Wt w0):TxtOk w0 T:=by
 refine ⟨fun p w hb=>?_,fun p=>?_⟩
 · refine (next_any T h8 hn (p.e:Int) w (hw.below hb)).mono ?_
   rintro e w' ⟨rfl,hb'⟩
   refine ⟨?_,hb'⟩
   congr 1
   unfold nxtV Pst.step
   by_cases h1:32768<T.length
   · rw [if_pos h1,if_pos h1]
     rfl
   · rw [if_neg h1,if_neg h1]
     by_cases h2:T.length<p.e
     · rw [if_pos (by omega),if_pos h2]
       rfl
     · rw [if_neg (by omega),if_neg h2,Int.toNat_natCast]
       cases tok (T.drop (atW T p.e)) with
       | none=>rfl
       | some t =>
         show Value.tuple #[wrdV t.k (strOf t.s) t.n (lnW T p.e) (atW T p.e) (atW T p.e+t.e),flt 0 0]=Value.tuple #[wordV _,fltV _]
         unfold wrdV flt wordV fltV
         simp
 · unfold Pst.step
   by_cases h1:32768<T.length
   · rw [if_pos h1]
     exact ⟨by simp,by simp⟩
   · rw [if_neg h1]
     by_cases h2:T.length<p.e
     · rw [if_pos h2]
       exact ⟨by simp,by simp⟩
     · rw [if_neg h2]
       cases ht:tok (T.drop (atW T p.e)) with
       | none=>exact ⟨by simp,by simp⟩
       | some t =>
         have:=tok_sok (fun x hx=>h8 x (List.mem_of_mem_drop hx)) ht
         refine ⟨this.1,?_⟩
         have h3:=this.2
         rw [List.length_drop] at h3
         show t.s.length≤32768
         omega
section
variable {w:World} {q:Nat}
theorem LvAt.below {w':World} {l:Lv} {below:Value} {most:Int} {sg:List (List Nat)} (h:LvAt w q l below most sg) (k:Below w.heap.size w w'):LvAt w' q l below most sg:=h.kp (Kp.of_below k)
def lvN (n sa:Nat):Lv:=⟨n,n+1,n+2,n+3,sa⟩
set_option maxRecDepth 100000 in
set_option maxHeartbeats 1600000 in
theorem twosMake_any (fn:Fn) (first cap:Array Value) (most:Int) (sa:Nat) (sg:List (List Nat)) (ha:w.heap[sa]?=some (.cells (sg.map fun s=>Value.string (strOf s)).toArray 9 (0,0))) (hq:q<w.heap.size) (hqa:sa≠q) :
   Calls Tryz.prog 139 #[at0 q,.func fn first cap,.int .i64 most,.slice (some ⟨sa,0,none⟩) sg.length sg.length] w fun e w'=>e = .returned (lvF (lvN w.heap.size sa))∧LvAt w' q (lvN w.heap.size sa) (.func fn first cap) most sg∧Below w.heap.size w w':=by
 have hmf:∀ (fn:Fn) (first cap:Array Value) (w:World),(Instr.makeFunc fn first cap).run Tryz.prog w = .ok (.func fn first cap) w:=fun _ _ _ _ => rfl
 have hlt:=lt_heap ha
 have e0:=heap_new w (.cells #[at0 q] 220)
 have e1:=heap_new' (w.alloc (.cells #[at0 q] 220)) (.cells #[.func fn first cap] 227) (w.heap.size+1) (by simp)
 have e2:=heap_new' ((w.alloc (.cells #[at0 q] 220)).alloc (.cells #[.func fn first cap] 227)) (.cells #[.int .i64 most] 3) (w.heap.size+2) (by simp)
 have e3:=heap_new' (((w.alloc (.cells #[at0 q] 220)).alloc (.cells #[.func fn first cap] 227)).alloc (.cells #[.int .i64 most] 3)) (.cells #[.slice (some ⟨sa,0,none⟩) sg.length sg.length] 29) (w.heap.size+3) (by simp)
 have HL:Hid (LvAt ((((w.alloc (.cells #[at0 q] 220)).alloc (.cells #[.func fn first cap] 227)).alloc (.cells #[.int .i64 most] 3)).alloc (.cells #[.slice (some ⟨sa,0,none⟩) sg.length sg.length] 29)) q (lvN w.heap.size sa) (.func fn first cap) most sg) :=
   Lib.hid ⟨heap_old (heap_old (heap_old e0 _) _) _,heap_old (heap_old e1 _) _,heap_old e2 _,e3,heap_old (heap_old (heap_old (heap_old ha _) _) _) _,by show w.heap.size≠q; omega,by show w.heap.size+1≠q; omega,by show w.heap.size+2≠q; omega,by show w.heap.size+3≠q; omega,hqa⟩
 have HB:Hid (Below w.heap.size w ((((w.alloc (.cells #[at0 q] 220)).alloc (.cells #[.func fn first cap] 227)).alloc (.cells #[.int .i64 most] 3)).alloc (.cells #[.slice (some ⟨sa,0,none⟩) sg.length sg.length] 29))) :=
   Lib.hid (((((Below.refl _ w).alloc (Nat.le_refl _) _).alloc (by simp) _).alloc (by simp; omega) _).alloc (by simp; omega) _)
 obtain ⟨n,hn⟩:∃ n,sg.length=n:=⟨_,rfl⟩
 rw [hn] at HL HB ⊢
 clear e0 e1 e2 e3 ha hn
 unfold at0 at *
 go_enter Tryz.func139,Tryz.ntmps139
 go_wp2_with fail
 go_ret
 exact ⟨rfl,HL.out,HB.out⟩
set_option maxRecDepth 100000 in
set_option maxHeartbeats 4000000 in
theorem newParser_any (T:List Nat) (w:World) (ht:TxtOk w T) :
   Calls Tryz.prog 99 #[.string (strOf T)] w fun e w'=>∃ (R:Ru) (q:Nat),e = .returned (at0 q)∧Cx w T R q w' (pst0.step T)∧Below w.heap.size w w'∧q=w.heap.size:=by
 have hmf:∀ (fn:Fn) (first cap:Array Value) (w:World),(Instr.makeFunc fn first cap).run Tryz.prog w = .ok (.func fn first cap) w:=fun _ _ _ _ => rfl
 have HP1:=Lib.hid (heap_new w (.cells #[.string (strOf T),.int .u8 0,.string ⟨#[]⟩,.int .i64 0,.int .i64 0,.int .i64 0,.int .i64 0,.int .i64 0,.int .i64 0,.int .i64 0,.nilFunc] 229))
 have HB1:=Lib.hid ((Below.refl w.heap.size w).alloc (Nat.le_refl _) (.cells #[.string (strOf T),.int .u8 0,.string ⟨#[]⟩,.int .i64 0,.int .i64 0,.int .i64 0,.int .i64 0,.int .i64 0,.int .i64 0,.int .i64 0,.nilFunc] 229))
 go_enter Tryz.func99,Tryz.ntmps99
 go_wp2_with fail
 have A0:((w.alloc (.cells #[.string (strOf T),.int .u8 0,.string ⟨#[]⟩,.int .i64 0,.int .i64 0,.int .i64 0,.int .i64 0,.int .i64 0,.int .i64 0,.int .i64 0,.nilFunc] 229)).alloc (.cells #[.string ⟨#[42]⟩,.string ⟨#[47]⟩,.string ⟨#[37]⟩] 9)).heap[w.heap.size+1]?=some (.cells (sMul.map fun s=>Value.string (strOf s)).toArray 9 (0,0)):=heap_new' _ _ _ (by simp)
 refine (twosMake_any (.func 140) #[at0 w.heap.size] #[] 32768 (w.heap.size+1) sMul A0 (q:=w.heap.size) (by simp; omega) (by omega)).mono ?_
 rintro e w2 ⟨rfl,hl,hb⟩
 have HB2:Hid (Below w.heap.size w w2):=Lib.hid ((HB1.out.alloc HB1.out.size _).trans (hb.mono (by simp; omega)))
 have HP2:=Lib.hid (heap_below (heap_old HP1.out (.cells #[.string ⟨#[42]⟩,.string ⟨#[47]⟩,.string ⟨#[37]⟩] 9)) hb)
 have L0:=Lib.hid hl
 obtain ⟨l0,hl0⟩:∃ l,lvN ((w.alloc (.cells #[.string (strOf T),.int .u8 0,.string ⟨#[]⟩,.int .i64 0,.int .i64 0,.int .i64 0,.int .i64 0,.int .i64 0,.int .i64 0,.int .i64 0,.nilFunc] 229)).alloc (.cells #[.string ⟨#[42]⟩,.string ⟨#[47]⟩,.string ⟨#[37]⟩] 9)).heap.size (w.heap.size+1)=l:=⟨_,rfl⟩
 rw [hl0] at L0 ⊢
 clear hl0 hl hb A0
 unfold lvF
 go_wp2_with fail
 have A1:(w2.alloc (.cells #[.string ⟨#[43]⟩,.string ⟨#[45]⟩,.string ⟨#[43,43]⟩] 9)).heap[w2.heap.size]?=some (.cells (sAdd.map fun s=>Value.string (strOf s)).toArray 9 (0,0)):=heap_new' _ _ _ (by simp)
 have hsz1:w.heap.size<w2.heap.size:=lt_heap HP2.out
 refine (twosMake_any (.func 171) #[] #[at0 l0.bb,at0 l0.bm,at0 l0.bp,at0 l0.bs] 32768 (w2.heap.size) sAdd A1 (q:=w.heap.size) (by simp; omega) (by omega)).mono ?_
 rintro e w3 ⟨rfl,hl,hb⟩
 have HB3:Hid (Below w.heap.size w w3):=Lib.hid ((HB2.out.alloc HB2.out.size _).trans (hb.mono (by have:=HB2.out.size; simp; omega)))
 have HP3:=Lib.hid (heap_below (heap_old HP2.out (.cells #[.string ⟨#[43]⟩,.string ⟨#[45]⟩,.string ⟨#[43,43]⟩] 9)) hb)
 have L1:=Lib.hid hl
 have L0:=Lib.hid ((L0.out.below ((Below.refl _ _).alloc (Nat.le_refl _) (.cells #[.string ⟨#[43]⟩,.string ⟨#[45]⟩,.string ⟨#[43,43]⟩] 9))).below hb)
 obtain ⟨l1,hl1⟩:∃ l,lvN (w2.alloc (.cells #[.string ⟨#[43]⟩,.string ⟨#[45]⟩,.string ⟨#[43,43]⟩] 9)).heap.size (w2.heap.size)=l:=⟨_,rfl⟩
 rw [hl1] at L1 ⊢
 clear hl1 hl hb A1
 unfold lvF
 go_wp2_with fail
 have A2:(w3.alloc (.cells #[.string ⟨#[61,61]⟩,.string ⟨#[33,61]⟩,.string ⟨#[60,61]⟩,.string ⟨#[62,61]⟩,.string ⟨#[60]⟩,.string ⟨#[62]⟩] 9)).heap[w3.heap.size]?=some (.cells (sCmp.map fun s=>Value.string (strOf s)).toArray 9 (0,0)):=heap_new' _ _ _ (by simp)
 have hsz2:w.heap.size<w3.heap.size:=lt_heap HP3.out
 refine (twosMake_any (.func 171) #[] #[at0 l1.bb,at0 l1.bm,at0 l1.bp,at0 l1.bs] 1 (w3.heap.size) sCmp A2 (q:=w.heap.size) (by simp; omega) (by omega)).mono ?_
 rintro e w4 ⟨rfl,hl,hb⟩
 have HB4:Hid (Below w.heap.size w w4):=Lib.hid ((HB3.out.alloc HB3.out.size _).trans (hb.mono (by have:=HB3.out.size; simp; omega)))
 have HP4:=Lib.hid (heap_below (heap_old HP3.out (.cells #[.string ⟨#[61,61]⟩,.string ⟨#[33,61]⟩,.string ⟨#[60,61]⟩,.string ⟨#[62,61]⟩,.string ⟨#[60]⟩,.string ⟨#[62]⟩] 9)) hb)
 have L2:=Lib.hid hl
 have L0:=Lib.hid ((L0.out.below ((Below.refl _ _).alloc (Nat.le_refl _) (.cells #[.string ⟨#[61,61]⟩,.string ⟨#[33,61]⟩,.string ⟨#[60,61]⟩,.string ⟨#[62,61]⟩,.string ⟨#[60]⟩,.string ⟨#[62]⟩] 9))).below hb)
 have L1:=Lib.hid ((L1.out.below ((Below.refl _ _).alloc (Nat.le_refl _) (.cells #[.string ⟨#[61,61]⟩,.string ⟨#[33,61]⟩,.string ⟨#[60,61]⟩,.string ⟨#[62,61]⟩,.string ⟨#[60]⟩,.string ⟨#[62]⟩] 9))).below hb)
 obtain ⟨l2,hl2⟩:∃ l,lvN (w3.alloc (.cells #[.string ⟨#[61,61]⟩,.string ⟨#[33,61]⟩,.string ⟨#[60,61]⟩,.string ⟨#[62,61]⟩,.string ⟨#[60]⟩,.string ⟨#[62]⟩] 9)).heap.size (w3.heap.size)=l:=⟨_,rfl⟩
 rw [hl2] at L2 ⊢
 clear hl2 hl hb A2
 unfold lvF
 go_wp2_with fail
 have A3:(w4.alloc (.cells #[.string ⟨#[38,38]⟩] 9)).heap[w4.heap.size]?=some (.cells (sAnd.map fun s=>Value.string (strOf s)).toArray 9 (0,0)):=heap_new' _ _ _ (by simp)
 have hsz3:w.heap.size<w4.heap.size:=lt_heap HP4.out
 refine (twosMake_any (.func 171) #[] #[at0 l2.bb,at0 l2.bm,at0 l2.bp,at0 l2.bs] 32768 (w4.heap.size) sAnd A3 (q:=w.heap.size) (by simp; omega) (by omega)).mono ?_
 rintro e w5 ⟨rfl,hl,hb⟩
 have HB5:Hid (Below w.heap.size w w5):=Lib.hid ((HB4.out.alloc HB4.out.size _).trans (hb.mono (by have:=HB4.out.size; simp; omega)))
 have HP5:=Lib.hid (heap_below (heap_old HP4.out (.cells #[.string ⟨#[38,38]⟩] 9)) hb)
 have L3:=Lib.hid hl
 have L0:=Lib.hid ((L0.out.below ((Below.refl _ _).alloc (Nat.le_refl _) (.cells #[.string ⟨#[38,38]⟩] 9))).below hb)
 have L1:=Lib.hid ((L1.out.below ((Below.refl _ _).alloc (Nat.le_refl _) (.cells #[.string ⟨#[38,38]⟩] 9))).below hb)
 have L2:=Lib.hid ((L2.out.below ((Below.refl _ _).alloc (Nat.le_refl _) (.cells #[.string ⟨#[38,38]⟩] 9))).below hb)
 obtain ⟨l3,hl3⟩:∃ l,lvN (w4.alloc (.cells #[.string ⟨#[38,38]⟩] 9)).heap.size (w4.heap.size)=l:=⟨_,rfl⟩
 rw [hl3] at L3 ⊢
 clear hl3 hl hb A3
 unfold lvF
 go_wp2_with fail
 have A4:(w5.alloc (.cells #[.string ⟨#[124,124]⟩] 9)).heap[w5.heap.size]?=some (.cells (sOr.map fun s=>Value.string (strOf s)).toArray 9 (0,0)):=heap_new' _ _ _ (by simp)
 have hsz4:w.heap.size<w5.heap.size:=lt_heap HP5.out
 refine (twosMake_any (.func 171) #[] #[at0 l3.bb,at0 l3.bm,at0 l3.bp,at0 l3.bs] 32768 (w5.heap.size) sOr A4 (q:=w.heap.size) (by simp; omega) (by omega)).mono ?_
 rintro e w6 ⟨rfl,hl,hb⟩
 have HB6:Hid (Below w.heap.size w w6):=Lib.hid ((HB5.out.alloc HB5.out.size _).trans (hb.mono (by have:=HB5.out.size; simp; omega)))
 have HP6:=Lib.hid (heap_below (heap_old HP5.out (.cells #[.string ⟨#[124,124]⟩] 9)) hb)
 have L4:=Lib.hid hl
 have L0:=Lib.hid ((L0.out.below ((Below.refl _ _).alloc (Nat.le_refl _) (.cells #[.string ⟨#[124,124]⟩] 9))).below hb)
 have L1:=Lib.hid ((L1.out.below ((Below.refl _ _).alloc (Nat.le_refl _) (.cells #[.string ⟨#[124,124]⟩] 9))).below hb)
 have L2:=Lib.hid ((L2.out.below ((Below.refl _ _).alloc (Nat.le_refl _) (.cells #[.string ⟨#[124,124]⟩] 9))).below hb)
 have L3:=Lib.hid ((L3.out.below ((Below.refl _ _).alloc (Nat.le_refl _) (.cells #[.string ⟨#[124,124]⟩] 9))).below hb)
 obtain ⟨l4,hl4⟩:∃ l,lvN (w5.alloc (.cells #[.string ⟨#[124,124]⟩] 9)).heap.size (w5.heap.size)=l:=⟨_,rfl⟩
 rw [hl4] at L4 ⊢
 clear hl4 hl hb A4
 unfold lvF
 have hlt:=lt_heap HP6.out
 have f10:=free_block HP6.out 10
 have c10:w6.cell? ⟨w.heap.size,10,none⟩=some .nilFunc:=cell_block HP6.out 10
 have HC:Hid (Cx w T ⟨l0,l1,l2,l3,l4⟩ w.heap.size (w6.setCell ⟨w.heap.size,10,none⟩ (.func (.func 171) #[] #[at0 l4.bb,at0 l4.bm,at0 l4.bp,at0 l4.bs])) pst0):=Lib.hid (by
   have hk:Kp w.heap.size w6 (w6.setCell ⟨w.heap.size,10,none⟩ (.func (.func 171) #[] #[at0 l4.bb,at0 l4.bm,at0 l4.bp,at0 l4.bs])):=(Kp.refl _ _).set rfl _
   refine ⟨HB6.out.trans (hk.below (Nat.le_refl _) HB6.out.size),Nat.le_refl _,?_,⟨L0.out.kp hk,L1.out.kp hk,L2.out.kp hk,L3.out.kp hk,L4.out.kp hk⟩,⟨by simp [pst0],by simp [pst0]⟩⟩
   have:=heap_set HP6.out 10 (.func (.func 171) #[] #[at0 l4.bb,at0 l4.bm,at0 l4.bp,at0 l4.bs])
   rw [this]
   rfl)
 have HS:=Lib.hid (step_any ht HC.out)
 have HBB:Hid (Below w.heap.size w (w6.setCell ⟨w.heap.size,10,none⟩ (.func (.func 171) #[] #[at0 l4.bb,at0 l4.bm,at0 l4.bp,at0 l4.bs]))):=Lib.hid (HB6.out.setCell (Nat.le_refl _) _)
 clear L0 L1 L2 L3 L4 HP1 HP2 HP3 HP4 HP5 HP6 HB1 HB2 HB3 HB4 HB5 HB6 ht
 unfold at0 at *
 go_wp2_with fail
 refine HS.out.mono ?_
 rintro e w7 ⟨rfl,hc,hk⟩
 have HC7:=Lib.hid hc
 have HB7:=Lib.hid (HBB.out.trans (hk.below (Nat.le_refl _) HBB.out.size))
 clear hc hk
 go_wp2_with fail
 go_ret
 exact ⟨_, _,rfl,HC7.out,HB7.out,rfl⟩
end
end Go.Proofs.YtcmopnkldplngabGreatDoor
namespace Go.Proofs.YtcmopnkldplngabGreatDoor
open Go.RowKit
set_option linter.unusedVariables false
def RightOk (w0:World):Prop:=∀ (g:Pg) (w:World) (S:Nat→Prop) (v:Value),g.fns.length+g.roles.length≤1000000→Below w0.heap.size w0 w→(∀ b,S b→b<w.heap.size)→Rd w S g.nd v→Calls Tryz.prog 60 #[v] w fun e w'=>e = .returned (.bool (rightP g))∧Below w.heap.size w w'
theorem progF_len (T:List Nat) (n:Nat):∀ (m:Nat) (g:Pg) (p:Pst) (r:Pg × Pst),progF T n m g p=some r→r.1.fns.length+r.1.roles.length≤g.fns.length+g.roles.length+m
 | 0,g,p,r,h=>by cases h
 | m + 1,g,p,r,h=>by
   rw [progF] at h
   split at h
   · cases h; dsimp only; omega
   · split at h
     · split at h
       · cases h
       · have:=progF_len T n m _ _ _ h
         simp at this
         omega
     · split at h
       · split at h
         · cases h
         · have:=progF_len T n m _ _ _ h
           simp at this
           omega
       · have:=progF_len T n m _ _ _ h
         omega
def OutP (w:World) (g:Pg) (er fl:Nat) (e:Ending) (w':World):Prop :=
 ∃ v,e = .returned (.tuple #[v,.agg #[.int .i64 (er:Int),.int .i64 (fl:Int)]])∧Rd w' (Nw w w') g.nd v∧Below w.heap.size w w'
def pgZ:Obj := .cells #[.slice none 0 0,.slice none 0 0] 25
def ftZ:Obj := .cells #[.int .i64 0,.int .i64 0] 36
theorem endP {w X:World} {g:Pg} {gP gF:Nat} {er fl:Nat} {y z:Value} {S:Nat→Prop} (hb:Below w.heap.size w X) (hP:w.heap.size≤gP) (hF:w.heap.size≤gF) (hx:Rd X S g.nd (.agg #[y,z])) (hS:∀ b,S b→b≠gP∧b≠gF∧Nw w X b) :
   OutP w g er fl (.returned (.tuple #[.agg #[y,z],.agg #[.int .i64 (er:Int),.int .i64 (fl:Int)]])) (P2 (P2 X gP y z) gF (.int .i64 (er:Int)) (.int .i64 (fl:Int))):=by
 have hsz:(P2 (P2 X gP y z) gF (.int .i64 (er:Int)) (.int .i64 (fl:Int))).heap.size=X.heap.size:=by unfold P2; simp
 refine ⟨_,rfl,Rd.keep (fun a ha=>?_) (fun b hb=>⟨(hS b hb).2.2.1,by rw [hsz]; exact (hS b hb).2.2.2⟩) _ _ hx,((((hb.setCell hP _).setCell hP _).setCell hF _).setCell hF _)⟩
 unfold P2
 rw [cell_ne (hS _ ha).2.1,cell_ne (hS _ ha).2.1,cell_ne (hS _ ha).1,cell_ne (hS _ ha).1]
theorem OutP.alloc {w X:World} {g:Pg} {er fl:Nat} {e:Ending} (h:OutP w g er fl e X) (o:Obj):OutP w g er fl e (X.alloc o):=by
 obtain ⟨v,h1,h2,h3⟩:=h
 exact ⟨v,h1,Rd.keep (fun a ha=>((Below.refl _ X).alloc (Nat.le_refl _) _).cell ha.2) (fun b hb=>⟨hb.1,by have:=hb.2; simp; omega⟩) _ _ h2,h3.alloc h3.size o⟩
theorem OutP.drew {w X:World} {g:Pg} {er fl:Nat} {e:Ending} (h:OutP w g er fl e X):OutP w g er fl e X.drew:=by
 obtain ⟨v,h1,h2,h3⟩:=h
 exact ⟨v,h1,Rd.keep (w:=X) (w':=X.drew) (S:=Nw w X) (S':=Nw w X.drew) (fun _ _ => rfl) (fun b hb=>hb) _ _ h2,h3.drew⟩
theorem pg_none (w:World) (S:Nat→Prop):Rd w S (Pg.nd ⟨[],[]⟩) (.agg #[.slice none 0 0,.slice none 0 0]):=(Pg.rd _ _).2 ⟨_, _,rfl,Rd.nil _,Rd.nil _⟩
theorem two_heap {X:World} {a b:Nat} {u0 u1 v0 v1:Value} {T1 T2:TypeId} (hP:X.heap[a]?=some (.cells #[u0,u1] T1 (0,0))) (hF:X.heap[b]?=some (.cells #[v0,v1] T2 (0,0))) (hn:a≠b) (y z e f:Value) :
   (P2 (P2 X a y z) b e f).heap[a]?=some (.cells #[y,z] T1 (0,0))∧(P2 (P2 X a y z) b e f).heap[b]?=some (.cells #[e,f] T2 (0,0)) :=
 ⟨ne2 (st2 hP _ _) hn _ _,st2 (ne2 hF (Ne.symm hn) _ _) _ _⟩
set_option maxRecDepth 100000 in
set_option maxHeartbeats 4000000 in
theorem parse_any (T:List Nat) (h8:∀ x∈T,x<256) (hn:T.length≤140737488355328) (w:World) (hw:Wt w) (HRi:RightOk w) (n:Nat) (hnn:n≤100000) (g:Pg) (er fl:Nat) (hp:parseF T n=some (g,er,fl)) :
   Calls Tryz.prog 58 #[.string (strOf T)] w (OutP w g er fl):=by
 have hB2:Below w.heap.size w ((w.alloc pgZ).alloc ftZ):=two w _ _
 have HNP:=Lib.hid (newParser_any T ((w.alloc pgZ).alloc ftZ) (txt_ok T h8 hn _ (hw.below hB2)))
 have HPR:=Lib.hid (fun (R:Ru) (w':World) (q:Nat) (r:Pg × Pst) (h':Cx ((w.alloc pgZ).alloc ftZ) T R q w' (pst0.step T)) (hr:progF T n n ⟨[],[]⟩ (pst0.step T)=some r)=>program_any (txt_ok T h8 hn _ (hw.below hB2)) n hnn w' (pst0.step T) r h' (by
   have:(pst0.step T).g=0:=step_g T pst0
   have h1:n*n≤100000*100000:=Nat.mul_le_mul hnn hnn
   unfold mostG
   omega) hr)
 have HB2:=Lib.hid hB2
 have HQP:=Lib.hid (heap_old (heap_new w pgZ) ftZ)
 have HQF:=Lib.hid (heap_new' (w.alloc pgZ) ftZ (w.heap.size+1) (by simp))
 have hs2:((w.alloc pgZ).alloc ftZ).heap.size=w.heap.size+2:=by simp
 unfold parseF at hp
 cases hr:readF T n with
 | none=>rw [hr] at hp; cases hp
 | some y =>
   obtain ⟨g1,p1⟩:=y
   rw [hr] at hp
   dsimp only at hp
   unfold readF at hr
   have HP:=Lib.hid (fun R w' q h'=>HPR.out R w' q (g1,p1) h' hr)
   have HPP:=Lib.hid hp
   have HRR:=Lib.hid (fun w' S' v' a b c=>HRi g1 w' S' v' (by have:=progF_len T n n _ _ _ hr; dsimp only [List.length_nil] at this; omega) a b c)
   have hmr:∀ (n:Nat),Rd w (fun _ => False) (Nd.row n []) (.slice none 0 0):=fun n=>Rd.nil n
   clear hw h8 hn hnn hp hr HPR hB2 HRi hmr
   unfold pgZ ftZ at *
   go_enter Tryz.func58,Tryz.ntmps58
   go_upto_region 3 with (first
     | (go_at_call 99
        refine HNP.out.mono ?_
        rintro e w3 ⟨R,q,rfl,hc3,hb3,hqq⟩
        rw [hs2] at hqq
        subst hqq
        have HC3:=Lib.hid hc3
        have HB3:=Lib.hid hb3
        unfold at0
        clear hc3 hb3)
     | (go_at_call 100
        refine (HP.out _ _ _ HC3.out).mono ?_
        rintro e w4 ⟨v4,rfl,hx4,hc4,hk4⟩
        obtain ⟨y1,y2,rfl,hy1,hy2⟩:=(Pg.rd g1 v4).1 hx4
        obtain ⟨A1,n1,c1,rfl⟩:=hy1.row_form
        obtain ⟨A2,n2,c2,rfl⟩:=hy2.row_form
        have HX4:=Lib.hid hx4
        have HC4:=Lib.hid hc4
        have HK4:=Lib.hid hk4
        have HB4:Hid (Below w.heap.size w w4):=Lib.hid (by
          have h1:Below w.heap.size w w3:=HB2.out.trans (HB3.out.mono (by simp; omega))
          exact h1.trans (hk4.below (by omega) h1.size))
        have HQP4:=Lib.hid (hk4.heap (heap_below HQP.out HB3.out) (by omega))
        have HQF4:=Lib.hid (hk4.heap (heap_below HQF.out HB3.out) (by omega))
        have HZ4:=Lib.hid (show w.heap.size+2<w3.heap.size from HC3.out.lt)
        have HZK:=Lib.hid hk4.size
        clear hx4 hc4 hk4 hy1 hy2)
     | (fail))
   obtain ⟨⟨-,-,-,-,-,-,-,d7,d8,-⟩,-⟩:=box11 HC4.out.hp
   have hlt4:=HC4.out.lt
   obtain ⟨⟨i0,i1⟩,f0,f1⟩:=bx2 HQP4.out
   obtain ⟨⟨j0,j1⟩,k0,k1⟩:=bx2 HQF4.out
   have hzP:=lt_heap HQP4.out
   have hzF:=lt_heap HQF4.out
   have HY:=Lib.hid (heap_new w4 (.cells #[.slice A1 n1 c1,.slice A2 n2 c2] 25))
   have hp:=HPP.out
   by_cases her:p1.er≠0
   · rw [if_pos her] at hp
     cases hp
     have t1:((p1.er:Int) != 0)=true:=bne_iff_ne.2 (by omega)
     clear her HPP HP HNP HRR HX4
     go_wp2_with fail
     go_region
     all_goals
       go_wp2_with fail
       have hh:=two_heap HQP4.out HQF4.out (by omega) (.slice none 0 0) (.slice none 0 0) (.int .i64 (p1.er:Int)) (.int .i64 (p1.fl:Int))
       unfold P2 at hh
       obtain ⟨⟨a0,a1⟩,-⟩:=bx2 (heap_old hh.1 (.cells #[.slice A1 n1 c1,.slice A2 n2 c2] 25))
       obtain ⟨⟨b0,b1⟩,-⟩:=bx2 (heap_old hh.2 (.cells #[.slice A1 n1 c1,.slice A2 n2 c2] 25))
       refine bodyPost_ret (v := .tuple #[.agg #[.slice none 0 0,.slice none 0 0],.agg #[.int .i64 (p1.er:Int),.int .i64 (p1.fl:Int)]]) (by simp [results,Tryz.results58,go_sem,a0,a1,b0,b1]) rfl ?_
       exact ((endP (gP:=w.heap.size) (gF:=w.heap.size+1) HB4.out (Nat.le_refl _) (by omega) (pg_none w4 (fun _ => False)) (fun b hb=>hb.elim)).alloc _).drew
   · rw [if_neg her] at hp
     have t1:((p1.er:Int) != 0)=false:=by rw [show p1.er=0 by omega]; rfl
     have HRI:=Lib.hid (HRR.out (w4.alloc (.cells #[.slice A1 n1 c1,.slice A2 n2 c2] 25)) (Nw w3 w4) _ (HB4.out.alloc HB4.out.size _) (fun b hb=>by have:=hb.2; simp; omega) (Rd.keep (fun a ha=>((Below.refl _ w4).alloc (Nat.le_refl _) _).cell ha.2) (fun _ h=>h) _ _ HX4.out))
     clear her HPP HP HNP HRR
     cases hrt:rightP g1 with
     | false =>
       rw [hrt] at HRI hp
       rw [if_neg (by decide)] at hp
       cases hp
       go_wp2_with (first
         | (go_at_call 60
            refine HRI.out.mono ?_
            rintro e w6 ⟨rfl,hb6⟩
            have HB6:=Lib.hid ((HB4.out.alloc HB4.out.size _).trans (hb6.mono (by have:=HB4.out.size; simp; omega)))
            have HQP6:=Lib.hid (heap_below (heap_old HQP4.out _) hb6)
            have HQF6:=Lib.hid (heap_below (heap_old HQF4.out _) hb6)
            obtain ⟨⟨u0,u1⟩,v0,v1⟩:=bx2 HQP6.out
            obtain ⟨⟨x0,x1⟩,y0,y1⟩:=bx2 HQF6.out
            have hz1:=lt_heap HQP6.out
            have hz2:=lt_heap HQF6.out
            clear hb6)
         | (fail))
       have hh:=two_heap HQP6.out HQF6.out (by omega) (.slice none 0 0) (.slice none 0 0) (.int .i64 102) (.int .i64 0)
       unfold P2 at hh
       obtain ⟨⟨a0,a1⟩,-⟩:=bx2 hh.1
       obtain ⟨⟨b0,b1⟩,-⟩:=bx2 hh.2
       refine bodyPost_ret (v := .tuple #[.agg #[.slice none 0 0,.slice none 0 0],.agg #[.int .i64 102,.int .i64 0]]) (by simp [results,Tryz.results58,go_sem,a0,a1,b0,b1]) rfl ?_
       exact endP (gP:=w.heap.size) (gF:=w.heap.size+1) HB6.out (Nat.le_refl _) (by omega) (pg_none w6 (fun _ => False)) (fun b hb=>hb.elim)
     | true =>
       rw [hrt] at HRI hp
       rw [if_pos rfl] at hp
       cases hp
       go_wp2_with (first
         | (go_at_call 60
            refine HRI.out.mono ?_
            rintro e w6 ⟨rfl,hb6⟩
            have HB6:=Lib.hid ((HB4.out.alloc HB4.out.size _).trans (hb6.mono (by have:=HB4.out.size; simp; omega)))
            have HQP6:=Lib.hid (heap_below (heap_old HQP4.out _) hb6)
            have HQF6:=Lib.hid (heap_below (heap_old HQF4.out _) hb6)
            obtain ⟨⟨u0,u1⟩,v0,v1⟩:=bx2 HQP6.out
            obtain ⟨⟨x0,x1⟩,y0,y1⟩:=bx2 HQF6.out
            obtain ⟨⟨r0,r1⟩,-⟩:=bx2 (heap_below HY.out hb6)
            have hz1:=lt_heap HQP6.out
            have hz2:=lt_heap HQF6.out
            have HX6:Hid (Rd w6 (Nw w3 w4) _ (.agg #[.slice A1 n1 c1,.slice A2 n2 c2])):=Lib.hid (Rd.keep (fun a ha=>(hb6.cell (p:=a) (by have:=ha.2; simp; omega)).trans (((Below.refl _ w4).alloc (Nat.le_refl _) _).cell ha.2)) (fun _ h=>h) _ _ HX4.out)
            have HS6:Hid (w4.heap.size≤w6.heap.size):=Lib.hid (by have:=hb6.size; simp at this; omega)
            clear hb6)
         | (fail))
       have hh:=two_heap HQP6.out HQF6.out (by omega) (.slice A1 n1 c1) (.slice A2 n2 c2) (.int .i64 0) (.int .i64 0)
       unfold P2 at hh
       obtain ⟨⟨a0,a1⟩,-⟩:=bx2 hh.1
       obtain ⟨⟨b0,b1⟩,-⟩:=bx2 hh.2
       refine bodyPost_ret (v := .tuple #[.agg #[.slice A1 n1 c1,.slice A2 n2 c2],.agg #[.int .i64 0,.int .i64 0]]) (by simp [results,Tryz.results58,go_sem,a0,a1,b0,b1]) rfl ?_
       exact endP (gP:=w.heap.size) (gF:=w.heap.size+1) HB6.out (Nat.le_refl _) (by omega) HX6.out (fun b hb=>by
         have h1:=hb.1
         have h2:=hb.2
         have h3:=HZ4.out
         have h4:=HS6.out
         exact ⟨by omega,by omega,by omega,by omega⟩)
end Go.Proofs.YtcmopnkldplngabGreatDoor
