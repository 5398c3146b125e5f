/- Texts Kp,Cells of this seat in one: see each part. -/
import Derived.OneCell
import Derived.Test.YtcmopnkldplngabGreatDoorOwn
namespace Go.Proofs.YtcmopnkldplngabGreatDoor
open Go.RowKit
def Kp (b:Nat) (w w':World):Prop:=w.grownBy w' (some b)
section
variable {b B:Nat} {a w w':World}
theorem Kp.refl (b:Nat) (w:World):Kp b w w:=World.grownBy.refl w _
theorem Kp.trans (h:Kp b a w) (k:Kp b w w'):Kp b a w' :=
 ⟨k.os.trans h.os,k.tape.trans h.tape,k.output.trans h.output,Nat.le_trans h.size k.size,fun i hi hb=>(k.block i (Nat.lt_of_lt_of_le hi h.size) hb).trans (h.block i hi hb)⟩
theorem Kp.of_below (h:Below w.heap.size w w'):Kp b w w':=⟨h.os,h.tape,h.output,h.size,fun k hk _ => h.block k hk⟩
theorem Kp.alloc (h:Kp b a w) (o:Obj):Kp b a (w.alloc o):=h.trans (Kp.of_below ((Below.refl _ _).alloc (Nat.le_refl _) o))
theorem Kp.drew (h:Kp b a w):Kp b a w.drew:=⟨h.os,h.tape,h.output,h.size,h.block⟩
theorem Kp.set (h:Kp b a w) {p:Addr} (hp:p.block=b) (v:Value):Kp b a (w.setCell p v) :=
 h.trans ⟨rfl,rfl,rfl,by simp [World.setCell],fun k _ hk=>Below.heap_setCell _ _ _ _ (fun e=>hk (by rw [e,hp]))⟩
theorem Kp.setNew (h:Kp b a w) {p:Addr} (hp:a.heap.size≤p.block) (v:Value):Kp b a (w.setCell p v) :=
 ⟨h.os,h.tape,h.output,by have:=h.size; simp [World.setCell]; exact this,fun k hk hb=>(Below.heap_setCell _ _ _ _ (by omega)).trans (h.block k hk hb)⟩
theorem Kp.below (h:Kp b a w) (hb:B≤b) (hs:B≤a.heap.size):Below B a w :=
 ⟨h.os,h.tape,h.output,h.size,fun k hk=>h.block k (by omega) (fun e=>by have:=Option.some.inj e; omega)⟩
theorem Kp.heap (h:Kp b a w) {k:Nat} {o:Obj} (hk:a.heap[k]?=some o) (hb:k≠b):w.heap[k]?=some o :=
 (h.block k (Array.getElem?_eq_some_iff.1 hk).1 (fun e=>hb (Option.some.inj e))).trans hk
theorem Kp.cell (h:Kp b a w) {p:Addr} {v:Value} (hk:a.cell? p=some v) (hb:p.block≠b):w.cell? p=some v:=World.grownBy.cell h hk (fun e=>hb (Option.some.inj e))
end
theorem heap_new (w:World) (o:Obj):(w.alloc o).heap[w.heap.size]?=some o:=heap_alloc_new w o
theorem heap_old {w:World} {k:Nat} {x:Obj} (h:w.heap[k]?=some x) (o:Obj):(w.alloc o).heap[k]?=some x :=
 (Below.heap_alloc w o k (Array.getElem?_eq_some_iff.1 h).1).trans h
theorem lt_heap {w:World} {k:Nat} {x:Obj} (h:w.heap[k]?=some x):k<w.heap.size:=(Array.getElem?_eq_some_iff.1 h).1
theorem heap_below {w w':World} {k:Nat} {x:Obj} (h:w.heap[k]?=some x) (hb:Below w.heap.size w w'):w'.heap[k]?=some x:=(hb.block k (lt_heap h)).trans h
theorem heap_new' (w:World) (o:Obj) (g:Nat) (h:g=w.heap.size):(w.alloc o).heap[g]?=some o:=by
 subst h
 exact heap_new w o
theorem Kp.all {b:Nat} {w w0 w':World} (h0:Below w.heap.size w w0) (h:Kp b w0 w') (hb:w.heap.size≤b):Below w.heap.size w w':=h0.trans (h.below hb h0.size)
theorem two (w:World) (o o':Obj):Below w.heap.size w ((w.alloc o).alloc o'):=((Below.refl _ _).alloc (Nat.le_refl _) o).alloc (by simp) o'
end Go.Proofs.YtcmopnkldplngabGreatDoor
namespace Go.Proofs.YtcmopnkldplngabGreatDoor
open Go.RowKit
section
variable {w:World} {g k i j:Nat} {c:Array Value} {T:TypeId} {fr:Nat × Nat} {v:Value} {o:Obj}
theorem cell_block (h:w.heap[g]?=some (.cells c T fr)) (j:Nat):w.cell? ⟨g,j,none⟩=c[j]?:=by
 unfold World.cell?
 dsimp only
 rw [h]
 rfl
theorem free_block (h:w.heap[g]?=some (.cells c T (0,0))) (j:Nat):w.frozen? ⟨g,j,none⟩=false:=by
 unfold World.frozen?
 dsimp only
 rw [h]
 simp
theorem heap_set (h:w.heap[g]?=some (.cells c T fr)) (i:Nat) (v:Value):(w.setCell ⟨g,i,none⟩ v).heap[g]?=some (.cells (c.setIfInBounds i v) T fr):=by
 unfold World.setCell
 dsimp only
 rw [Array.getElem?_modify,if_pos rfl,h]
 rfl
theorem heap_set_ne (h:w.heap[k]?=some o) (hk:k≠g) (i:Nat) (v:Value):(w.setCell ⟨g,i,none⟩ v).heap[k]?=some o:=by
 unfold World.setCell
 dsimp only
 rw [Array.getElem?_modify,if_neg (by omega),h]
theorem box4f {g:Nat} {y0 y1 y2 y3:Value} {T:TypeId} (h:w.heap[g]?=some (.cells #[y0,y1,y2,y3] T (0,0))) :
   (w.cell? ⟨g,0,none⟩=some y0∧w.cell? ⟨g,1,none⟩=some y1∧w.cell? ⟨g,2,none⟩=some y2∧w.cell? ⟨g,3,none⟩=some y3) ∧
   (w.frozen? ⟨g,0,none⟩=false∧w.frozen? ⟨g,1,none⟩=false∧w.frozen? ⟨g,2,none⟩=false∧w.frozen? ⟨g,3,none⟩=false) :=
 ⟨⟨cell_block h 0,cell_block h 1,cell_block h 2,cell_block h 3⟩,free_block h 0,free_block h 1,free_block h 2,free_block h 3⟩
theorem set4 {y0 y1 y2 y3:Value} (h:w.heap[g]?=some (.cells #[y0,y1,y2,y3] T fr)) (z0 z1 z2 z3:Value) :
   ((((w.setCell ⟨g,0,none⟩ z0).setCell ⟨g,1,none⟩ z1).setCell ⟨g,2,none⟩ z2).setCell ⟨g,3,none⟩ z3).heap[g]?=some (.cells #[z0,z1,z2,z3] T fr) :=
 heap_set (heap_set (heap_set (heap_set h 0 z0) 1 z1) 2 z2) 3 z3
end
end Go.Proofs.YtcmopnkldplngabGreatDoor
