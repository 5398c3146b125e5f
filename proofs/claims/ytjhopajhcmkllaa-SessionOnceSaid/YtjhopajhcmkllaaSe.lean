/- drover/session.New: the walk. -/
import Derived.Test.YtjhopajhcmkllaaSd
namespace Go.Proofs.Ytjhopajhcmkllaa
open Go.RowKit
set_option linter.unusedVariables false

theorem SeAt.begin {W : World} {base g : Nat} {p : Se} {v : Value} {L : List It} (ho : W.ownsRow base 27 2 v L.length (iCs L)) (hg : base ≤ g)
    (hh : W.heap[g]? = some (.cells #[.pointer (some ⟨g, 0, none⟩), .int .i64 (p.node : Int), .int .i64 (p.peer : Int), .int .i64 (p.life : Int), .int .i64 (p.last : Int), v, .int .i64 (p.done : Int), .int .i64 (p.acc : Int), .int .i64 (p.pl : Int)] 77 (0, 0))) (hi : Its W p.first p.ds L) (hok : p.Ok) :
    SeAt W base g v.ownBlock p := ⟨v, L, rfl, hg, ho, hh, hi, hok⟩
/-- What New asks. -/
def RightN (self peer life last done : Int) (L : List It) : Prop := (0 ≤ self ∧ self < 16) ∧ (0 ≤ peer ∧ peer < 16) ∧ (1 ≤ life ∧ life ≤ 2305843009213693952) ∧ RightL last done L
def seNew (self peer life last done : Int) (L : List It) : Se := ⟨self.toNat, peer.toNat, life.toNat, last.toNat, done.toNat, done.toNat, 0, L.map (·.d)⟩
def NewsP (self peer life last done : Int) (L : List It) (w : World) (e : Ending) (w' : World) : Prop := Below w.heap.size w w' ∧
  ((¬ RightN self peer life last done L ∧ e = .returned (.tuple #[.pointer none, .int .i64 2])) ∨
   (RightN self peer life last done L ∧ ∃ g r, e = .returned (.tuple #[.pointer (some ⟨g, 0, none⟩), .int .i64 0]) ∧ SeAt w' w.heap.size g r (seNew self peer life last done L)))
theorem seNew_ok {self peer life last done : Int} {L : List It} (h : RightN self peer life last done L) : (seNew self peer life last done L).Ok := by
  obtain ⟨h1, h2, h3, h4, h5, h6, h7, h8⟩ := h
  have h4' := nuB_iff.1 h4
  have h5' := nuB_iff.1 h5
  refine ⟨by show self.toNat < 16; omega, by show peer.toNat < 16; omega, ⟨by show 1 ≤ life.toNat; omega, by show life.toNat ≤ _; omega⟩, ⟨?_, by show last.toNat ≤ _; omega⟩, Nat.le_refl _, by show done.toNat ≤ _; omega, Nat.zero_le _, ?_, ?_⟩
  · show (L.map (·.d)).length ≤ last.toNat
    rw [List.length_map]
    omega
  · show (L.map (·.d)).length ≤ 1024
    rw [List.length_map]
    exact h6
  · intro d hd
    obtain ⟨x, hx, rfl⟩ := List.mem_map.1 hd
    obtain ⟨i, hi⟩ := List.getElem?_of_mem hx
    exact (h8 i x hi).2
theorem seNew_its {w : World} {self peer life last done : Int} {L L' : List It} (h : RightN self peer life last done L) (he : L'.map It.p = L.map It.p) (hb : ∀ x ∈ L', Bx w 0 (.slice x.A x.d.length x.c) x.d) : Its w (seNew self peer life last done L).first (seNew self peer life last done L).ds L' := by
  obtain ⟨h1, h2, h3, h4, h5, h6, h7, h8⟩ := h
  have h4' := nuB_iff.1 h4
  have hd : L'.map (·.d) = L.map (·.d) := by
    have := congrArg (List.map Prod.snd) he
    simpa [List.map_map, It.p, Function.comp_def] using this
  refine ⟨hd, fun i x hx => ?_, hb⟩
  have h9 := congrArg (fun l => l[i]?) he
  simp only [List.getElem?_map, hx, Option.map_some] at h9
  cases hy : L[i]? with
  | none => rw [hy] at h9; simp at h9
  | some y =>
    rw [hy] at h9
    simp [It.p] at h9
    rw [h9.1, (h8 i y hy).1]
    have : (seNew self peer life last done L).first = last.toNat - L.length := by
      unfold Se.first seNew
      simp
    rw [this]
    omega
theorem LAt.drew {w : World} {A : Option Addr} {L : List It} (h : LAt w A L) : LAt w.drew A L := h
theorem of_drew6' {w w' : World} (h : Below w.drew.heap.size w.drew w') : Below w.heap.size w w' := ⟨h.os, h.tape, h.output, h.size, h.block⟩
theorem ndB_iff {k : Int} : ndB k = true ↔ 0 ≤ k ∧ k < 16 := by simp [ndB]
set_option maxRecDepth 100000 in
set_option maxHeartbeats 3200000 in
theorem news_any (self peer life last done : Int) (A : Option Addr) (n c : Nat) (L : List It) (w : World) (hl : L.length = n) (hc : n ≤ c) (hn : n ≤ 100000) (hlast : -9223372036854775808 ≤ last ∧ last ≤ 9223372036854775807) (hd : ∀ x ∈ L, x.d.length ≤ 1099511627776)
    (hs : ∀ x ∈ L, -9223372036854775808 ≤ x.s ∧ x.s ≤ 9223372036854775807) (ha : LAt w A L) (hbs : ∀ x ∈ L, Bs w (.slice x.A x.d.length x.c) x.d) :
    Calls Try.prog 5 #[.int .i64 self, .int .i64 peer, .int .i64 life, .agg #[.int .i64 last, .slice A n c, .int .i64 done]] w fun e w' => NewsP self peer life last done L w e w' := by
  have hW0 := (Below.refl w.heap.size w).alloc (Nat.le_refl _) (.cells #[.int .i64 last, .slice A n c, .int .i64 done] 24)
  have q0 := heap_new w (.cells #[.int .i64 last, .slice A n c, .int .i64 done] 24)
  obtain ⟨W, hW⟩ : ∃ W, W = w.alloc (.cells #[.int .i64 last, .slice A n c, .int .i64 done] 24) := ⟨_, rfl⟩
  rw [← hW] at hW0 q0
  have HW := Lib.hid hW
  have HI := Lib.hid (isnode_any self W)
  have HJ := Lib.hid (isnode_any peer W)
  have HA := Lib.hid (ha.below hW0)
  have HB : Hid (∀ x ∈ L, Bs W (.slice x.A x.d.length x.c) x.d) := Lib.hid fun x hx => (hbs x hx).below hW0
  have HR := Lib.hid (right7_any last done A n c L W hl hn hlast hd hs HA.out)
  have HL := Lib.hid hl
  have HD := Lib.hid hd
  have Q0 := Lib.hid q0
  have hsz := hW0.size
  obtain ⟨⟨c0, c1, c2⟩, -⟩ := box3 q0
  clear hW ha hbs hd hs hl q0
  cases hb1 : ndB self with
  | false =>
    rw [hb1] at HI
    have HN : Hid (¬ RightN self peer life last done L) := Lib.hid (fun h => by rw [ndB_iff.2 h.1] at hb1; cases hb1)
    clear hb1
    go_enter Try.func5, Try.ntmps5
    go_wp2_with fail
    rw [← HW.out]
    refine HI.out.mono ?_
    rintro e w1 ⟨rfl, rfl⟩
    go_wp2_with fail
    go_ret2
    exact ⟨hW0, .inl ⟨HN.out, rfl⟩⟩
  | true =>
  rw [hb1] at HI
  cases hb2 : ndB peer with
  | false =>
    rw [hb2] at HJ
    have HN : Hid (¬ RightN self peer life last done L) := Lib.hid (fun h => by rw [ndB_iff.2 h.2.1] at hb2; cases hb2)
    clear hb1 hb2
    go_enter Try.func5, Try.ntmps5
    go_wp2_with fail
    rw [← HW.out]
    refine HI.out.mono ?_
    rintro e w1 ⟨rfl, rfl⟩
    go_wp2_with fail
    refine HJ.out.mono ?_
    rintro e w1 ⟨rfl, rfl⟩
    go_wp2_with fail
    go_ret2
    exact ⟨hW0, .inl ⟨HN.out, rfl⟩⟩
  | true =>
  rw [hb2] at HJ
  by_cases h1 : life < 1
  · have d1 : decide (life < 1) = true := decide_eq_true h1
    have HN : Hid (¬ RightN self peer life last done L) := Lib.hid (fun h => by have := h.2.2.1; omega)
    clear hb1 hb2 h1
    go_enter Try.func5, Try.ntmps5
    go_wp2_with fail
    rw [← HW.out]
    refine HI.out.mono ?_
    rintro e w1 ⟨rfl, rfl⟩
    go_wp2_with fail
    refine HJ.out.mono ?_
    rintro e w1 ⟨rfl, rfl⟩
    go_wp2_with fail
    go_ret2
    exact ⟨hW0, .inl ⟨HN.out, rfl⟩⟩
  have d1 : decide (life < 1) = false := decide_eq_false h1
  by_cases h2 : life > 2305843009213693952
  · have d2 : decide (life > 2305843009213693952) = true := decide_eq_true h2
    have d3 : decide (2305843009213693952 < life) = true := decide_eq_true h2
    have HN : Hid (¬ RightN self peer life last done L) := Lib.hid (fun h => by have := h.2.2.1; omega)
    clear hb1 hb2 h1 h2
    go_enter Try.func5, Try.ntmps5
    go_wp2_with fail
    rw [← HW.out]
    refine HI.out.mono ?_
    rintro e w1 ⟨rfl, rfl⟩
    go_wp2_with fail
    refine HJ.out.mono ?_
    rintro e w1 ⟨rfl, rfl⟩
    go_wp2_with fail
    go_ret2
    exact ⟨hW0, .inl ⟨HN.out, rfl⟩⟩
  have d2 : decide (life > 2305843009213693952) = false := decide_eq_false h2
  have d3 : decide (2305843009213693952 < life) = false := decide_eq_false h2
  have HN : Hid (RightL last done L ↔ RightN self peer life last done L) := Lib.hid ⟨fun h => ⟨ndB_iff.1 hb1, ndB_iff.1 hb2, ⟨by omega, by omega⟩, h⟩, fun h => h.2.2.2⟩
  clear hb1 hb2
  go_enter Try.func5, Try.ntmps5
  go_wp2_with fail
  rw [← HW.out]
  refine HI.out.mono ?_
  rintro e w1 ⟨rfl, rfl⟩
  go_wp2_with fail
  refine HJ.out.mono ?_
  rintro e w1 ⟨rfl, rfl⟩
  go_wp2_with fail
  refine HR.out.mono ?_
  rintro e w1 ⟨b, rfl, hb, hb1⟩
  have HBB := Lib.hid hb
  clear hb HI HJ HR d1 d2 d3
  cases b with
  | false =>
    go_wp2_with fail
    go_ret2
    exact ⟨nxt hW0 hb1, .inl ⟨fun h => by simpa using HBB.out.2 (HN.out.2 h), rfl⟩⟩
  | true =>
    have HNN : Hid (RightN self peer life last done L) := Lib.hid (HN.out.1 (HBB.out.1 rfl))
    have q1 := heap_below Q0.out hb1
    obtain ⟨⟨d0, d1, d2⟩, -⟩ := box3 q1
    have HA1 := Lib.hid (HA.out.below hb1).drew
    have HB1 : Hid (∀ x ∈ L, Bs w1 (.slice x.A x.d.length x.c) x.d) := Lib.hid fun x hx => (HB.out x hx).below hb1
    clear c0 c1 c2
    go_wp2_with fail
    go_region_held3 (fun w' => w'.cell? ⟨w.heap.size, 0, none⟩ = some (.int .i64 last) ∧ w'.cell? ⟨w.heap.size, 1, none⟩ = some (.slice A n c) ∧ w'.cell? ⟨w.heap.size, 2, none⟩ = some (.int .i64 done)) (go_keep)
      (first
        | (go_at_call 38
           refine (own7_any last done A n c L _ HL.out hc hn HD.out HA1.out (fun x hx => (HB1.out x hx).drew)).mono ?_
           rintro e w2 ⟨A2, c2, L2, rfl, ho2, he2, hf2, hb2⟩
           have hb2' : Below w1.heap.size w1 w2 := of_drew6' hb2
           obtain ⟨⟨f0, f1, f2⟩, -⟩ := box3 (heap_below q1 hb2')
           have HO2 := Lib.hid ho2
           have HE2 := Lib.hid he2
           clear ho2 he2)
        | (fail))
    have hsz1 := hb1.size
    have hsz2 := hb2'.size
    have hk : Below w.heap.size w w2 := nxt (nxt hW0 hb1) hb2'
    have hlt : w.heap.size < w2.heap.size := lt_heap (heap_below q1 hb2')
    have q4 := heap_new w2 (.cells #[.pointer none, .int .i64 self, .int .i64 peer, .int .i64 life, .int .i64 last, .slice A2 L.length c2, .int .i64 done, .int .i64 done, .int .i64 0] 77)
    have c0 := cell_block q4 0
    have f0 := free_block q4 0
    have Q4 := Lib.hid q4
    clear q4 d0 d1 d2 c0 f0 f1 f2 q1
    go_wp2_with fail
    go_ret2
    have hN := HNN.out
    obtain ⟨h1, h2, h3, h4, h5, -⟩ := HNN.out
    have h4' := nuB_iff.1 h4
    have h5' := nuB_iff.1 h5
    have e1 : ((self.toNat : Nat) : Int) = self := by omega
    have e2 : ((peer.toNat : Nat) : Int) = peer := by omega
    have e3 : ((life.toNat : Nat) : Int) = life := by omega
    have e4 : ((last.toNat : Nat) : Int) = last := by omega
    have e5 : ((done.toNat : Nat) : Int) = done := by omega
    have Q5 := heap_new w2 (.cells #[.pointer (some ⟨w2.heap.size, 0, none⟩), .int .i64 self, .int .i64 peer, .int .i64 life, .int .i64 last, .slice A2 L.length c2, .int .i64 done, .int .i64 done, .int .i64 0] 77)
    have hb9 := hk.alloc (Nat.le_of_lt hlt) (.cells #[.pointer (some ⟨w2.heap.size, 0, none⟩), .int .i64 self, .int .i64 peer, .int .i64 life, .int .i64 last, .slice A2 L.length c2, .int .i64 done, .int .i64 done, .int .i64 0] 77)
    refine ⟨hb9, .inr ⟨hN, w2.heap.size, _, rfl, SeAt.begin (v := .slice A2 L.length c2) (L := L2) ?_ (Nat.le_of_lt hlt) ?_ (seNew_its hN HE2.out (fun x hx => Bx.below (hf2.bx x hx) ((Below.refl _ _).alloc (Nat.le_refl _) _))) (seNew_ok hN)⟩⟩
    · exact irow_mono (World.ownsRow.alloc HO2.out _) (by show w.heap.size ≤ w1.heap.size; omega)
    · show (_ : Option Obj) = some (.cells #[.pointer (some ⟨w2.heap.size, 0, none⟩), .int .i64 ((self.toNat : Nat) : Int), .int .i64 ((peer.toNat : Nat) : Int), .int .i64 ((life.toNat : Nat) : Int), .int .i64 ((last.toNat : Nat) : Int), .slice A2 L.length c2, .int .i64 ((done.toNat : Nat) : Int), .int .i64 ((done.toNat : Nat) : Int), .int .i64 ((0 : Nat) : Int)] _ _)
      rw [e1, e2, e3, e4, e5]
      exact Q5
end Go.Proofs.Ytjhopajhcmkllaa
