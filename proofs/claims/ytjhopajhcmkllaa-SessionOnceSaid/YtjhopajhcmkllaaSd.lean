/- drover/session.right, Link: the walks. -/
import Derived.Test.YtjhopajhcmkllaaSc
import Derived.Deep.RegionHeld3
namespace Go.Proofs.Ytjhopajhcmkllaa
open Go.RowKit
set_option linter.unusedVariables false

/-- A right link. -/
def RightL (last done : Int) (L : List It) : Prop := nuB last = true ∧ nuB done = true ∧ L.length ≤ 1024 ∧ (L.length : Int) ≤ last ∧ ∀ (i : Nat) (x : It), L[i]? = some x → x.s = last - L.length + 1 + i ∧ x.d.length ≤ 1048576
def RightP (last done : Int) (L : List It) (w : World) (e : Ending) (w' : World) : Prop := ∃ b : Bool, e = .returned (.bool b) ∧ (b = true ↔ RightL last done L) ∧ Below w.heap.size w w'
theorem nuB_iff {k : Int} : nuB k = true ↔ 0 ≤ k ∧ k ≤ 2305843009213693952 := by simp [nuB]
set_option maxRecDepth 100000 in
set_option maxHeartbeats 1600000 in
theorem right7_any (last done : Int) (A : Option Addr) (n c : Nat) (L : List It) (w : World) (hl : L.length = n) (hn : n ≤ 100000) (hlast : -9223372036854775808 ≤ last ∧ last ≤ 9223372036854775807) (hd : ∀ x ∈ L, x.d.length ≤ 1099511627776) (hs : ∀ x ∈ L, -9223372036854775808 ≤ x.s ∧ x.s ≤ 9223372036854775807) (ha : LAt w A L) :
    Calls Try.prog 37 #[.agg #[.int .i64 last, .slice A n c, .int .i64 done]] w fun e w' => RightP last done L w e w' := by
  have hW0 := (Below.refl w.heap.size w).alloc (Nat.le_refl _) (.cells #[.int .i64 last, .slice A n c, .int .i64 done] 24)
  have q0 := heap_new w (.cells #[.int .i64 last, .slice A n c, .int .i64 done] 24)
  obtain ⟨W, hW⟩ : ∃ W, W = w.alloc (.cells #[.int .i64 last, .slice A n c, .int .i64 done] 24) := ⟨_, rfl⟩
  rw [← hW] at hW0 q0
  have HL := Lib.hid hl
  have HD := Lib.hid hd
  have HS := Lib.hid hs
  have HA := Lib.hid (ha.below hW0)
  have HW := Lib.hid hW
  have HI := Lib.hid (isnum_any last W)
  have HJ := Lib.hid (isnum_any done W)
  clear hl hd ha hs hW
  obtain ⟨⟨c0, c1, c2⟩, -⟩ := box3 q0
  cases hb1 : nuB last with
  | false =>
    rw [hb1] at HI
    have HN : Hid (¬ RightL last done L) := Lib.hid (fun h => by rw [h.1] at hb1; cases hb1)
    clear hb1 q0
    go_enter Try.func37, Try.ntmps37
    go_wp2_with fail
    rw [← HW.out]
    refine HI.out.mono ?_
    rintro e w1 ⟨rfl, rfl⟩
    go_wp2_with fail
    go_ret
    exact ⟨false, rfl, by simpa using HN.out, hW0⟩
  | true =>
  rw [hb1] at HI
  cases hb2 : nuB done with
  | false =>
    rw [hb2] at HJ
    have HN : Hid (¬ RightL last done L) := Lib.hid (fun h => by rw [h.2.1] at hb2; cases hb2)
    clear hb1 hb2 q0
    go_enter Try.func37, Try.ntmps37
    go_wp2_with fail
    rw [← HW.out]
    refine HI.out.mono ?_
    rintro e w1 ⟨rfl, rfl⟩
    go_wp2_with fail
    refine HJ.out.mono ?_
    rintro e w1 ⟨rfl, rfl⟩
    go_wp2_with fail
    go_ret
    exact ⟨false, rfl, by simpa using HN.out, hW0⟩
  | true =>
  rw [hb2] at HJ
  by_cases h3 : 1024 < n
  · have d1 : decide ((n : Int) > 1024) = true := decide_eq_true (by omega)
    have d2 : decide (1024 < n) = true := decide_eq_true (by omega)
    have HN : Hid (¬ RightL last done L) := Lib.hid (fun h => by have := h.2.2.1; have := HL.out; omega)
    clear hb1 hb2 q0 h3
    go_enter Try.func37, Try.ntmps37
    go_wp2_with fail
    rw [← HW.out]
    refine HI.out.mono ?_
    rintro e w1 ⟨rfl, rfl⟩
    go_wp2_with fail
    refine HJ.out.mono ?_
    rintro e w1 ⟨rfl, rfl⟩
    go_wp2_with fail
    go_ret
    exact ⟨false, rfl, by simpa using HN.out, hW0⟩
  have d1 : decide ((n : Int) > 1024) = false := decide_eq_false (by omega)
  have d2 : decide (1024 < n) = false := decide_eq_false (by omega)
  obtain ⟨l0, l1⟩ := nuB_iff.1 hb1
  by_cases h4 : last < (n : Int)
  · have d3 : decide (last - (n : Int) + 1 < 1) = true := decide_eq_true (by omega)
    have HN : Hid (¬ RightL last done L) := Lib.hid (fun h => by have := h.2.2.2.1; have := HL.out; omega)
    have hn' : n ≤ 1024 := by omega
    clear hb1 hb2 q0 h3
    go_enter Try.func37, Try.ntmps37
    go_wp2_with fail
    rw [← HW.out]
    refine HI.out.mono ?_
    rintro e w1 ⟨rfl, rfl⟩
    go_wp2_with fail
    refine HJ.out.mono ?_
    rintro e w1 ⟨rfl, rfl⟩
    go_wp2_with fail
    go_ret
    exact ⟨false, rfl, by simpa using HN.out, hW0⟩
  have d3 : decide (last - (n : Int) + 1 < 1) = false := decide_eq_false (by omega)
  have hn' : n ≤ 1024 := by omega
  have HR : Hid ((∀ (i : Nat) (x : It), L[i]? = some x → x.s = last - n + 1 + i ∧ x.d.length ≤ 1048576) ↔ RightL last done L) := Lib.hid ⟨fun h => ⟨hb1, hb2, by have := HL.out; omega, by have := HL.out; omega, by rw [HL.out]; exact h⟩, fun h => by have := h.2.2.2.2; rwa [HL.out] at this⟩
  have hlast0 : 0 ≤ last := l0
  have hlast1 : last ≤ 2305843009213693952 := l1
  clear hb1 hb2 q0 h3
  go_enter Try.func37, Try.ntmps37
  go_wp2_with fail
  rw [← HW.out]
  refine HI.out.mono ?_
  rintro e w1 ⟨rfl, rfl⟩
  go_wp2_with fail
  refine HJ.out.mono ?_
  rintro e w1 ⟨rfl, rfl⟩
  go_wp2_with fail
  clear c0 c1 c2 d1 d2 d3
  go_loopw [34] (fun i wr => ∃ j : Nat, j ≤ n ∧ i = .int .i64 (j : Int) ∧ Hid (∀ (t : Nat) (x : It), t < j → L[t]? = some x → x.s = last - n + 1 + t ∧ x.d.length ≤ 1048576) ∧ Below W.heap.size W wr) (fun i _ => n - (intOf i).toNat)
  case atStart => exact ⟨0, by omega, rfl, Lib.hid (fun t x ht => by omega), Below.refl _ _⟩
  case round =>
    obtain ⟨j, hj, rfl, HP, hbr⟩ := hrel
    by_cases hlt : j < n
    · have hjl : j < L.length := by have := HL.out; omega
      obtain ⟨x, hx⟩ : ∃ x, Hid (L[j]? = some x) := ⟨L[j], Lib.hid (List.getElem?_eq_getElem hjl)⟩
      have hxm : x ∈ L := List.mem_of_getElem? hx.out
      have hxd := HD.out x hxm
      obtain ⟨hs0, hs1⟩ := HS.out x hxm
      obtain ⟨g, rfl, hgl, hcell⟩ := (HA.out.below hbr) (fun h => by rw [h] at hxm; simp at hxm)
      obtain ⟨x0, x1⟩ := hcell j x hx.out
      clear hcell hxm hjl
      have hb2 := (Below.refl wr.heap.size wr).alloc (Nat.le_refl _) (.cells #[.int .i64 x.s, .slice x.A x.d.length x.c] 27)
      have hb3 := nxt hbr hb2
      by_cases e1 : x.s = last - n + 1 + j
      · by_cases e2 : x.d.length ≤ 1048576
        · have k1 : (x.s != last - (n : Int) + 1 + (j : Int)) = false := by rw [e1]; simp
          have k2 : decide ((x.d.length : Int) > 1048576) = false := decide_eq_false (by omega)
          have k3 : decide (1048576 < x.d.length) = false := decide_eq_false (by omega)
          have E1 := Lib.hid e1
          clear e1
          go_wp2_with fail
          go_roundw
          case rel =>
            refine ⟨j + 1, by omega, by go_num, Lib.hid (fun t y ht hy => ?_), hb3⟩
            by_cases e : t = j
            · subst e
              rw [hx.out] at hy
              obtain rfl := Option.some.inj hy
              exact ⟨E1.out, e2⟩
            · exact HP.out t y (by omega) hy
          case measure => simp [intOf]; omega
        · have k1 : (x.s != last - (n : Int) + 1 + (j : Int)) = false := by rw [e1]; simp
          have k2 : decide ((x.d.length : Int) > 1048576) = true := decide_eq_true (by omega)
          have k3 : decide (1048576 < x.d.length) = true := decide_eq_true (by omega)
          clear e1
          go_wp2_with fail
          go_ret
          exact ⟨false, rfl, by simpa using (fun h => e2 ((HR.out.2 h) j x hx.out).2), nxt hW0 hb3⟩
      · have k1 : (x.s != last - (n : Int) + 1 + (j : Int)) = true := bne_iff_ne.2 e1
        go_wp2_with fail
        go_ret
        exact ⟨false, rfl, by simpa using (fun h => e1 ((HR.out.2 h) j x hx.out).1), nxt hW0 hb3⟩
    · obtain rfl : j = n := by omega
      go_wp2_with fail
      go_ret
      refine ⟨true, rfl, ⟨fun _ => HR.out.1 (fun i x hx => HP.out i x ?_ hx), fun _ => rfl⟩, nxt hW0 hbr⟩
      have := (List.getElem?_eq_some_iff.1 hx).1
      have := HL.out
      omega
section
variable {w w' : World} {base q : Nat} {r r' : Option Nat} {p : Se}
/-- What Link tells: the link, its items in new memory. -/
def LinkP (p : Se) (w : World) (e : Ending) (w' : World) : Prop := ∃ (A : Option Addr) (c : Nat) (L : List It), e = .returned (.agg #[.int .i64 (p.last : Int), .slice A p.ds.length c, .int .i64 (p.done : Int)]) ∧ w'.ownsRow w.heap.size 27 2 (.slice A p.ds.length c) L.length (iCs L) ∧ Its w' p.first p.ds L ∧ Fresh w' w.heap.size L ∧ Below w.heap.size w w'
theorem Its.of_eq {first : Nat} {ds : List (List Nat)} {L L' : List It} (h : Its w first ds L) (he : L'.map It.p = L.map It.p) (hb : ∀ x ∈ L', Bx w' 0 (.slice x.A x.d.length x.c) x.d) : Its w' first ds L' := by
  refine ⟨?_, fun i x hx => ?_, hb⟩
  · rw [← h.ds]
    have := congrArg (List.map Prod.snd) he
    simpa [List.map_map, It.p, Function.comp_def] using this
  · have h1 := congrArg (fun l => l[i]?) he
    simp only [List.getElem?_map, hx, Option.map_some] at h1
    cases hy : L[i]? with
    | none => rw [hy] at h1; simp at h1
    | some y =>
      rw [hy] at h1
      simp [It.p] at h1
      rw [h1.1]
      exact h.num i y hy
theorem Its.bs {first : Nat} {ds : List (List Nat)} {L : List It} (h : Its w first ds L) : ∀ x ∈ L, Bs w (.slice x.A x.d.length x.c) x.d := fun x hx => (h.bx x hx).bs
theorem Its.short {first : Nat} {ds : List (List Nat)} {L : List It} (h : Its w first ds L) {n : Nat} (hd : ∀ d ∈ ds, d.length ≤ n) : ∀ x ∈ L, x.d.length ≤ n := fun x hx => hd _ (by rw [← h.ds]; exact List.mem_map_of_mem hx)
set_option maxHeartbeats 800000 in
theorem link_any (h : SeAt w base q r p) : Calls Try.prog 16 #[.pointer (some ⟨q, 0, none⟩)] w fun e w' => LinkP p w e w' := by
  have hW := (Below.refl w.heap.size w).alloc (Nat.le_refl _) (.cells #[.int .i64 0, .slice none 0 0, .int .i64 0] 24)
  have q0 := heap_new w (.cells #[.int .i64 0, .slice none 0 0, .int .i64 0] 24)
  have hsz : w.heap.size ≤ (w.alloc (.cells #[.int .i64 0, .slice none 0 0, .int .i64 0] 24)).heap.size := hW.size
  have h1 := h.below hW
  have hok := h.ok
  have HM := Lib.hid (smade_any h1)
  obtain ⟨v, L, -, -, ho, hh, hi, -⟩ := h1
  obtain ⟨A, c, rfl, hc⟩ := irow_slice ho
  have hla := LAt.of_row rfl ho
  have hlen := hi.len
  have hfew := hok.few
  have HO := Lib.hid (own7_any (p.last : Int) (p.done : Int) A L.length c L _ rfl hc (by omega) (fun x hx => Nat.le_trans (hi.short hok.short x hx) (by omega)) hla hi.bs)
  obtain ⟨c0, c1, c2, c3, c4, c5, c6, c7, c8⟩ := box9 hh
  have HI := Lib.hid hi
  have HLEN := Lib.hid hlen
  clear hh c0 c1 c2 c3 c7 c8 hi ho hla hlen h hok
  go_enter Try.func16, Try.ntmps16
  go_wp2_with fail
  refine HM.out.mono ?_
  rintro e w1 ⟨rfl, rfl⟩
  go_wp2_with fail
  refine HO.out.mono ?_
  rintro e w1 ⟨A', c', L', rfl, ho', he', hf', hb'⟩
  have q1 := heap_below q0 hb'
  have p1 := sset3 q1 (.int .i64 (p.last : Int)) (.slice A' L.length c') (.int .i64 (p.done : Int))
  obtain ⟨⟨d0, d1, d2⟩, ⟨f0, f1, f2⟩⟩ := box3 q1
  obtain ⟨⟨e0, e1, e2⟩, -⟩ := box3 p1
  have HO' := Lib.hid ho'
  have HE' := Lib.hid he'
  clear ho' he' p1 q1
  go_wp2_with fail
  have hlow := lt_heap q0
  have hg4 : Kp w.heap.size w1 (((w1.setCell ⟨w.heap.size, 0, none⟩ (.int .i64 (p.last : Int))).setCell ⟨w.heap.size, 1, none⟩ (.slice A' L.length c')).setCell ⟨w.heap.size, 2, none⟩ (.int .i64 (p.done : Int))) :=
    ((((Kp.refl w.heap.size w1).set rfl _).set rfl _).set rfl _)
  have hb4 : Below w.heap.size w (((w1.setCell ⟨w.heap.size, 0, none⟩ (.int .i64 (p.last : Int))).setCell ⟨w.heap.size, 1, none⟩ (.slice A' L.length c')).setCell ⟨w.heap.size, 2, none⟩ (.int .i64 (p.done : Int))) :=
    (((nxt hW hb').setCell (Nat.le_refl _) _).setCell (Nat.le_refl _) _).setCell (Nat.le_refl _) _
  refine bodyPost_ret (v := .agg #[.int .i64 (p.last : Int), .slice A' L.length c', .int .i64 (p.done : Int)]) (by simp [results, Try.results16, go_sem, e0, e1, e2]) rfl ?_
  have hf4 : Fresh (((w1.setCell ⟨w.heap.size, 0, none⟩ (.int .i64 (p.last : Int))).setCell ⟨w.heap.size, 1, none⟩ (.slice A' L.length c')).setCell ⟨w.heap.size, 2, none⟩ (.int .i64 (p.done : Int))) w.heap.size L' := fun x hx => by
    refine ⟨((hf' x hx).1.kept hg4 ?_).mono hsz, (hf' x hx).2⟩
    cases hv : Value.ownBlock (.slice x.A x.d.length x.c) with
    | none => exact .inl rfl
    | some g =>
      refine .inr (fun e => ?_)
      have := ((hf' x hx).1.blk hv).1
      have := Option.some.inj e
      omega
  refine ⟨A', c', L', by rw [← HLEN.out], ?_, HI.out.of_eq HE'.out hf4.bx, hf4, hb4⟩
  rw [← HLEN.out]
  refine irow_mono (irow_kept HO'.out (fun g hg => hg4.block g ?_ ?_)) hsz
  · obtain ⟨_, _, h⟩ := irow_blk HO'.out hg
    exact lt_heap h
  · intro e
    have := (irow_blk HO'.out hg).1
    have := Option.some.inj e
    omega
end
end Go.Proofs.Ytjhopajhcmkllaa
