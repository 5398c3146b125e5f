/- droverlaw07.both, awake: the walks. -/
import Derived.Test.YtjhopajhcmkllaaSl
import Derived.Lib.SlBytesConst
namespace Go.Proofs.Ytjhopajhcmkllaa
open Go.RowKit
set_option linter.unusedVariables false

/-- A session that has just begun. -/
def se0 (node peer life : Nat) : Se := ⟨node, peer, life, 0, 0, 0, 0, []⟩
theorem rightL0 : RightL 0 0 [] := ⟨by decide, by decide, by simp, by simp, by simp⟩
theorem LAt.nil (w : World) (A : Option Addr) : LAt w A [] := fun h => absurd rfl h
def New0P (node peer life : Nat) (w : World) (e : Ending) (w' : World) : Prop := ∃ g r, e = .returned (.tuple #[.pointer (some ⟨g, 0, none⟩), .int .i64 0]) ∧ SeAt w' w.heap.size g r (se0 node peer life) ∧ Below w.heap.size w w'
theorem new0_any (node peer life : Nat) (x y z : Int) (hx : x = node) (hy : y = peer) (hz : z = life) (w : World) (h1 : node < 16) (h2 : peer < 16) (h3 : 1 ≤ life ∧ life ≤ 2305843009213693952) :
    Calls Try.prog 5 #[.int .i64 x, .int .i64 y, .int .i64 z, .agg #[.int .i64 0, .slice none 0 0, .int .i64 0]] w fun e w' => New0P node peer life w e w' := by
  subst hx hy hz
  refine (news_any _ _ _ 0 0 none 0 0 [] w rfl (Nat.le_refl _) (by omega) (by omega) (by simp) (by simp) (LAt.nil _ _) (by simp)).mono ?_
  have hR : RightN (node : Int) (peer : Int) (life : Int) 0 0 [] := ⟨by omega, by omega, by omega, rightL0⟩
  rintro e w' ⟨hb, ⟨h, -⟩ | ⟨-, g, r, rfl, hs⟩⟩
  · exact absurd hR h
  · exact ⟨g, r, rfl, hs, hb⟩
/-- A session that begins anew with a link. -/
def Se.anew (p : Se) (node peer life : Nat) : Se := ⟨node, peer, life, p.last, p.done, p.done, 0, p.ds⟩
theorem renew_any {w : World} {p : Se} {L : List It} {A : Option Addr} {c base : Nat} (hok : p.Ok) (hi : Its w p.first p.ds L) (ho : w.ownsRow base 27 2 (.slice A p.ds.length c) L.length (iCs L)) (h61 : p.last ≤ 2305843009213693952) (h62 : p.done ≤ 2305843009213693952)
    (node peer life : Nat) (x y z : Int) (hx : x = node) (hy : y = peer) (hz : z = life) (h1 : node < 16) (h2 : peer < 16) (h3 : 1 ≤ life ∧ life ≤ 2305843009213693952) :
    Calls Try.prog 5 #[.int .i64 x, .int .i64 y, .int .i64 z, .agg #[.int .i64 (p.last : Int), .slice A p.ds.length c, .int .i64 (p.done : Int)]] w fun e w' => ∃ g r, e = .returned (.tuple #[.pointer (some ⟨g, 0, none⟩), .int .i64 0]) ∧ SeAt w' w.heap.size g r (p.anew node peer life) ∧ Below w.heap.size w w' := by
  subst hx hy hz
  have hlen := hi.len
  have hfew := hok.few
  have hlast := hok.last
  obtain ⟨A', c', he, hc⟩ := irow_slice ho
  injection he with e1 e2 e3
  have hf : ((p.first : Nat) : Int) = (p.last : Int) - (L.length : Int) := by unfold Se.first; omega
  refine (news_any _ _ _ (p.last : Int) (p.done : Int) A p.ds.length c L w hlen (by omega) (by omega) (by omega) (fun x hx => by have := hi.short hok.short x hx; omega) (fun x hx => ?_) (LAt.of_row rfl ho) hi.bs).mono ?_
  · obtain ⟨i, hi'⟩ := List.getElem?_of_mem hx
    have h9 := hi.num i x hi'
    have := (List.getElem?_eq_some_iff.1 hi').1
    rw [h9]
    unfold Se.first
    omega
  have hR : RightN (node : Int) (peer : Int) (life : Int) (p.last : Int) (p.done : Int) L := ⟨by omega, by omega, by omega, nuB_iff.2 (by omega), nuB_iff.2 (by omega), by omega, by omega, fun i x hx => ⟨by rw [hi.num i x hx]; omega, hi.short hok.short x (List.mem_of_getElem? hx)⟩⟩
  rintro e w' ⟨hb, ⟨h, -⟩ | ⟨-, g, r, rfl, hs⟩⟩
  · exact absurd hR h
  · refine ⟨g, r, rfl, ?_, hb⟩
    have : seNew (node : Int) (peer : Int) (life : Int) (p.last : Int) (p.done : Int) L = p.anew node peer life := by
      unfold seNew Se.anew
      rw [hi.ds]
      simp
    rw [← this]
    exact hs
/-- Two sessions beside each other. -/
structure Duo (w : World) (B : Nat) (q : Nat) (r : Option Nat) (p : Se) (q' : Nat) (r' : Option Nat) (p' : Se) : Prop where
  a : SeAt w B q r p
  b : SeAt w B q' r' p'
  ne : q ≠ q'
  ap : Apart r r'
section
variable {w w' : World} {B q q' : Nat} {r r' r1 : Option Nat} {p p' p1 : Se}
theorem Duo.symm (h : Duo w B q r p q' r' p') : Duo w B q' r' p' q r p := ⟨h.b, h.a, fun e => h.ne e.symm, h.ap.symm⟩
theorem Duo.below (h : Duo w B q r p q' r' p') (hb : Below w.heap.size w w') : Duo w' B q r p q' r' p' := ⟨h.a.below hb, h.b.below hb, h.ne, h.ap⟩
theorem Duo.one (h : Duo w B q r p q' r' p') (hs : SeAt w' B q r1 p1) (hk : Kr q r w w') (hr : Rw w r r1) : Duo w' B q r1 p1 q' r' p' :=
  ⟨hs, h.b.other h.a (fun e => h.ne e.symm) h.ap hk, h.ne, h.ap.after h.b hr⟩
theorem Duo.two (h : Duo w B q r p q' r' p') (hs : SeAt w' B q' r1 p1) (hk : Kr q' r' w w') (hr : Rw w r' r1) : Duo w' B q r p q' r1 p1 := (h.symm.one hs hk hr).symm
end
def BothP (w : World) (e : Ending) (w' : World) : Prop := ∃ q r q' r', e = .returned (.tuple #[.pointer (some ⟨q, 0, none⟩), .pointer (some ⟨q', 0, none⟩)]) ∧ Duo w' w.heap.size q r (se0 0 1 1) q' r' (se0 1 0 1) ∧ Below w.heap.size w w'
set_option maxHeartbeats 800000 in
theorem both_any (w : World) : Calls Try.prog 55 #[] w fun e w' => BothP w e w' := by
  go_enter Try.func55, Try.ntmps55
  go_wp2_with fail
  refine (new0_any 0 1 1 0 1 1 rfl rfl rfl w (by omega) (by omega) (by omega)).mono ?_
  rintro e w1 ⟨q, r, rfl, hs1, hb1⟩
  go_wp2_with fail
  refine (new0_any 1 0 1 1 0 1 rfl rfl rfl w1 (by omega) (by omega) (by omega)).mono ?_
  rintro e w2 ⟨q', r', rfl, hs2, hb2⟩
  go_wp2_with fail
  go_ret2
  have hlt := hs1.lt
  refine ⟨q, r, q', r', rfl, ⟨hs1.below hb2, hs2.mono hb1.size, fun e => by have := hs2.low; omega, fun g h1 h2 => ?_⟩, nxt hb1 hb2⟩
  have := (hs1.row_lt h1).2
  have := (hs2.row_lt h2).1
  omega
theorem pkt_ok {k : Pk} (h1 : k.f ≤ 100) (h2 : k.l ≤ 100000) (h3 : k.s ≤ 100000) (h4 : k.a ≤ 100000) (h5 : k.d.length ≤ 1048576) (h6 : k.s = 0 → k.d = []) : pright k = true := by
  rw [pright_iff]
  unfold big
  exact ⟨by omega, by omega, by omega, by omega, h5, h6⟩
theorem Bx.of_blk7 {w : World} {base b c n : Nat} {cur : Array Value} {fr : Nat × Nat} {x : List Nat} (h : Bs w (.slice (some ⟨b, 0, none⟩) n c) x) (hh : w.heap[b]? = some (.cells cur 5 fr)) : Bx w base (.slice (some ⟨b, 0, none⟩) n c) x := by
  obtain ⟨⟨A, c', h1, h2, h3⟩, h4⟩ := h
  refine ⟨⟨A, c', h1, h2, fun hn => ?_⟩, h4⟩
  obtain ⟨b', o, k1, k2, k3⟩ := h3 hn
  refine ⟨b', o, k1, .inr ⟨cur, fr, ?_⟩, k3⟩
  injection h1 with h1 _ _
  subst h1
  injection k1 with k1
  injection k1 with k1 _
  subst k1
  exact hh
/-- The states of awake's sessions. -/
def a2 : Se := ⟨0, 1, 1, 2, 0, 0, 0, [[120], [121]]⟩
def a3 : Se := ⟨0, 1, 1, 2, 0, 0, 1, [[121]]⟩
def b1 : Se := ⟨1, 0, 1, 0, 0, 0, 1, []⟩
def b3 : Se := ⟨1, 0, 1, 0, 1, 1, 1, []⟩
def c0 : Se := ⟨1, 0, 2, 0, 1, 1, 0, []⟩
def c1 : Se := ⟨1, 0, 2, 0, 1, 1, 1, []⟩
theorem a2_packets : a2.packets = [a2.pk 1 [120], a2.pk 2 [121]] := by
  unfold Se.packets
  rw [if_neg (by simp [a2])]
  rfl
theorem b3_packets : b3.packets = [b3.pk 0 []] := by
  unfold Se.packets
  rw [if_pos (show b3.ds = [] from rfl)]
theorem rr1 : (se0 1 0 1).recv (a2.pk 2 [121]) = (b1, none, 0) := by
  rw [Se.pk_eq, Se.recv_pkb _ (pkt_ok (by decide) (by decide) (by decide) (by decide) (by decide) (by decide))]
  rfl
theorem rr2 : b1.recv (a2.pk 1 [120]) = (b1, some (1, [120]), 0) := by
  rw [Se.pk_eq, Se.recv_pkb _ (pkt_ok (by decide) (by decide) (by decide) (by decide) (by decide) (by decide))]
  rfl
theorem rr3 : a2.recv (b3.pk 0 []) = (a3, none, 0) := by
  rw [Se.pk_eq, Se.recv_pkb _ (pkt_ok (by decide) (by decide) (by decide) (by decide) (by decide) (by decide))]
  rfl
theorem rr4 : c0.recv (a2.pk 1 [120]) = (c1, none, 0) := by
  rw [Se.pk_eq, Se.recv_pkb _ (pkt_ok (by decide) (by decide) (by decide) (by decide) (by decide) (by decide))]
  rfl
theorem rr5 : c1.recv (a2.pk 2 [121]) = (c1, some (2, [121]), 0) := by
  rw [Se.pk_eq, Se.recv_pkb _ (pkt_ok (by decide) (by decide) (by decide) (by decide) (by decide) (by decide))]
  rfl
theorem pk_short (p : Se) (s : Nat) (d : List Nat) (h : d.length ≤ 1048576) : (p.pk s d).length ≤ 1099511627776 := by
  rw [Se.pk_eq]
  have := pkb_len (p.pkt s d)
  have e : (p.pkt s d).d = d := rfl
  rw [e] at this
  omega
set_option maxRecDepth 100000 in
set_option maxHeartbeats 3200000 in
theorem awake07_any (w : World) : Calls Try.prog 21 #[] w fun e w' => e = .returned (.bool true) ∧ Below w.heap.size w w' := by
  have hcv : ∀ (w : World) (C : Array Value) (n c g : Nat), g = w.heap.size → (convert 25 25 (.slice (some ⟨g, 0, none⟩) n c)).run Try.prog (w.alloc (.cells C 5)) = .ok (.slice (some ⟨g, 0, none⟩) n c) (w.alloc (.cells C 5 (C.size, C.size + 1))) := by
    intro w C n c g hg
    subst hg
    exact Lib.run_convert_bytes_const (P := Try.prog) w 25 5 C n c Try.underlying25 Try.underlying5
  go_enter Try.func21, Try.ntmps21
  go_wp2_with fail
  refine (both_any w).mono ?_
  rintro e w1 ⟨q, r, q', r', rfl, hd1, hb1⟩
  go_wp2_with fail
  -- Send x
  have hx := Bx.of_blk7 (base := w.heap.size) (Bs.made' w1 #[.int .u8 120] 5 [120] 1 w1.heap.size rfl rfl rfl (by simp) (1, 2)) (heap_new _ _)
  have ho := (Below.refl w1.heap.size w1).alloc (Nat.le_refl _) (.cells #[.int .u8 120] 5 (1, 2))
  have hd := hd1.below ho
  have hb := hb1.alloc hb1.size (.cells #[.int .u8 120] 5 (1, 2))
  refine (ssend_any hd.a _ [120] hx (by show 0 < _; omega) hb.size).mono ?_
  rintro e w2 ⟨rfl, r2, hs2, hk2, hw2⟩
  rw [show (((se0 0 1 1).sendN [120] : Nat) : Int) = 1 from rfl, show (((se0 0 1 1).sendE [120] : Nat) : Int) = 0 from rfl]
  have hd2 := hd.one hs2 hk2 hw2
  have hb2 := hb.trans (hd.a.belowOf hk2)
  clear hx ho hd hb hs2 hk2 hw2 hd1 hb1
  go_wp2_with fail
  -- Send y
  have hx := Bx.of_blk7 (base := w.heap.size) (Bs.made' w2 #[.int .u8 121] 5 [121] 1 w2.heap.size rfl rfl rfl (by simp) (1, 2)) (heap_new _ _)
  have ho := (Below.refl w2.heap.size w2).alloc (Nat.le_refl _) (.cells #[.int .u8 121] 5 (1, 2))
  have hd := hd2.below ho
  have hb := hb2.alloc hb2.size (.cells #[.int .u8 121] 5 (1, 2))
  refine (ssend_any hd.a _ [121] hx (by show 1 < _; omega) hb.size).mono ?_
  rintro e w3 ⟨rfl, r3, hs3, hk3, hw3⟩
  rw [show (((((se0 0 1 1).send [120]).sendN [121] : Nat)) : Int) = 2 from rfl, show (((((se0 0 1 1).send [120]).sendE [121] : Nat)) : Int) = 0 from rfl]
  have hd3 : Duo w3 w.heap.size q r3 a2 q' r' (se0 1 0 1) := hd.one hs3 hk3 hw3
  have hb3 := hb.trans (hd.a.belowOf hk3)
  clear hx ho hd hb hs3 hk3 hw3 hd2 hb2
  go_wp2_with fail
  -- Packets
  refine (packets_any hd3.a).mono ?_
  rintro e w4 ⟨v4, rfl, hl4, hb4'⟩
  rw [a2_packets] at hl4
  obtain ⟨A4, c4, rfl, -, -⟩ := hl4.slice
  rw [show ([a2.pk 1 [120], a2.pk 2 [121]] : List (List Nat)).length = 2 from rfl] at hl4 ⊢
  have hd4 := hd3.below hb4'
  have hb4 := nxt hb3 hb4'
  replace hl4 := hl4.mono hb3.size
  clear hd3 hb3 hb4'
  obtain ⟨g, A5, c5, rfl, hg, t0, x0⟩ := hl4.cell (i := 0) rfl
  obtain ⟨g', A6, c6, he, -, t1, x1⟩ := hl4.cell (i := 1) rfl
  injection he with he
  injection he with he
  subst he
  go_wp2_with fail
  -- nothing: the second packet
  refine (nothing_any hd4.b _ _ x1.bs (pk_short _ _ _ (by simp)) hb4.size rr1).mono ?_
  rintro e w5 ⟨rfl, r5, hs5, hk5, hw5⟩
  have hl5 := hl4.other hd4.b hk5
  have hd5 := hd4.two hs5 hk5 hw5
  have hb5 := hb4.trans (hd4.b.belowOf hk5)
  clear t0 x0 t1 x1 hg hs5 hk5 hw5 hd4 hb4 hl4
  obtain ⟨g5, A5, c5, he, hg, t0, x0⟩ := hl5.cell (i := 0) rfl
  injection he with he
  injection he with he
  subst he
  go_wp2_with fail
  -- got: the first one
  rw [show (Value.string ⟨#[120]⟩) = .string (strOf [120]) from rfl]
  refine (got_any hd5.b _ _ x0.bs (pk_short _ _ _ (by simp)) hb5.size 1 [120] rr2).mono ?_
  rintro e w6 ⟨rfl, r6, hs6, hk6, hw6⟩
  have hl6 := hl5.other hd5.b hk6
  have hd6 := hd5.two hs6 hk6 hw6
  have hb6 := hb5.trans (hd5.b.belowOf hk6)
  clear t0 x0 hg hs6 hk6 hw6 hd5 hb5 hl5
  go_wp2_with fail
  -- Accept, Done
  refine (accept_any hd6.b 1 (by show 0 < _; omega)).mono ?_
  rintro e w7 ⟨rfl, hs7, hk7⟩
  rw [if_pos (show (1 : Int) = ((b1.acc : Nat) : Int) + 1 from rfl)]
  have hl7 := hl6.other hd6.b hk7
  have hd7 := hd6.two hs7 hk7 (.inl rfl)
  have hb7 := hb6.trans (hd6.b.belowOf hk7)
  clear hs7 hk7 hd6 hb6 hl6
  go_wp2_with fail
  refine (done_any hd7.b 1).mono ?_
  rintro e w8 ⟨rfl, hs8, hk8⟩
  rw [if_pos (show (((b1.accept 1).done : Nat) : Int) < 1 ∧ (1 : Int) ≤ (((b1.accept 1).acc : Nat) : Int) from ⟨by decide, by decide⟩)]
  have hl8 := hl7.other hd7.b hk8
  have hd8 : Duo w8 w.heap.size q r3 a2 q' r6 b3 := hd7.two hs8 hk8 (.inl rfl)
  have hb8 := hb7.trans (hd7.b.belowOf hk8)
  clear hs8 hk8 hd7 hb7 hl7
  go_wp2_with fail
  -- the acknowledgement
  refine (packets_any hd8.b).mono ?_
  rintro e w9 ⟨v9, rfl, hm9, hb9'⟩
  rw [b3_packets] at hm9
  obtain ⟨A9, c9, rfl, -, -⟩ := hm9.slice
  rw [show ([b3.pk 0 []] : List (List Nat)).length = 1 from rfl] at hm9 ⊢
  have hl9 := hl8.below hb9'
  have hd9 := hd8.below hb9'
  have hb9 := nxt hb8 hb9'
  clear hd8 hb8 hb9' hl8
  obtain ⟨g9, A10, c10, rfl, hg9, t0, x0⟩ := hm9.cell (i := 0) rfl
  go_wp2_with fail
  refine (nothing_any hd9.a _ _ x0.bs (pk_short _ _ _ (by simp)) hb9.size rr3).mono ?_
  rintro e w10 ⟨rfl, r10, hs10, hk10, hw10⟩
  have hl10 := hl9.other hd9.a hk10
  have hd10 := hd9.one hs10 hk10 hw10
  have hb10 := hb9.trans (hd9.a.belowOf hk10)
  clear t0 x0 hg9 hs10 hk10 hw10 hd9 hb9 hl9 hm9
  go_wp2_with fail
  refine (waiting_any hd10.a).mono ?_
  rintro e wx ⟨rfl, rfl⟩
  rw [show ((a3.ds.length : Nat) : Int) = 1 from rfl]
  go_wp2_with fail
  -- it begins anew
  refine (link_any hd10.b).mono ?_
  rintro e w11 ⟨A11, c11, L11, rfl, ho11, hi11, hf11, hb11'⟩
  have hl11 := hl10.below hb11'
  have hb11 := nxt hb10 hb11'
  go_wp2_with fail
  refine (renew_any (p := b3) hd10.b.ok hi11 ho11 (by decide) (by decide) 1 0 2 1 0 2 rfl rfl rfl (by omega) (by omega) (by omega)).mono ?_
  rintro e w12 ⟨qc, rc, rfl, hs12, hb12'⟩
  have hs : SeAt w12 w.heap.size qc rc c0 := hs12.mono hb11.size
  have hl12 := hl11.below hb12'
  have hb12 := nxt hb11 hb12'
  clear hl11 hb11 hb12' hs12 ho11 hi11 hf11 hd10 hb10 hl10 hb11'
  obtain ⟨g12, A12, c12, he, hg, t0, x0⟩ := hl12.cell (i := 0) rfl
  injection he with he
  injection he with he
  subst he
  go_wp2_with fail
  refine (nothing_any hs _ _ x0.bs (pk_short _ _ _ (by simp)) hb12.size rr4).mono ?_
  rintro e w13 ⟨rfl, r13, hs13, hk13, hw13⟩
  have hl13 := hl12.other hs hk13
  have hb13 := hb12.trans (hs.belowOf hk13)
  clear t0 x0 hg hl12 hb12 hs hk13 hw13
  obtain ⟨g13, A13, c13, he, hg, t1, x1⟩ := hl13.cell (i := 1) rfl
  injection he with he
  injection he with he
  subst he
  go_wp2_with fail
  rw [show (Value.string ⟨#[121]⟩) = .string (strOf [121]) from rfl]
  refine (got_any hs13 _ _ x1.bs (pk_short _ _ _ (by simp)) hb13.size 2 [121] rr5).mono ?_
  rintro e w14 ⟨rfl, r14, hs14, hk14, hw14⟩
  have hb14 := hb13.trans (hs13.belowOf hk14)
  go_wp2_with fail
  refine (peerlife_any hs14).mono ?_
  rintro e wx ⟨rfl, rfl⟩
  rw [show ((c1.pl : Nat) : Int) = 1 from rfl]
  go_wp2_with fail
  go_ret
  exact ⟨rfl, hb14⟩
end Go.Proofs.Ytjhopajhcmkllaa
