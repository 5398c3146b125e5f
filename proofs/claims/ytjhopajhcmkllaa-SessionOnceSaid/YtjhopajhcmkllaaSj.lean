/- drover/session.Receive: the walk. -/
import Derived.Test.YtjhopajhcmkllaaSh
import Derived.Test.YtjhopajhcmkllaaSi
import Derived.Test.YtjhopajhcmkllaaUnpack2
import Derived.Test.YtjhopajhcmkllaaSamep
namespace Go.Proofs.Ytjhopajhcmkllaa
open Go.RowKit
set_option linter.unusedVariables false

theorem pget_err {b : List Nat} {er : Nat} (h : pget b = .error er) : er ≠ 0 := by
  unfold pget at h
  split at h
  · injection h with h; omega
  · split at h
    · rename_i h1
      injection h with h
      exact h ▸ h1
    · unfold pdec at h
      split at h
      · rename_i e he
        injection h with h
        exact h ▸ many_err0 (fun a er h => fP_err _ a er h) 4 0 e he
      · split at h
        · rename_i h1
          injection h with h
          exact h ▸ h1
        · split at h
          · injection h with h; omega
          · split at h
            · injection h with h; omega
            · cases h
theorem pget_ok {b : List Nat} (h8 : ∀ x ∈ b, x < 256) {k : Pk} (h : pget b = .ok k) : k.f ≤ 4611686018427387904 ∧ k.l ≤ 4611686018427387904 ∧ k.s ≤ 4611686018427387904 ∧ k.a ≤ 4611686018427387904 ∧ k.d.length ≤ 1048576 ∧ ∀ x ∈ k.d, x < 256 := by
  unfold pget at h
  split at h
  · cases h
  · split at h
    · cases h
    · rename_i h0
      have h9 : ∀ x ∈ (us b).1, x < 256 := by
        intro x hx
        unfold us at hx
        split at hx
        · simp at hx
        · split at hx
          · exact h8 x (List.mem_of_mem_take hx)
          · simp at hx
      obtain ⟨-, h1, h2⟩ := pdec_back h9 h
      obtain ⟨a1, a2, a3, a4, a5, -⟩ := pright_iff.1 h1
      exact ⟨a1, a2, a3, a4, a5, h2⟩
/-- A packet's bytes, its sum behind them. -/
def pkb (k : Pk) : List Nat := penc k ++ be4 (crcN (penc k))
theorem penc_len (k : Pk) : (penc k).length ≤ 50 + k.d.length := by
  have n1 := (varint_length k.f).2
  have n2 := (varint_length k.l).2
  have n3 := (varint_length k.s).2
  have n4 := (varint_length k.a).2
  have n5 := (varint_length k.d.length).2
  unfold penc gB
  simp
  omega
/-- What is packed is unpacked. -/
theorem pget_pk {k : Pk} (h : pright k = true) : pget (pkb k) = .ok k := by
  have h1 := penc_len k
  have h2 := (pright_iff.1 h).2.2.2.2.1
  unfold pget pkb
  rw [if_neg (by simp [be4]; omega), us_seal, if_neg (by simp)]
  exact pdec_penc h
theorem pkb_len (k : Pk) : (pkb k).length ≤ 54 + k.d.length := by
  have h1 := penc_len k
  unfold pkb
  simp [be4]
  omega
/-- What Receive makes of a session, and tells. -/
def Se.recv (p : Se) (b : List Nat) : Se × Option (Nat × List Nat) × Nat := match pget b with
  | .error e => (p, none, e)
  | .ok k => if k.f ≠ p.peer then (p, none, 2) else if k.l < p.pl then (p, none, 0) else if p.last < k.a then (p, none, 16)
    else ({ p with pl := k.l, ds := p.ds.drop (k.a - p.first) }, if k.s = p.acc + 1 then some (k.s, k.d) else none, 0)
theorem resti_drop {w : World} {first : Nat} {ds : List (List Nat)} {L : List It} (h : Its w first ds L) (a : Nat) : resti L (a : Int) = L.drop (a - first) := by
  unfold resti
  have key : ∀ (L : List It) (f : Nat), (∀ (i : Nat) (x : It), L[i]? = some x → x.s = ((f + 1 + i : Nat) : Int)) → L.filter (fun x => !decide (x.s ≤ (a : Int))) = L.drop (a - f) := by
    intro L
    induction L with
    | nil => intro f _; simp
    | cons y L ih =>
      intro f hf
      have h0 := hf 0 y rfl
      have h1 := ih (f + 1) (fun i x hx => by
        rw [hf (i + 1) x (by simpa using hx)]
        congr 1
        omega)
      by_cases hle : f + 1 ≤ a
      · rw [List.filter_cons, if_neg (by simp; omega), h1, show a - f = (a - (f + 1)) + 1 by omega, List.drop_succ_cons]
      · rw [List.filter_cons, if_pos (by simp; omega), h1, show a - f = 0 by omega, show a - (f + 1) = 0 by omega]
        rfl
  exact key L first h.num
theorem Its.drop {w : World} {first : Nat} {ds : List (List Nat)} {L : List It} (h : Its w first ds L) (k : Nat) : Its w (first + k) (ds.drop k) (L.drop k) := by
  refine ⟨by rw [List.map_drop, h.ds], fun i x hx => ?_, fun x hx => h.bx x (List.mem_of_mem_drop hx)⟩
  rw [List.getElem?_drop] at hx
  rw [h.num _ x hx]
  congr 1
  omega
theorem Se.recv_ok {p : Se} {b : List Nat} (h8 : ∀ x ∈ b, x < 256) (h : p.Ok) : (p.recv b).1.Ok := by
  unfold Se.recv
  split
  · exact h
  · rename_i k hk
    obtain ⟨-, h2, -⟩ := pget_ok h8 hk
    split
    · exact h
    · split
      · exact h
      · split
        · exact h
        · exact { h with pl := h2, last := ⟨by have := h.last.1; simp; omega, h.last.2⟩, few := by have := h.few; simp; omega, short := fun d hd => h.short d (List.mem_of_mem_drop hd) }
section
variable {w w' : World} {base q : Nat} {r r' : Option Nat} {p : Se}
theorem Kr.setNew {b : Nat} {r : Option Nat} {a w : World} (h : Kr b r a w) {x : Addr} (hx : a.heap.size ≤ x.block) (v : Value) : Kr b r a (w.setCell x v) :=
  ⟨h.os, h.tape, h.output, by have := h.size; simp [World.setCell]; exact this, fun k hk h1 h2 => (Below.heap_setCell _ _ _ _ (by omega)).trans (h.block k hk h1 h2)⟩
def ZI : Value := .agg #[.int .i64 0, .slice none 0 0]
def RecvP (w : World) (base q : Nat) (r : Option Nat) (p : Se) (b : List Nat) (e : Ending) (w' : World) : Prop := AfterS w base q r (p.recv b).1 w' ∧
  match (p.recv b).2.1 with
  | none => e = .returned (.tuple #[ZI, .bool false, .int .i64 ((p.recv b).2.2 : Int)])
  | some (s, d) => ∃ A c, e = .returned (.tuple #[.agg #[.int .i64 (s : Int), .slice A d.length c], .bool true, .int .i64 0]) ∧ Own w' w.heap.size (.slice A d.length c) d ∧ Bs w' (.slice A d.length c) d
theorem delfi_row {B : Nat} {a : Int} {v : Value} {L : List It} {u0 u1 u2 u4 : Value} (hN : w.heap[B]? = some (.cells #[u0, u1, u2, .int .i64 a, u4] 34 (0, 0))) (hl : L.length ≤ 4096) (ho : w.ownsRow base 27 2 v L.length (iCs L)) :
    Calls Try.prog 45 #[v, .func (.func 46) #[] #[.pointer (some ⟨B, 0, none⟩)]] w fun e w' => ∃ A c, e = .returned (.slice A (resti L a).length c) ∧ (Value.slice A (resti L a).length c).ownBlock = v.ownBlock ∧ w'.ownsRow base 27 2 (.slice A (resti L a).length c) (resti L a).length (iCs (resti L a)) ∧ w.grownBy w' v.ownBlock := by
  rcases irow_form ho with ⟨rfl, rfl⟩ | ⟨g, c, rfl, hg⟩
  · refine (delfi_nil w _).mono ?_
    rintro e w' ⟨rfl, rfl⟩
    exact ⟨none, 0, rfl, rfl, World.ownsRow_nil _ _ _ _, World.grownBy.refl _ _⟩
  · have hne : B ≠ g := by
      rintro rfl
      obtain ⟨_, _, _, cur, h4, _⟩ := hg
      rw [hN] at h4
      exact absurd (by injection h4 with h4; injection h4) (show ¬ 34 = 27 by decide)
    refine (delfi_any a B L.length hne hN rfl hl hg).mono ?_
    rintro e w' ⟨rfl, h1, h2⟩
    exact ⟨_, c, rfl, rfl, h1.own, h2⟩
/-- A store to a block that is neither the session's, nor its row, nor one of bytes. -/
theorem seat_beside {g : Nat} {c : Array Value} {fr : Nat × Nat} (h : SeAt w base q r p) (hg : w.grownBy w' (some g)) (hq : g ≠ q) (hr : r ≠ some g) (hc : w.heap[g]? = some (.cells c 27 fr)) : SeAt w' base q r p := by
  refine h.keep hg.size (hg.block q h.lt (fun e => hq (Option.some.inj e).symm)) (fun j hj => hg.block j (h.row_lt hj).2 (fun e => hr (by rw [hj, e]))) (fun b cur fr hb => hg.block b (lt_heap hb) (fun e => ?_))
  obtain rfl := Option.some.inj e
  rw [hc] at hb
  exact absurd (by injection hb with hb; injection hb) (show ¬ 27 = 5 by decide)
theorem recv_same {b : List Nat} {er : Nat} {e : Ending} (h : SeAt w base q r p) (hr : p.recv b = (p, none, er)) (hb : Below w.heap.size w w') (he : e = .returned (.tuple #[ZI, .bool false, .int .i64 (er : Int)])) : RecvP w base q r p b e w' := by
  refine ⟨?_, ?_⟩
  · rw [hr]
    exact ⟨r, h.below hb, Kr.of_below hb, .inl rfl⟩
  · rw [hr]
    exact he
theorem bel_drew' {B : Nat} {a b : World} (h : Below B a b) : Below B a b.drew := ⟨h.os, h.tape, h.output, h.size, h.block⟩
set_option maxRecDepth 100000 in
set_option maxHeartbeats 3200000 in
theorem receive_any (h : SeAt w base q r p) (v : Value) (b : List Nat) (hv : Bs w v b) (hn : b.length ≤ 1099511627776) (hbase : base ≤ w.heap.size) : Calls Try.prog 8 #[.pointer (some ⟨q, 0, none⟩), v] w fun e w' => RecvP w base q r p b e w' := by
  have hW := (Below.refl w.heap.size w).alloc (Nat.le_refl _) (.cells #[.int .i64 0, .slice none 0 0] 27)
  have q0 := heap_new w (.cells #[.int .i64 0, .slice none 0 0] 27)
  obtain ⟨W, hWW⟩ : ∃ W, W = w.alloc (.cells #[.int .i64 0, .slice none 0 0] 27) := ⟨_, rfl⟩
  rw [← hWW] at hW q0
  have HM := Lib.hid (smade_any (h.below hW))
  have HU := Lib.hid (unpack_any v b W (hv.below hW) hn)
  have h8 := hv.2
  have hS0 := h.below hW
  have HS := Lib.hid hS0
  have HW := Lib.hid hWW
  have HWb := Lib.hid hW
  have Q0 := Lib.hid q0
  obtain ⟨res, hres⟩ : ∃ res, Hid (res = pget b) := ⟨_, Lib.hid rfl⟩
  rw [← hres.out] at HU
  have hsz := hW.size
  have HV := Lib.hid hv
  have HH := Lib.hid h
  clear hWW hW q0 hS0 hv h
  obtain ⟨⟨A, c, rfl, hc, -⟩, -⟩ := HV.out
  cases res with
  | error er =>
    have hne : er ≠ 0 := pget_err hres.out.symm
    have hR : Hid (p.recv b = (p, none, er)) := Lib.hid (by unfold Se.recv; rw [← hres.out])
    have k1 : ((er : Int) != 0) = true := bne_iff_ne.2 (by omega)
    clear hne
    go_enter Try.func8, Try.ntmps8
    go_wp2_with fail
    rw [← HW.out]
    refine HM.out.mono ?_
    rintro e w1 ⟨rfl, rfl⟩
    go_wp2_with fail
    refine HU.out.mono ?_
    intro e w1 hO
    unfold OutUnpack zeroP at hO
    obtain ⟨hb1, rfl⟩ := hO
    have q1 := heap_below Q0.out hb1
    have c0 := cell_block q1 0
    have c1 := cell_block q1 1
    have f0 := free_block q1 0
    have f1 := free_block q1 1
    have hlt := lt_heap q1
    go_wp2_with fail
    have q2 := heap_old (heap_set (heap_set q1 0 (.int .i64 0)) 1 (.slice none 0 0)) (.cells #[.int .i64 0, .int .i64 0, .int .i64 0, .int .i64 0, .slice none 0 0] 34)
    have y0 := cell_block q2 0
    have y1 := cell_block q2 1
    refine bodyPost_ret (v := .tuple #[.agg #[.int .i64 0, .slice none 0 0], .bool false, .int .i64 (er : Int)]) (by simp [results, Try.results8, go_sem, y0, y1]) rfl ?_
    have hbZ : Below w.heap.size w ((((w1.setCell ⟨w.heap.size, 0, none⟩ (.int .i64 0)).setCell ⟨w.heap.size, 1, none⟩ (.slice none 0 0))).alloc (.cells #[.int .i64 0, .int .i64 0, .int .i64 0, .int .i64 0, .slice none 0 0] 34)) :=
      (((nxt HWb.out hb1).setCell (Nat.le_refl _) _).setCell (Nat.le_refl _) _).alloc (by simp [World.setCell]; omega) _
    refine ⟨?_, ?_⟩
    · rw [hR.out]
      exact ⟨r, HH.out.below hbZ, Kr.of_below hbZ, .inl rfl⟩
    · rw [hR.out]
      rfl
  | ok k =>
    obtain ⟨a1, a2, a3, a4, a5, a6⟩ := pget_ok h8 hres.out.symm
    have hok := HH.out.ok
    have hR : Hid (p.recv b = if k.f ≠ p.peer then (p, none, 2) else if k.l < p.pl then (p, none, 0) else if p.last < k.a then (p, none, 16)
      else ({ p with pl := k.l, ds := p.ds.drop (k.a - p.first) }, if k.s = p.acc + 1 then some (k.s, k.d) else none, 0)) := Lib.hid (by unfold Se.recv; rw [← hres.out])
    have p1 := hok.peer
    have p2 := hok.pl
    have p3 := hok.last
    have p4 := hok.acc
    go_enter Try.func8, Try.ntmps8
    go_wp2_with fail
    rw [← HW.out]
    refine HM.out.mono ?_
    rintro e w1 ⟨rfl, rfl⟩
    go_wp2_with fail
    refine HU.out.mono ?_
    intro e w1 hO
    unfold OutUnpack at hO
    obtain ⟨hb1, A1, cA, rfl, ho1, hs1⟩ := hO
    have hbA : Below w1.heap.size w1 (w1.alloc (.cells #[.int .i64 (k.f : Int), .int .i64 (k.l : Int), .int .i64 (k.s : Int), .int .i64 (k.a : Int), .slice A1 k.d.length cA] 34)) := (Below.refl _ _).alloc (Nat.le_refl _) _
    have n1 := heap_new w1 (.cells #[.int .i64 (k.f : Int), .int .i64 (k.l : Int), .int .i64 (k.s : Int), .int .i64 (k.a : Int), .slice A1 k.d.length cA] 34)
    obtain ⟨V, hV⟩ : ∃ V, V = w1.alloc (.cells #[.int .i64 (k.f : Int), .int .i64 (k.l : Int), .int .i64 (k.s : Int), .int .i64 (k.a : Int), .slice A1 k.d.length cA] 34) := ⟨_, rfl⟩
    obtain ⟨G, hG⟩ : ∃ G, G = w1.heap.size := ⟨_, rfl⟩
    have hB0 : w.heap.size < w1.heap.size := lt_heap (heap_below Q0.out hb1)
    have hGW : W.heap.size ≤ w1.heap.size := hb1.size
    go_wp2_with fail
    rw [← hV] at n1 hbA ⊢
    rw [← hG] at n1 hB0 hGW ⊢
    have HN := Lib.hid n1
    have QV := Lib.hid (heap_below (heap_below Q0.out hb1) hbA)
    have HSV := Lib.hid ((HS.out.below hb1).below hbA)
    have HOV := Lib.hid (ho1.below hbA (Nat.le_refl _))
    have HBV := Lib.hid (nxt (nxt HWb.out hb1) hbA)
    have hqV : q < w.heap.size := HH.out.lt
    have hGV : G < V.heap.size := lt_heap n1
    clear n1 hbA hV hG ho1 hs1 hb1 HM HU
    obtain ⟨d0, d1, d2, d3, d4⟩ := box5f HN.out
    obtain ⟨u, L, hr, hqb, ho, hh, hi, -⟩ := HSV.out
    obtain ⟨c0, c1, c2, c3, c4, c5, c6, c7, c8⟩ := box9 hh
    have e0 := cell_block QV.out 0
    have e1 := cell_block QV.out 1
    have f0 := free_block QV.out 0
    have f1 := free_block QV.out 1
    clear c0 c1 c3 c5 c6 c7 d4 d2
    have HHH := Lib.hid hh
    have HOO := Lib.hid ho
    have HII := Lib.hid hi
    have HRR := Lib.hid hr
    clear hh ho hi hr
    by_cases g1 : k.f = p.peer
    · have k1 : ((k.f : Int) != (p.peer : Int)) = false := by rw [g1]; simp
      rw [if_neg (by simp [g1])] at hR
      clear g1
      go_region
      go_wp2_with fail
      by_cases g2 : k.l < p.pl
      · have k2 : decide ((k.l : Int) < (p.pl : Int)) = true := decide_eq_true (by omega)
        have k2' : decide (k.l < p.pl) = true := decide_eq_true g2
        rw [if_pos g2] at hR
        clear g2
        go_region
        go_wp2_with fail
        have q2 := heap_set (heap_set QV.out 0 (.int .i64 0)) 1 (.slice none 0 0)
        have y0 := cell_block q2 0
        have y1 := cell_block q2 1
        refine bodyPost_ret (v := .tuple #[.agg #[.int .i64 0, .slice none 0 0], .bool false, .int .i64 0]) (by simp [results, Try.results8, go_sem, y0, y1]) rfl ?_
        exact recv_same HH.out hR.out (bel_drew' (bel_drew' ((HBV.out.setCell (Nat.le_refl _) _).setCell (Nat.le_refl _) _))) rfl
      have k2 : decide ((k.l : Int) < (p.pl : Int)) = false := decide_eq_false (by omega)
      have k2' : decide (k.l < p.pl) = false := decide_eq_false g2
      rw [if_neg g2] at hR
      go_region
      go_wp2_with fail
      by_cases g3 : p.last < k.a
      · have k3 : decide ((k.a : Int) > (p.last : Int)) = true := decide_eq_true (by omega)
        have k3' : decide ((p.last : Int) < (k.a : Int)) = true := decide_eq_true (by omega)
        have k3'' : decide (p.last < k.a) = true := decide_eq_true g3
        rw [if_pos g3] at hR
        clear g3
        go_region
        go_wp2_with fail
        have q2 := heap_set (heap_set QV.out 0 (.int .i64 0)) 1 (.slice none 0 0)
        have y0 := cell_block q2 0
        have y1 := cell_block q2 1
        refine bodyPost_ret (v := .tuple #[.agg #[.int .i64 0, .slice none 0 0], .bool false, .int .i64 16]) (by simp [results, Try.results8, go_sem, y0, y1]) rfl ?_
        exact recv_same HH.out hR.out (bel_drew' (bel_drew' (bel_drew' ((HBV.out.setCell (Nat.le_refl _) _).setCell (Nat.le_refl _) _)))) rfl
      have k3 : decide ((k.a : Int) > (p.last : Int)) = false := decide_eq_false (by omega)
      have k3' : decide ((p.last : Int) < (k.a : Int)) = false := decide_eq_false (by omega)
      have k3'' : decide (p.last < k.a) = false := decide_eq_false g3
      rw [if_neg g3] at hR
      have f8 := free_block HHH.out 8
      have c5 := cell_block HHH.out 5
      go_region
      go_wp2_with fail
      obtain ⟨X, hX⟩ : ∃ X, X = (V.setCell ⟨q, 8, none⟩ (.int .i64 (k.l : Int))).drew.drew.drew := ⟨_, rfl⟩
      have hqG : q ≠ G := by omega
      have hqB : q ≠ w.heap.size := by omega
      have hGq : G ≠ q := by omega
      have hBq : w.heap.size ≠ q := by omega
      have xq : X.heap[q]? = some (.cells #[.pointer (some ⟨q, 0, none⟩), .int .i64 (p.node : Int), .int .i64 (p.peer : Int), .int .i64 (p.life : Int), .int .i64 (p.last : Int), u, .int .i64 (p.done : Int), .int .i64 (p.acc : Int), .int .i64 (k.l : Int)] 77 (0, 0)) := by
        rw [hX]; exact heap_set HHH.out 8 _
      have xG : X.heap[G]? = some (.cells #[.int .i64 (k.f : Int), .int .i64 (k.l : Int), .int .i64 (k.s : Int), .int .i64 (k.a : Int), .slice A1 k.d.length cA] 34 (0, 0)) := by
        rw [hX]; exact heap_set_ne HN.out (fun e => hqG e.symm) 8 _
      have xB : X.heap[w.heap.size]? = some (.cells #[.int .i64 0, .slice none 0 0] 27 (0, 0)) := by
        rw [hX]; exact heap_set_ne QV.out (fun e => hqB e.symm) 8 _
      have xo : X.ownsRow base 27 2 u L.length (iCs L) := by
        rw [hX]; exact irow_kept HOO.out (fun g hg => Below.heap_setCell _ _ _ _ (fun e => irow_ne HOO.out HHH.out (by decide) (by rw [hg, e])))
      have xu : ∀ (b : Nat) (cur : Array Value) (fr : Nat × Nat), V.heap[b]? = some (.cells cur 5 fr) → X.heap[b]? = V.heap[b]? := fun b cur fr hb' => by
        rw [hX]
        refine Below.heap_setCell _ _ _ _ (fun e => ?_)
        dsimp only at e
        subst e
        rw [HHH.out] at hb'
        exact absurd (by injection hb' with hb'; injection hb') (show ¬ 77 = 5 by decide)
      have xs : X.heap.size = V.heap.size := by rw [hX]; simp [World.setCell]
      have xi : Its X p.first p.ds L := HII.out.keep (by omega) xu
      have xk : Kr q r w X := by rw [hX]; exact (((Kr.of_below HBV.out).set 8 _).drew.drew).drew
      have xw : Own X W.heap.size (.slice A1 k.d.length cA) k.d := by
        rw [hX]
        exact World.ownsRow.kept (row := some q) HOV.out ⟨rfl, rfl, rfl, by simp [World.setCell], fun j _ hk => Below.heap_setCell _ _ _ _ (fun e => hk (by rw [e]))⟩ (.inr (fun h => by
          have := (World.ownsRow.lt HOV.out _ h).1
          omega))
      have hfew := hok.few
      have hlen := xi.len
      have HD := Lib.hid (delfi_row xG (by omega) xo)
      have hrd : resti L (k.a : Int) = L.drop (k.a - p.first) := resti_drop xi k.a
      rw [hrd] at HD
      have hld : (L.drop (k.a - p.first)).length = p.ds.length - (k.a - p.first) := by rw [List.length_drop, hlen]
      obtain ⟨m, hm⟩ : ∃ m, Hid ((L.drop (k.a - p.first)).length = m) := ⟨_, Lib.hid rfl⟩
      rw [hm.out] at HD
      rw [← hX]
      clear hrd k1 k2 k2' k3 k3' k3'' d0 d1 d3 c2 c4 c8 e0 e1 f0 f1 f8 c5 g2
      refine HD.out.mono ?_
      rintro e w2 ⟨A2, c2, rfl, hob, ho2, hg2⟩
      have hqr : u.ownBlock ≠ some q := irow_ne xo xq (by decide)
      have y2q := (hg2.block q (lt_heap xq) (fun e => hqr e.symm)).trans xq
      have y2G := (hg2.block G (lt_heap xG) (fun e => irow_ne xo xG (by decide) e.symm)).trans xG
      have hqlow : base ≤ q := hqb
      have hrB : ∀ g, u.ownBlock = some g → g < w.heap.size := fun g e => (HH.out.row_lt (HRR.out.symm.trans e)).2
      have y2B := (hg2.block w.heap.size (lt_heap xB) (fun e => by have := hrB _ e.symm; omega)).trans xB
      have f5 := free_block y2q 5
      have hokp := Se.recv_ok (b := b) h8 hok
      rw [hR.out] at hokp
      have hokp' : ({ p with pl := k.l, ds := p.ds.drop (k.a - p.first) } : Se).Ok := hokp
      obtain ⟨Y, hY⟩ : ∃ Y, Y = w2.setCell ⟨q, 5, none⟩ (.slice A2 m c2) := ⟨_, rfl⟩
      have Yq : Y.heap[q]? = some (.cells #[.pointer (some ⟨q, 0, none⟩), .int .i64 (p.node : Int), .int .i64 (p.peer : Int), .int .i64 (p.life : Int), .int .i64 (p.last : Int), .slice A2 m c2, .int .i64 (p.done : Int), .int .i64 (p.acc : Int), .int .i64 (k.l : Int)] 77 (0, 0)) := by
        rw [hY]; exact heap_set y2q 5 _
      have YG : Y.heap[G]? = some (.cells #[.int .i64 (k.f : Int), .int .i64 (k.l : Int), .int .i64 (k.s : Int), .int .i64 (k.a : Int), .slice A1 k.d.length cA] 34 (0, 0)) := by
        rw [hY]; exact heap_set_ne y2G (fun e => hqG e.symm) 5 _
      have YB : Y.heap[w.heap.size]? = some (.cells #[.int .i64 0, .slice none 0 0] 27 (0, 0)) := by
        rw [hY]; exact heap_set_ne y2B (fun e => hqB e.symm) 5 _
      have Yo : Y.ownsRow base 27 2 (.slice A2 m c2) (L.drop (k.a - p.first)).length (iCs (L.drop (k.a - p.first))) := by
        rw [hY, hm.out]
        have h1 := ho2
        rw [← hm.out] at h1 ⊢
        exact irow_kept h1 (fun g hg => Below.heap_setCell _ _ _ _ (fun e => irow_ne h1 y2q (by decide) (by rw [hg, e])))
      have Ys : Y.heap.size = w2.heap.size := by rw [hY]; simp [World.setCell]
      have hs2 := hg2.size
      have YS : SeAt Y base q r { p with pl := k.l, ds := p.ds.drop (k.a - p.first) } := by
        refine ⟨.slice A2 m c2, L.drop (k.a - p.first), hob.trans HRR.out, hqb, Yo, Yq, ?_, hokp'⟩
        have hfi : ({ p with pl := k.l, ds := p.ds.drop (k.a - p.first) } : Se).first = p.first + (k.a - p.first) := by
          unfold Se.first
          simp
          omega
        rw [hfi]
        refine (xi.drop (k.a - p.first)).keep (by omega) (fun b cur fr hb' => ?_)
        rw [hY]
        refine (Below.heap_setCell _ _ _ _ (fun e => ?_)).trans (hg2.block b (lt_heap hb') (fun e => irow_ne xo hb' (by decide) e.symm))
        dsimp only at e
        subst e
        rw [xq] at hb'
        exact absurd (by injection hb' with hb'; injection hb') (show ¬ 77 = 5 by decide)
      have Yk : Kr q r w Y := by rw [hY]; exact (xk.grown (.inl HRR.out) hg2).set 5 _
      have Yw : Own Y W.heap.size (.slice A1 k.d.length cA) k.d := by
        rw [hY]
        have h1 : Own w2 W.heap.size (.slice A1 k.d.length cA) k.d := by
          refine xw.kept hg2 ?_
          cases hv : Value.ownBlock (.slice A1 k.d.length cA) with
          | none => exact .inl rfl
          | some g =>
            refine .inr (fun e => ?_)
            have e1 := (xw.blk hv).1
            have e2 := hrB g e.symm
            omega
        exact World.ownsRow.kept (row := some q) h1 ⟨rfl, rfl, rfl, by simp [World.setCell], fun j _ hk => Below.heap_setCell _ _ _ _ (fun e => hk (by rw [e]))⟩ (.inr (fun h => by
          have := (World.ownsRow.lt h1 _ h).1
          omega))
      have NX := Lib.hid (next_any YS (k.s : Int))
      obtain ⟨b0, hb0⟩ : ∃ b0, Hid (decide (k.s = p.acc + 1) = b0) := ⟨_, Lib.hid rfl⟩
      have hdd : decide ((k.s : Int) = ((({ p with pl := k.l, ds := p.ds.drop (k.a - p.first) } : Se).acc : Nat) : Int) + 1) = b0 := by
        rw [← hb0.out]
        exact decide_eq_decide.2 (by show (k.s : Int) = (p.acc : Int) + 1 ↔ _; omega)
      rw [hdd] at NX
      have YGh := Lib.hid YG
      have YBh := Lib.hid YB
      have YSh := Lib.hid YS
      have Ykh := Lib.hid Yk
      have Ywh := Lib.hid Yw
      have hlow : base ≤ q := hqb
      have e0 := cell_block YB 0
      have e1 := cell_block YB 1
      have g0 := free_block YB 0
      have g1 := free_block YB 1
      have t2 := cell_block y2G 2
      have t5 := cell_block y2q 5
      have d2 := cell_block YG 2
      have d4 := cell_block YG 4
      have HYY := Lib.hid hY
      have hrB' := Lib.hid hrB
      have hRRh := HRR
      clear hdd YG YB YS Yk Yw Yo Yq hY hokp hokp' y2q y2G y2B xq xG xB xo xu xs xi xk xw hob ho2 hg2 hqr hX hrB hld hlen HD hs2
      go_wp2_with fail
      rw [← HYY.out]
      clear HYY Ys f5 t2 t5
      refine NX.out.mono ?_
      rintro e w4 ⟨rfl, rfl⟩
      cases b0 with
      | true =>
        have hg4 : k.s = p.acc + 1 := of_decide_eq_true hb0.out
        rw [if_pos hg4] at hR
        clear hb0 hg4
        go_wp2_with fail
        have q2 := heap_set (heap_set YBh.out 0 (.int .i64 (k.s : Int))) 1 (.slice A1 k.d.length cA)
        have y0 := cell_block q2 0
        have y1 := cell_block q2 1
        refine bodyPost_ret (v := .tuple #[.agg #[.int .i64 (k.s : Int), .slice A1 k.d.length cA], .bool true, .int .i64 0]) (by simp [results, Try.results8, go_sem, y0, y1]) rfl ?_
        have hgr : Y.grownBy ((Y.setCell ⟨w.heap.size, 0, none⟩ (.int .i64 (k.s : Int))).setCell ⟨w.heap.size, 1, none⟩ (.slice A1 k.d.length cA)) (some w.heap.size) := ((Kp.refl w.heap.size Y).set rfl _).set rfl _
        refine ⟨?_, ?_⟩
        · rw [hR.out]
          exact ⟨r, seat_beside YSh.out hgr (fun e => hqB e.symm) (fun e => by have := hrB'.out w.heap.size (hRRh.out.trans e); omega) YBh.out, (Ykh.out.setNew (x := ⟨w.heap.size, 0, none⟩) (Nat.le_refl _) _).setNew (x := ⟨w.heap.size, 1, none⟩) (Nat.le_refl _) _, .inl rfl⟩
        · rw [hR.out]
          have ho4 : Own ((Y.setCell ⟨w.heap.size, 0, none⟩ (.int .i64 (k.s : Int))).setCell ⟨w.heap.size, 1, none⟩ (.slice A1 k.d.length cA)) W.heap.size (.slice A1 k.d.length cA) k.d := Ywh.out.kept hgr (.inr (fun h => by
            have := (World.ownsRow.lt Ywh.out _ h).1
            have := lt_heap Q0.out
            omega))
          exact ⟨A1, cA, rfl, ho4.mono hsz, Bs.of_own ho4 a6⟩
      | false =>
        have hg4 : ¬ k.s = p.acc + 1 := of_decide_eq_false hb0.out
        rw [if_neg hg4] at hR
        clear hb0 hg4
        go_wp2_with fail
        have q2 := heap_set (heap_set YBh.out 0 (.int .i64 0)) 1 (.slice none 0 0)
        have y0 := cell_block q2 0
        have y1 := cell_block q2 1
        refine bodyPost_ret (v := .tuple #[.agg #[.int .i64 0, .slice none 0 0], .bool false, .int .i64 0]) (by simp [results, Try.results8, go_sem, y0, y1]) rfl ?_
        have hgr : Y.grownBy ((Y.setCell ⟨w.heap.size, 0, none⟩ (.int .i64 0)).setCell ⟨w.heap.size, 1, none⟩ (.slice none 0 0)) (some w.heap.size) := ((Kp.refl w.heap.size Y).set rfl _).set rfl _
        refine ⟨?_, ?_⟩
        · rw [hR.out]
          exact ⟨r, seat_beside YSh.out hgr (fun e => hqB e.symm) (fun e => by have := hrB'.out w.heap.size (hRRh.out.trans e); omega) YBh.out, (Ykh.out.setNew (x := ⟨w.heap.size, 0, none⟩) (Nat.le_refl _) _).setNew (x := ⟨w.heap.size, 1, none⟩) (Nat.le_refl _) _, .inl rfl⟩
        · rw [hR.out]
          rfl
    · have k1 : ((k.f : Int) != (p.peer : Int)) = true := bne_iff_ne.2 (by omega)
      rw [if_pos g1] at hR
      clear g1
      go_region
      go_wp2_with fail
      have q2 := heap_set (heap_set QV.out 0 (.int .i64 0)) 1 (.slice none 0 0)
      have y0 := cell_block q2 0
      have y1 := cell_block q2 1
      refine bodyPost_ret (v := .tuple #[.agg #[.int .i64 0, .slice none 0 0], .bool false, .int .i64 2]) (by simp [results, Try.results8, go_sem, y0, y1]) rfl ?_
      exact recv_same HH.out hR.out (bel_drew' ((HBV.out.setCell (Nat.le_refl _) _).setCell (Nat.le_refl _) _)) rfl
end
end Go.Proofs.Ytjhopajhcmkllaa
