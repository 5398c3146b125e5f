/- drover/net's Look, Send, Copy: the walks. -/
import Derived.Test.YtjhopajhcmkllaaNb
import Derived.Deep.RegionLaw
import Derived.Says
import Derived.Laws.EntriesVeiled
namespace Go.Proofs.Ytjhopajhcmkllaa
open Go.RowKit

section
variable {w w' : World} {base q N : Nat} {r r' : Option Nat} {l : List Gr}
theorem bel_drew {B : Nat} {a b : World} (h : Below B a b) : Below B a b.drew := ⟨h.os, h.tape, h.output, h.size, h.block⟩
def gz : Gr := ⟨0, 0, []⟩
/-- What Look tells: nothing, or a datagram with its bytes in new memory. -/
def LookP (w : World) (x : Option Gr) (e : Ending) (w' : World) : Prop := Below w.heap.size w w' ∧
  match x with
  | none => e = .returned (.tuple #[.agg #[.int .i64 0, .int .i64 0, .slice none 0 0], .bool false])
  | some g => ∃ b c cur fr, e = .returned (.tuple #[.agg #[.int .i64 g.fr, .int .i64 g.to, .slice (some ⟨b, 0, none⟩) g.d.length c], .bool true]) ∧ w.heap.size ≤ b ∧ w'.heap[b]? = some (.cells cur 5 fr) ∧ Bs w' (.slice (some ⟨b, 0, none⟩) g.d.length c) g.d ∧ ∀ j, j < g.d.length → w'.frozen? ⟨b, j, none⟩ = false
def nthG (l : List Gr) (i : Int) : Option Gr := if 0 ≤ i then l[i.toNat]? else none
theorem conv_free (s : List Nat) (w v : World) (j : Nat) (hj : j < s.length) : (w.alloc (convO v s)).frozen? ⟨w.heap.size, j, none⟩ = false := by
  have hh : (w.alloc (convO v s)).heap[w.heap.size]? = some (convO v s) := heap_new _ _
  have h1 := bytesRow_at (strOf s) (convC v s) j (by show j < (strOf s).size; rw [strOf_size]; exact hj)
  have h2 := (Array.getElem?_eq_some_iff.1 h1).1
  unfold World.frozen?
  dsimp only
  rw [hh]
  simp [convO]
  omega
set_option maxRecDepth 100000 in
set_option maxHeartbeats 800000 in
theorem look_any (h : NtAt w base q r N l) (i : Int) : Calls Try.prog 59 #[.pointer (some ⟨q, 0, none⟩), .int .i64 i] w fun e w' => LookP w (nthG l i) e w' := by
  have hW := (Below.refl w.heap.size w).alloc (Nat.le_refl _) (.cells #[.int .i64 0, .int .i64 0, .slice none 0 0] 65)
  have HF := Lib.hid (flies_any (h.below hW) i)
  by_cases hi : 0 ≤ i ∧ i < (l.length : Int)
  · obtain ⟨k, rfl⟩ : ∃ k : Nat, i = (k : Int) := ⟨i.toNat, by omega⟩
    have hk : k < l.length := by omega
    have hb : hasB l.length (k : Int) = true := by simp [hasB, hk]
    have hn : nthG l (k : Int) = some l[k] := by unfold nthG; rw [if_pos (by omega)]; simp [hk]
    rw [hb] at HF
    rw [hn]
    have hx : l[k]? = some l[k] := List.getElem?_eq_getElem hk
    generalize l[k] = x at *
    have hok := h.ok x (List.mem_of_getElem? hx)
    obtain ⟨v, -, -, ho, hh, -⟩ := h
    rcases row_form ho with ⟨rfl, rfl⟩ | ⟨g, c, rfl, hg⟩
    · simp at hk
    obtain ⟨⟨c0, c1, c2⟩, -⟩ := box3 (heap_below hh hW)
    have hg1 : Gw (w.alloc (.cells #[.int .i64 0, .int .i64 0, .slice none 0 0] 65)) base g c l := hg.same (hW.block g hg.lt)
    have x0 := hg1.cell hx (j := 0) (by omega)
    have x1 := hg1.cell hx (j := 1) (by omega)
    have x2 := hg1.cell hx (j := 2) (by omega)
    simp only [gC, Nat.add_zero, List.getElem?_cons_zero, List.getElem?_cons_succ] at x0 x1 x2
    have q0 := heap_new w (.cells #[.int .i64 0, .int .i64 0, .slice none 0 0] 65)
    have hcv := conv_any x.d
    go_enter Try.func59, Try.ntmps59
    go_wp2_with fail
    refine HF.out.mono ?_
    rintro e w1 ⟨rfl, rfl⟩
    go_wp2_with fail
    obtain ⟨V, hV⟩ : ∃ V, V = (w.alloc (.cells #[.int .i64 0, .int .i64 0, .slice none 0 0] 65)).alloc (.cells #[.int .i64 x.fr, .int .i64 x.to, .string (strOf x.d)] 98) := ⟨_, rfl⟩
    rw [← hV]
    have k0 := heap_old (heap_old (heap_new w (.cells #[.int .i64 x.fr, .int .i64 x.to, .slice (some ⟨w.heap.size + 1 + 1, 0, none⟩) x.d.length (convC V x.d)] 65)) (.cells #[.int .i64 x.fr, .int .i64 x.to, .string (strOf x.d)] 98)) (convO V x.d)
    obtain ⟨⟨y0, y1, y2⟩, -⟩ := box3 k0
    refine bodyPost_ret (v := .tuple #[.agg #[.int .i64 x.fr, .int .i64 x.to, .slice (some ⟨w.heap.size + 1 + 1, 0, none⟩) x.d.length (convC V x.d)], .bool true]) (by simp [results, Try.results59, go_sem, y0, y1, y2]) rfl ?_
    refine ⟨bel_drew ((((Below.refl _ w).alloc (Nat.le_refl _) _).alloc (by simp) _).alloc (by simp; omega) _), w.heap.size + 1 + 1, _, _, _, rfl, by omega, heap_new' _ _ _ (by simp), conv_bs _ hok.1 _ _ _ _ (by simp) rfl, fun j hj => ?_⟩
    have := conv_free x.d ((w.alloc (.cells #[.int .i64 x.fr, .int .i64 x.to, .slice (some ⟨w.heap.size + 1 + 1, 0, none⟩) x.d.length (convC V x.d)] 65)).alloc (.cells #[.int .i64 x.fr, .int .i64 x.to, .string (strOf x.d)] 98)) V j hj
    simpa using this
  · have hb : hasB l.length i = false := by
      unfold hasB
      by_cases h0 : 0 ≤ i
      · rw [decide_eq_false (show ¬ i < (l.length : Int) by omega), Bool.and_false]
      · rw [decide_eq_false h0, Bool.false_and]
    have hn : nthG l i = none := by
      unfold nthG
      by_cases h0 : 0 ≤ i
      · rw [if_pos h0, List.getElem?_eq_none (by omega)]
      · rw [if_neg h0]
    rw [hb] at HF
    rw [hn]
    have q0 := heap_new w (.cells #[.int .i64 0, .int .i64 0, .slice none 0 0] 65)
    obtain ⟨⟨y0, y1, y2⟩, -⟩ := box3 q0
    go_enter Try.func59, Try.ntmps59
    go_wp2_with fail
    refine HF.out.mono ?_
    rintro e w1 ⟨rfl, rfl⟩
    go_wp2_with fail
    refine bodyPost_ret (v := .tuple #[.agg #[.int .i64 0, .int .i64 0, .slice none 0 0], .bool false]) (by simp [results, Try.results59, go_sem, y0, y1, y2]) rfl ?_
    exact ⟨hW, rfl⟩
/-- Behind a call the net has these on their way; its row is the elder one, or a new one. -/
def AfterN (w : World) (base q : Nat) (r : Option Nat) (N : Nat) (l : List Gr) (w' : World) : Prop := ∃ r', NtAt w' base q r' N l ∧ Kr q r w w' ∧ Rw w r r'
theorem AfterN.same (h : NtAt w base q r N l) : AfterN w base q r N l w := ⟨r, h, Kr.refl _ _ _, .inl rfl⟩
theorem AfterN.more {l' : List Gr} (h : AfterN w base q r N l w') {w'' : World} {r1 : Option Nat} (k : AfterN w' base q r1 N l' w'') (hr : ∀ r1', NtAt w' base q r1' N l → r1' = r1) : AfterN w base q r N l' w'' := by
  obtain ⟨r2, h1, h2, h3⟩ := h
  obtain ⟨r3, k1, k2, k3⟩ := k
  obtain rfl := hr r2 h1
  exact ⟨r3, k1, h2.trans h3 k2, Rw.trans h2.size h3 k3⟩
theorem step_appg {ops : Array Oper} {o : Oper} {a : Act} {K : Act → World → Prop} {Q : Exit → Act → World → Prop} {E : Prop} {v : Value} (hgd : o.guard = none) (s x : Operand)
    (ho : o.op = .call { callee := .builtin .append, args := #[s, x], argTypes := #[94, 94] })
    (hs : a.eval s = v) (hown : w.ownsRow base 98 3 v l.length (gCs l)) {B : Nat} {A : Option Addr} {c : Nat} {y : Gr} (hx : a.eval x = .slice A 1 c)
    (hr : At w B A (gC y)) (hn : l.length ≤ 4096) (hbase : base ≤ w.heap.size)
    (h : ∀ v' w', w'.ownsRow base 98 3 v' (l ++ [y]).length (gCs (l ++ [y])) → w.grownBy w' v.ownBlock → (v'.ownBlock = v.ownBlock ∨ v'.ownBlock = some w.heap.size) → K (a.put o.dst v') w') :
    if Region.wanted o (yielded ops a.tmps) = true then Oper.wp Try.prog o a w K Q else E := by
  have hw : Region.wanted o (yielded ops a.tmps) = true := by simp [Region.wanted, hgd]
  rw [if_pos hw]
  obtain ⟨i0, hi0, hz0, hz1, hz2⟩ := info_parts gr_info
  refine wp_append_at w s x 94 ho base 98 i0 _ 3 32 Try.underlying94 hi0 hz0 hz1 hz2 rfl (by omega) v l.length (gCs l) hs hown B A 1 c (gC y) hx hr
    (by simp [gC]) (gC_one y) (by unfold maxLen; omega) (by omega) hbase ?_
  intro v' w' h1 h2 h3
  refine h v' w' ?_ h2 h3
  rw [List.length_append, gCs_append, gCs_one]
  exact h1
theorem row_drew {v : Value} (h : w.ownsRow base 98 3 v l.length (gCs l)) : w.drew.ownsRow base 98 3 v l.length (gCs l) := h
theorem row_slice {v : Value} (h : w.ownsRow base 98 3 v l.length (gCs l)) : ∃ A c, v = .slice A l.length c := by
  rcases row_form h with ⟨rfl, rfl⟩ | ⟨g, c, rfl, _⟩
  · exact ⟨none, 0, rfl⟩
  · exact ⟨_, _, rfl⟩
def sendE (N : Nat) (l : List Gr) (fr to : Int) (x : List Nat) : Nat := if hasB N fr = false then 2 else if hasB N to = false then 2 else if 1048640 < x.length then 3 else if 4096 ≤ l.length then 5 else 0
def sendL (N : Nat) (l : List Gr) (fr to : Int) (x : List Nat) : List Gr := if sendE N l fr to x = 0 then l ++ [⟨fr, to, x⟩] else l
set_option maxRecDepth 100000 in
set_option maxHeartbeats 1600000 in
theorem send_ok (h : NtAt w base q r N l) (fr to : Int) (v : Value) (x : List Nat) (hv : Bs w v x) (hE : sendE N l fr to x = 0) : Calls Try.prog 25 #[.pointer (some ⟨q, 0, none⟩), .int .i64 fr, .int .i64 to, v] w fun e w' => e = .returned (.int .i64 0) ∧ AfterN w base q r N (l ++ [⟨fr, to, x⟩]) w' := by
  have HM := Lib.hid (made_any h)
  have HH1 := Lib.hid (has_any h fr)
  have HH2 := Lib.hid (has_any h to)
  have HF := Lib.hid (full_any h)
  unfold sendE at hE
  have b1 : hasB N fr = true := by cases hb : hasB N fr <;> simp_all
  have b2 : hasB N to = true := by cases hb : hasB N to <;> simp_all
  rw [b1, if_neg (by simp), b2, if_neg (by simp)] at hE
  have b3 : ¬ 1048640 < x.length := fun h => by rw [if_pos h] at hE; simp at hE
  rw [if_neg b3] at hE
  have b4 : ¬ 4096 ≤ l.length := fun h => by rw [if_pos h] at hE; simp at hE
  rw [b1] at HH1
  rw [b2] at HH2
  rw [decide_eq_false b4] at HF
  have hlow := h.low
  have hlt := h.lt
  have hok := h.ok
  obtain ⟨u, rfl, hb, ho, hh, -⟩ := id h
  obtain ⟨Au, cu, rfl⟩ := row_slice ho
  obtain ⟨⟨A, c, rfl, hc, ha⟩, h8⟩ := hv
  have hat := At.made w #[.int .i64 fr, .int .i64 to, .string (strOf x)] 98
  have d1 : decide ((x.length : Int) > 1048640) = false := decide_eq_false (by omega)
  have d2 : decide (1048640 < x.length) = false := decide_eq_false b3
  have s1 := run_strOf w _ A c x ha h8
  have s2 := run_strOf w.drew _ A c x ha h8
  obtain ⟨⟨c0, c1, c2⟩, ⟨f0, f1, f2⟩⟩ := box3 hh
  have h9 : x.length ≤ 1048640 := by omega
  clear h b3 hE
  go_enter Try.func25, Try.ntmps25
  go_wp2_with fail
  refine HM.out.mono ?_
  rintro e w1 ⟨rfl, rfl⟩
  go_wp2_with fail
  refine HH1.out.mono ?_
  rintro e w1 ⟨rfl, rfl⟩
  go_wp2_with fail
  refine HH2.out.mono ?_
  rintro e w1 ⟨rfl, rfl⟩
  go_wp2_with fail
  refine HF.out.mono ?_
  rintro e w1 ⟨rfl, rfl⟩
  go_wp2_with fail
  go_region_law
    (refine step_appg (w := (w.alloc (.cells #[.int .i64 fr, .int .i64 to, .string (strOf x)] 98)).drew) (y := ⟨fr, to, x⟩) rfl (.tmp 35) (.tmp 41) rfl rfl (row_drew (ho.alloc _)) rfl hat.drew (by omega) (by show base ≤ (w.alloc _).heap.size; simp; omega) ?_
     intro v3 w3 hown3 hg3 hrow
     have hh3 := (hg3.block q (by show q < (w.alloc _).heap.size; simp; omega) (fun e => row_ne ho hh (by decide) e.symm)).trans (heap_old hh _)
     obtain ⟨⟨z0, z1, z2⟩, ⟨g0, g1, g2⟩⟩ := box3 hh3
     obtain ⟨A3, c3, hv3⟩ := row_slice hown3
     rw [show (l ++ [(⟨fr, to, x⟩ : Gr)]).length = l.length + 1 by simp] at hv3
     subst hv3)
  all_goals
    go_wp2_with fail
    go_ret
    refine ⟨rfl, _, ⟨_, rfl, hb, row_kept hown3 (fun g hg => ?_), heap_set hh3 2 _, ?_, ?_⟩, (((Kr.refl _ _ _).alloc _).drew.grown (.inl rfl) hg3).set _ _, ?_⟩
    · have := row_ne hown3 hh3 (by decide)
      rw [hg] at this
      exact Below.heap_setCell _ _ _ _ (fun e => this (by rw [e]))
    · intro y hy
      rcases List.mem_append.1 hy with hy | hy
      · exact hok y hy
      · simp at hy
        subst hy
        exact ⟨h8, h9⟩
    · simp
      omega
    · rcases hrow with h1 | h1
      · exact .inl h1
      · exact .inr ⟨_, h1, by show w.heap.size ≤ (w.alloc _).heap.size; simp⟩
set_option maxHeartbeats 800000 in
theorem send_any (h : NtAt w base q r N l) (fr to : Int) (v : Value) (x : List Nat) (hv : Bs w v x) : Calls Try.prog 25 #[.pointer (some ⟨q, 0, none⟩), .int .i64 fr, .int .i64 to, v] w fun e w' => e = .returned (.int .i64 (sendE N l fr to x : Int)) ∧ AfterN w base q r N (sendL N l fr to x) w' := by
  by_cases hE : sendE N l fr to x = 0
  · unfold sendL
    rw [if_pos hE, hE]
    exact send_ok h fr to v x hv hE
  unfold sendL
  rw [if_neg hE]
  have HM := Lib.hid (made_any h)
  have HH1 := Lib.hid (has_any h fr)
  have HH2 := Lib.hid (has_any h to)
  have HF := Lib.hid (full_any h)
  have HR := Lib.hid (AfterN.same h)
  obtain ⟨⟨A, c, rfl, hc, ha⟩, h8⟩ := hv
  unfold sendE at *
  clear h
  cases hb : hasB N fr with
  | false =>
    rw [if_pos rfl]
    rw [hb] at HH1
    clear hE
    go_enter Try.func25, Try.ntmps25
    go_wp2_with fail
    refine HM.out.mono ?_
    rintro e w1 ⟨rfl, rfl⟩
    go_wp2_with fail
    refine HH1.out.mono ?_
    rintro e w1 ⟨rfl, rfl⟩
    go_wp2_with fail
    go_ret
    exact ⟨rfl, HR.out⟩
  | true =>
    rw [hb] at HH1
    rw [hb, if_neg (by simp)] at hE
    rw [if_neg (by simp)]
    cases hb2 : hasB N to with
    | false =>
      rw [if_pos rfl]
      rw [hb2] at HH2
      clear hE
      go_enter Try.func25, Try.ntmps25
      go_wp2_with fail
      refine HM.out.mono ?_
      rintro e w1 ⟨rfl, rfl⟩
      go_wp2_with fail
      refine HH1.out.mono ?_
      rintro e w1 ⟨rfl, rfl⟩
      go_wp2_with fail
      refine HH2.out.mono ?_
      rintro e w1 ⟨rfl, rfl⟩
      go_wp2_with fail
      go_ret
      exact ⟨rfl, HR.out⟩
    | true =>
      rw [hb2] at HH2
      rw [hb2, if_neg (by simp)] at hE
      rw [if_neg (by simp)]
      by_cases b3 : 1048640 < x.length
      · have d1 : decide ((x.length : Int) > 1048640) = true := decide_eq_true (by omega)
        have d2 : decide (1048640 < x.length) = true := decide_eq_true b3
        rw [if_pos b3]
        clear b3 hE
        go_enter Try.func25, Try.ntmps25
        go_wp2_with fail
        refine HM.out.mono ?_
        rintro e w1 ⟨rfl, rfl⟩
        go_wp2_with fail
        refine HH1.out.mono ?_
        rintro e w1 ⟨rfl, rfl⟩
        go_wp2_with fail
        refine HH2.out.mono ?_
        rintro e w1 ⟨rfl, rfl⟩
        go_wp2_with fail
        go_ret
        exact ⟨rfl, HR.out⟩
      · have d1 : decide ((x.length : Int) > 1048640) = false := decide_eq_false (by omega)
        have d2 : decide (1048640 < x.length) = false := decide_eq_false b3
        rw [if_neg b3] at hE ⊢
        have b4 : 4096 ≤ l.length := by
          by_cases h : 4096 ≤ l.length
          · exact h
          · rw [if_neg h] at hE
            simp at hE
        rw [if_pos b4]
        rw [decide_eq_true b4] at HF
        clear b3 b4 hE
        go_enter Try.func25, Try.ntmps25
        go_wp2_with fail
        refine HM.out.mono ?_
        rintro e w1 ⟨rfl, rfl⟩
        go_wp2_with fail
        refine HH1.out.mono ?_
        rintro e w1 ⟨rfl, rfl⟩
        go_wp2_with fail
        refine HH2.out.mono ?_
        rintro e w1 ⟨rfl, rfl⟩
        go_wp2_with fail
        refine HF.out.mono ?_
        rintro e w1 ⟨rfl, rfl⟩
        go_wp2_with fail
        go_ret
        exact ⟨rfl, HR.out⟩
def copyE (l : List Gr) (i : Int) : Nat := if hasB l.length i = false then 2 else if 4096 ≤ l.length then 5 else 0
def copyL (l : List Gr) (i : Int) : List Gr := if 4096 ≤ l.length then l else match nthG l i with
  | none => l
  | some x => l ++ [x]
theorem nth_has (l : List Gr) (i : Int) : (hasB l.length i = false ∧ nthG l i = none) ∨ ∃ k : Nat, ∃ hk : k < l.length, i = (k : Int) ∧ hasB l.length i = true ∧ nthG l i = some l[k] := by
  by_cases hi : 0 ≤ i ∧ i < (l.length : Int)
  · obtain ⟨k, rfl⟩ : ∃ k : Nat, i = (k : Int) := ⟨i.toNat, by omega⟩
    have hk : k < l.length := by omega
    exact .inr ⟨k, hk, rfl, by simp [hasB, hk], by unfold nthG; rw [if_pos (by omega)]; simp [hk]⟩
  · refine .inl ⟨?_, ?_⟩
    · unfold hasB
      by_cases h0 : 0 ≤ i
      · rw [decide_eq_false (show ¬ i < (l.length : Int) by omega), Bool.and_false]
      · rw [decide_eq_false h0, Bool.false_and]
    · unfold nthG
      by_cases h0 : 0 ≤ i
      · rw [if_pos h0, List.getElem?_eq_none (by omega)]
      · rw [if_neg h0]
set_option maxRecDepth 100000 in
set_option maxHeartbeats 1600000 in
theorem copy_ok (h : NtAt w base q r N l) (k : Nat) (y : Gr) (hx : l[k]? = some y) (hb4 : ¬ 4096 ≤ l.length) : Calls Try.prog 29 #[.pointer (some ⟨q, 0, none⟩), .int .i64 (k : Int)] w fun e w' => e = .returned (.int .i64 0) ∧ AfterN w base q r N (l ++ [y]) w' := by
  have hk := (List.getElem?_eq_some_iff.1 hx).1
  have HM := Lib.hid (made_any h)
  have HL := Lib.hid (flies_any h (k : Int))
  have HF := Lib.hid (full_any h)
  rw [show hasB l.length (k : Int) = true by simp [hasB, hk]] at HL
  rw [decide_eq_false hb4] at HF
  have hlow := h.low
  have hlt := h.lt
  have hok := h.ok
  obtain ⟨u, rfl, hb, ho, hh, -⟩ := id h
  rcases row_form ho with ⟨rfl, rfl⟩ | ⟨g, cu, rfl, hg⟩
  · simp at hk
  have x0 := hg.cell hx (j := 0) (by omega)
  have x1 := hg.cell hx (j := 1) (by omega)
  have x2 := hg.cell hx (j := 2) (by omega)
  simp only [gC, Nat.add_zero, List.getElem?_cons_zero, List.getElem?_cons_succ] at x0 x1 x2
  have hat := At.made w #[.int .i64 y.fr, .int .i64 y.to, .string (strOf y.d)] 98
  obtain ⟨⟨c0, c1, c2⟩, ⟨f0, f1, f2⟩⟩ := box3 hh
  have hb5 : l.length < 4096 := by omega
  clear h hb4
  go_enter Try.func29, Try.ntmps29
  go_wp2_with fail
  refine HM.out.mono ?_
  rintro e w1 ⟨rfl, rfl⟩
  go_wp2_with fail
  refine HL.out.mono ?_
  rintro e w1 ⟨rfl, rfl⟩
  go_wp2_with fail
  refine HF.out.mono ?_
  rintro e w1 ⟨rfl, rfl⟩
  go_wp2_with fail
  go_region_law
    (refine step_appg (w := (w.alloc (.cells #[.int .i64 y.fr, .int .i64 y.to, .string (strOf y.d)] 98)).drew) (y := y) rfl (.tmp 21) (.tmp 29) rfl rfl (row_drew (ho.alloc _)) rfl hat.drew (by omega) (by show base ≤ (w.alloc _).heap.size; simp; omega) ?_
     intro v3 w3 hown3 hg3 hrow
     have hh3 := (hg3.block q (by show q < (w.alloc _).heap.size; simp; omega) (fun e => row_ne ho hh (by decide) e.symm)).trans (heap_old hh _)
     obtain ⟨⟨z0, z1, z2⟩, ⟨g0, g1, g2⟩⟩ := box3 hh3
     obtain ⟨A3, c3, hv3⟩ := row_slice hown3
     rw [show (l ++ [y]).length = l.length + 1 by simp] at hv3
     subst hv3)
  all_goals
    go_wp2_with fail
    go_ret
    refine ⟨rfl, _, ⟨_, rfl, hb, row_kept hown3 (fun g hg => ?_), heap_set hh3 2 _, ?_, ?_⟩, (((Kr.refl _ _ _).alloc _).drew.grown (.inl rfl) hg3).set _ _, ?_⟩
    · have := row_ne hown3 hh3 (by decide)
      rw [hg] at this
      exact Below.heap_setCell _ _ _ _ (fun e => this (by rw [e]))
    · intro y' hy
      rcases List.mem_append.1 hy with hy | hy
      · exact hok y' hy
      · simp at hy
        subst hy
        exact hok y' (List.mem_of_getElem? hx)
    · simp
      omega
    · rcases hrow with h1 | h1
      · exact .inl h1
      · exact .inr ⟨_, h1, by show w.heap.size ≤ (w.alloc _).heap.size; simp⟩
set_option maxHeartbeats 800000 in
theorem copy_any6 (h : NtAt w base q r N l) (i : Int) : Calls Try.prog 29 #[.pointer (some ⟨q, 0, none⟩), .int .i64 i] w fun e w' => e = .returned (.int .i64 (copyE l i : Int)) ∧ AfterN w base q r N (copyL l i) w' := by
  have HR := Lib.hid (AfterN.same h)
  have HM := Lib.hid (made_any h)
  have HL := Lib.hid (flies_any h i)
  have HF := Lib.hid (full_any h)
  unfold copyE copyL
  rcases nth_has l i with ⟨h1, h2⟩ | ⟨k, hk, rfl, h1, h2⟩
  · rw [h1] at HL
    rw [if_pos h1, h2]
    have e1 : (if 4096 ≤ l.length then l else match (none : Option Gr) with | none => l | some x => l ++ [x]) = l := by split <;> rfl
    rw [e1]
    clear h1 h2 e1 h
    go_enter Try.func29, Try.ntmps29
    go_wp2_with fail
    refine HM.out.mono ?_
    rintro e w1 ⟨rfl, rfl⟩
    go_wp2_with fail
    refine HL.out.mono ?_
    rintro e w1 ⟨rfl, rfl⟩
    go_wp2_with fail
    go_ret
    exact ⟨rfl, HR.out⟩
  · by_cases hb4 : 4096 ≤ l.length
    · rw [h1] at HL
      rw [if_neg (by rw [h1]; simp), if_pos hb4, if_pos hb4]
      rw [decide_eq_true hb4] at HF
      clear h h1 h2 hb4
      go_enter Try.func29, Try.ntmps29
      go_wp2_with fail
      refine HM.out.mono ?_
      rintro e w1 ⟨rfl, rfl⟩
      go_wp2_with fail
      refine HL.out.mono ?_
      rintro e w1 ⟨rfl, rfl⟩
      go_wp2_with fail
      refine HF.out.mono ?_
      rintro e w1 ⟨rfl, rfl⟩
      go_wp2_with fail
      go_ret
      exact ⟨rfl, HR.out⟩
    · rw [if_neg (by rw [h1]; simp), if_neg hb4, if_neg hb4, h2]
      exact copy_ok h k l[k] (List.getElem?_eq_getElem hk) hb4
end
end Go.Proofs.Ytjhopajhcmkllaa
