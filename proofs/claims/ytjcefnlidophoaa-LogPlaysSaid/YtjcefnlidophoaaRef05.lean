/- droverref05.number, Whole: the walks of the document's answer. -/
import Derived.Test.YtjcefnlidophoaaLj
import Derived.Test.YtjcefnlidophoaaRef04
import Derived.BigQuiet
namespace Go.Proofs.Ytjcefnlidophoaa
open Go.RowKit

theorem four_cons {l : List Nat} (h : 4 ≤ l.length) : ∃ x0 x1 x2 x3 r, l = x0 :: x1 :: x2 :: x3 :: r := by
  match l, h with
  | x0 :: x1 :: x2 :: x3 :: r, _ => exact ⟨x0, x1, x2, x3, r, rfl⟩
set_option maxRecDepth 100000 in
set_option maxHeartbeats 1600000 in
theorem refnumber_any (v : Value) (l : List Nat) (w : World) (h : Bs w v l) (h4 : 4 ≤ l.length) :
    Calls Try.prog 171 #[v] w fun e w' => e = .returned (.int .i64 (beN (l.take 4) : Nat)) ∧ ∃ k, w' = w.drewN k := by
  obtain ⟨x0, x1, x2, x3, r, rfl⟩ := four_cons h4
  obtain ⟨⟨A, c, rfl, hc, ha⟩, h8⟩ := h
  obtain ⟨b, o, rfl, hb, hcell⟩ := ha (by simp [bv])
  have b0 : x0 < 256 := h8 x0 (by simp)
  have b1 : x1 < 256 := h8 x1 (by simp)
  have b2 : x2 < 256 := h8 x2 (by simp)
  have b3 : x3 < 256 := h8 x3 (by simp)
  have c0 : w.cell? ⟨b, o, none⟩ = some (.int .u8 (x0 : Int)) := hcell 0 _ rfl
  have c1 : w.cell? ⟨b, o + 1, none⟩ = some (.int .u8 (x1 : Int)) := hcell 1 _ rfl
  have c2 : w.cell? ⟨b, o + 2, none⟩ = some (.int .u8 (x2 : Int)) := hcell 2 _ rfl
  have c3 : w.cell? ⟨b, o + 3, none⟩ = some (.int .u8 (x3 : Int)) := hcell 3 _ rfl
  have HN : Hid (beN ((x0 :: x1 :: x2 :: x3 :: r).take 4) = ((x0 * 256 + x1) * 256 + x2) * 256 + x3) := by show _ = _; simp [beN]
  generalize beN ((x0 :: x1 :: x2 :: x3 :: r).take 4) = z at *
  obtain ⟨n, hn⟩ : ∃ n, (x0 :: x1 :: x2 :: x3 :: r).length = n := ⟨_, rfl⟩
  rw [hn] at h4 hc ⊢
  have y0 : (0 : Int) < (n : Int) := by omega
  have y1 : (1 : Int) < (n : Int) := by omega
  have y2 : (2 : Int) < (n : Int) := by omega
  have y3 : (3 : Int) < (n : Int) := by omega
  have HZ : Hid ((z : Int) = (((x0 : Int) * 256 + x1) * 256 + x2) * 256 + x3) := by
    show _ = _
    rw [HN.out]
    omega
  clear hn hcell h8 ha hb h4 HN
  have s1 : IntKind.i64.wrap ((x0 : Int) * 256) = (x0 : Int) * 256 := by rw [IntKind.wrap_i64]; omega
  have s2 : IntKind.i64.wrap ((x0 : Int) * 256 + x1) = (x0 : Int) * 256 + x1 := by rw [IntKind.wrap_i64]; omega
  have s3 : IntKind.i64.wrap (((x0 : Int) * 256 + x1) * 256) = ((x0 : Int) * 256 + x1) * 256 := by rw [IntKind.wrap_i64]; omega
  have s4 : IntKind.i64.wrap (((x0 : Int) * 256 + x1) * 256 + x2) = ((x0 : Int) * 256 + x1) * 256 + x2 := by rw [IntKind.wrap_i64]; omega
  have s5 : IntKind.i64.wrap ((((x0 : Int) * 256 + x1) * 256 + x2) * 256) = (((x0 : Int) * 256 + x1) * 256 + x2) * 256 := by rw [IntKind.wrap_i64]; omega
  have s6 : IntKind.i64.wrap ((((x0 : Int) * 256 + x1) * 256 + x2) * 256 + x3) = (((x0 : Int) * 256 + x1) * 256 + x2) * 256 + x3 := by rw [IntKind.wrap_i64]; omega
  have k0 : IntKind.i64.wrap (x0 : Int) = (x0 : Int) := by rw [IntKind.wrap_i64]; omega
  have k1 : IntKind.i64.wrap (x1 : Int) = (x1 : Int) := by rw [IntKind.wrap_i64]; omega
  have k2 : IntKind.i64.wrap (x2 : Int) = (x2 : Int) := by rw [IntKind.wrap_i64]; omega
  have k3 : IntKind.i64.wrap (x3 : Int) = (x3 : Int) := by rw [IntKind.wrap_i64]; omega
  go_enter Try.func171, Try.ntmps171
  go_wp2_with fail
  go_quiet (fail)
  go_wp2_with fail
  go_ret
  rw [HZ.out]
  exact ⟨rfl, _, rfl⟩
/-- A number and its error, as the loop of Whole tells where it ends. -/
theorem lfirst_less (l : List Nat) (h : l.length < 8) : lfirst l = [] := by unfold lfirst; rw [if_pos h]
theorem lfirst_zero (l : List Nat) (h : beN (l.take 4) < 1) : lfirst l = [] := by
  have h0 : beN (l.take 4) = 0 := by omega
  unfold lfirst
  rw [h0]
  simp
  intro _
  exact ite_self _
theorem lfirst_much (l : List Nat) (h : 1048576 < beN (l.take 4)) : lfirst l = [] := by
  unfold lfirst
  split
  · rfl
  · first | rfl | rw [if_pos h]
theorem lfirst_long (l : List Nat) (h : l.length - 8 < beN (l.take 4)) : lfirst l = [] := by
  unfold lfirst
  split
  · rfl
  · split
    · rfl
    · first | rfl | rw [if_pos h]
theorem lfirst_sum (l : List Nat) (h : crcN ((l.drop 8).take (beN (l.take 4))) ≠ beN ((l.drop 4).take 4)) : lfirst l = [] := by
  unfold lfirst
  split
  · rfl
  · split
    · rfl
    · split
      · rfl
      · rw [if_neg (fun e => h e.symm)]
theorem lfirst_some (l : List Nat) (h0 : ¬ l.length < 8) (h1 : ¬ 1048576 < beN (l.take 4)) (h2 : ¬ l.length - 8 < beN (l.take 4)) (h3 : crcN ((l.drop 8).take (beN (l.take 4))) = beN ((l.drop 4).take 4)) : lfirst l = (l.drop 8).take (beN (l.take 4)) := by
  unfold lfirst
  rw [if_neg h0, if_neg h1, if_neg h2, if_pos h3.symm]
theorem be4_small {l : List Nat} (h8 : ∀ x ∈ l, x < 256) : beN (l.take 4) < 4294967296 := Nat.lt_of_lt_of_le (beN_lt _ (fun x hx => h8 x (List.mem_of_mem_take hx))) (by
      have : (l.take 4).length ≤ 4 := by simp; omega
      exact Nat.le_trans (Nat.pow_le_pow_right (n := 256) (by omega) this) (by decide))
theorem whole_ret {w wr : World} {l : List Nat} {ns : List (List Nat)} {vs : List Value} {u : Value} {a : Nat} (h0 : lfirst (l.drop a) = []) (hsz : a = (lrecs ns).length) (hwh : whole l = ns ++ whole (l.drop a)) (hown : wr.ownsRow w.heap.size 27 1 u ns.length vs) (hbl : Blk wr w.heap.size vs ns) (hbr : Below w.heap.size w wr) :
    ∃ u' vs', Ending.returned (.tuple #[u, .int .i64 (a : Int)]) = .returned (.tuple #[u', .int .i64 ((lrecs (whole l)).length : Int)]) ∧ wr.ownsRow w.heap.size 27 1 u' (whole l).length vs' ∧ Blk wr w.heap.size vs' (whole l) ∧ Below w.heap.size w wr := by
  rw [whole_end _ h0, List.append_nil] at hwh
  rw [hwh]
  exact ⟨u, vs, by rw [hsz], hown, hbl, hbr⟩
set_option maxRecDepth 100000 in
set_option maxHeartbeats 3200000 in
theorem refwhole_any (v : Value) (l : List Nat) (w : World) (hv : Bs w v l) (hn : l.length ≤ 67108864) :
    Calls Try.prog 108 #[v] w fun e w' => ∃ u vs, e = .returned (.tuple #[u, .int .i64 ((lrecs (whole l)).length : Int)]) ∧ w'.ownsRow w.heap.size 27 1 u (whole l).length vs ∧ Blk w' w.heap.size vs (whole l) ∧ Below w.heap.size w w' := by
  have hv0 := Lib.hid hv
  have h8 := Lib.hid hv.2
  obtain ⟨⟨A, c, rfl, hc, ha⟩, -⟩ := hv
  obtain ⟨i0, hi0, hz0, hz1, hz2⟩ := info_parts blk_info
  go_enter Try.func108, Try.ntmps108
  go_wp2_with fail
  go_loopw [4, 5] (fun q i wr => ∃ (a : Nat) (ns : List (List Nat)) (vs : List Value), i = .int .i64 (a : Int) ∧ a ≤ l.length ∧ ns.length ≤ a ∧ Hid (a = (lrecs ns).length) ∧ Hid (whole l = ns ++ whole (l.drop a)) ∧ Hid (wr.ownsRow w.heap.size 27 1 q ns.length vs) ∧ Hid (Blk wr w.heap.size vs ns) ∧ Below w.heap.size w wr) (fun _ i _ => l.length - (intOf i).toNat)
  case atStart => exact ⟨0, [], [], rfl, Nat.zero_le _, Nat.le_refl _, Lib.hid rfl, Lib.hid rfl, Lib.hid (World.ownsRow_nil _ _ _ _), Lib.hid (Blk.nil _ _), Below.refl _ _⟩
  case round =>
    obtain ⟨a, ns, vs, rfl, hal, hna, hsz, hwh, hown, hbl, hbr⟩ := hrel
    by_cases hlt : l.length < a + 8
    · have t1 : decide ((8 : Int) ≤ (l.length : Int) - (a : Int)) = false := decide_eq_false (by omega)
      have H0 := Lib.hid (lfirst_less (l.drop a) (by rw [List.length_drop]; omega))
      go_wp2_with fail
      go_ret2
      exact whole_ret H0.out hsz.out hwh.out hown.out hbl.out hbr
    · have t1 : decide ((8 : Int) ≤ (l.length : Int) - (a : Int)) = true := decide_eq_true (by omega)
      have hvr := hv0.out.below hbr
      obtain ⟨b, o, rfl, hb, -⟩ := ha (by intro h0; have := congrArg List.length h0; rw [bv_length, List.length_nil] at this; omega)
      have hvd := hvr.drop a hal
      rw [if_neg (by omega), Option.map_some, Addr.add_lit] at hvd
      have hvd : Bs wr (.slice (some ⟨b, o + a, none⟩) (l.length - a) (c - a)) (l.drop a) := hvd
      have hX : (l.drop a).length = l.length - a := List.length_drop
      have HA := Lib.hid (lfirst_zero (l.drop a))
      have HB := Lib.hid (lfirst_much (l.drop a))
      have HC := Lib.hid (lfirst_long (l.drop a))
      have HD := Lib.hid (lfirst_sum (l.drop a))
      have HE := Lib.hid (lfirst_some (l.drop a) (by rw [hX]; omega))
      have hz4 := be4_small (l := l.drop a) hvd.2
      have HW := Lib.hid (whole_ret (w := w) (wr := wr) (l := l) (ns := ns) (vs := vs) (u := u4) (a := a))
      have hnum := Lib.hid (refnumber_any _ (l.drop a) wr hvd (by rw [hX]; omega))
      rw [hX] at HC HE
      have hv4 := hvd.drop 4 (by omega)
      rw [if_neg (by omega), Option.map_some, Addr.add_lit] at hv4
      have hv4 : Bs wr (.slice (some ⟨b, o + a + 4, none⟩) (l.length - a - 4) (c - a - 4)) ((l.drop a).drop 4) := hv4
      have hn4 : ∀ k m, Calls Try.prog 171 #[.slice (some ⟨b, o + a + 4, none⟩) (l.length - a - 4) (c - a - 4)] ((wr.drewN k).drewN m) fun e w' => e = .returned (.int .i64 (beN (((l.drop a).drop 4).take 4) : Nat)) ∧ ∃ j, w' = ((wr.drewN k).drewN m).drewN j :=
        fun k m => refnumber_any _ _ _ (show Bs ((wr.drewN k).drewN m) _ _ from hv4) (by rw [List.length_drop, hX]; omega)
      have HN4 := Lib.hid hn4
      clear hn4 hv4 hX
      have hX8 := Lib.hid (show ∀ y ∈ ((l.drop a).drop 8).take (beN ((l.drop a).take 4)), y < 256 from fun y hy => h8.out y (List.mem_of_mem_drop (List.mem_of_mem_drop (List.mem_of_mem_take hy))))
      have hXl : Hid (beN ((l.drop a).take 4) ≤ l.length - a - 8 → (((l.drop a).drop 8).take (beN ((l.drop a).take 4))).length = beN ((l.drop a).take 4)) := fun h => by rw [List.length_take, List.length_drop, List.length_drop]; omega
      have hv8 : Hid (∀ k : Nat, beN ((l.drop a).take 4) ≤ l.length - a - 8 → 1 ≤ beN ((l.drop a).take 4) → Bs (wr.drewN k) (.slice (some ⟨b, o + (a + 8), none⟩) (beN ((l.drop a).take 4)) (c - (a + 8))) (((l.drop a).drop 8).take (beN ((l.drop a).take 4)))) := fun k h1 h2 => by
        have h := hvr.drop (a + 8) (by omega)
        rw [if_neg (by omega), Option.map_some, Addr.add_lit] at h
        have h' := h.pre (beN ((l.drop a).take 4)) (by omega)
        rw [List.drop_drop]
        exact h'.drewN k
      have hws := Lib.hid (whole_step (l.drop a))
      rw [List.drop_drop] at hws
      clear hvd hvr
      generalize ((l.drop a).drop 8).take (beN ((l.drop a).take 4)) = X at *
      generalize beN (((l.drop a).drop 4).take 4) = s4 at *
      generalize beN ((l.drop a).take 4) = z at *
      generalize hF : lfirst (l.drop a) = F at *
      have HF := Lib.hid hF
      clear hF
      go_wp2_with fail
      refine hnum.out.mono ?_
      rintro e w1 ⟨rfl, k1, hk1⟩
      have hbr1 : Below w.heap.size w w1 := by rw [hk1]; exact below_drewN hbr k1
      have hown1 : Hid (w1.ownsRow w.heap.size 27 1 u4 ns.length vs) := by rw [hk1]; exact hown
      have hbl1 : Hid (Blk w1 w.heap.size vs ns) := by rw [hk1]; exact Lib.hid (hbl.out.below (below_drewN (Below.refl _ _) k1))
      have HN5 : Hid (∀ m, Calls Try.prog 171 #[.slice (some ⟨b, o + a + 4, none⟩) (l.length - a - 4) (c - a - 4)] (w1.drewN m) fun e w' => e = .returned (.int .i64 (s4 : Int)) ∧ ∃ j, w' = (w1.drewN m).drewN j) := by rw [hk1]; exact fun m => HN4.out k1 m
      have hv9 : Hid (∀ m : Nat, z ≤ l.length - a - 8 → 1 ≤ z → Bs (w1.drewN m) (.slice (some ⟨b, o + (a + 8), none⟩) z (c - (a + 8))) X) := by rw [hk1]; exact fun m h1 h2 => hv8.out k1 h1 h2
      clear hnum hbr hown hbl hk1 HN4 hv8
      by_cases h1 : z < 1
      · have p1 : decide ((z : Int) < 1) = true := decide_eq_true (by omega)
        have H0 := Lib.hid (HF.out.trans (HA.out h1))
        go_wp2_with fail
        go_ret2
        exact whole_ret H0.out hsz.out hwh.out hown1.out hbl1.out hbr1
      have p1 : decide ((z : Int) < 1) = false := decide_eq_false (by omega)
      by_cases h2 : 1048576 < z
      · have p2 : decide ((1048576 : Int) < (z : Int)) = true := decide_eq_true (by omega)
        have H0 := Lib.hid (HF.out.trans (HB.out h2))
        go_wp2_with fail
        go_ret2
        exact whole_ret H0.out hsz.out hwh.out hown1.out hbl1.out hbr1
      have p2 : decide ((1048576 : Int) < (z : Int)) = false := decide_eq_false (by omega)
      by_cases h3 : l.length - a - 8 < z
      · have p3 : decide ((l.length : Int) - (a : Int) - 8 < (z : Int)) = true := decide_eq_true (by omega)
        have H0 := Lib.hid (HF.out.trans (HC.out h3))
        go_wp2_with fail
        go_ret2
        exact whole_ret H0.out hsz.out hwh.out hown1.out hbl1.out hbr1
      have p3 : decide ((l.length : Int) - (a : Int) - 8 < (z : Int)) = false := decide_eq_false (by omega)
      have hzX : X.length = z := hXl.out (by omega)
      have hcrl := crcN_lt X
      have hbX := Lib.hid (fun m : Nat => hv9.out m (by omega) (by omega))
      have HCR : Hid (∀ m, Calls Try.prog 93 #[.slice (some ⟨b, o + (a + 8), none⟩) z (c - (a + 8))] (w1.drewN m) fun e w' => e = .returned (.int .u32 (crcN X : Nat)) ∧ w' = w1.drewN m) :=
        fun m => (refcrc_any _ z _ X _ _ hzX ((hbX.out m).parts).2.2.1 (by omega) hX8.out).mono fun e w' h => ⟨h.1, h.2.symm⟩
      have HE2 := Lib.hid (HE.out h2 h3)
      generalize crcN X = cr at *
      have kc : IntKind.i64.wrap (cr : Int) = (cr : Int) := by rw [IntKind.wrap_i64]; omega
      clear HA HB HC HE hv9 hXl
      by_cases h4 : ¬ (cr = s4)
      · have d4 : ((cr : Int) != (s4 : Int)) = true := bne_iff_ne.2 (by omega)
        have d4' : ((cr : Int) == (s4 : Int)) = false := beq_eq_false_iff_ne.2 (by omega)
        have H0 := Lib.hid (HF.out.trans (HD.out h4))
        clear HD HE2 h4
        go_wp2_with fail
        go_quiet (first | (go_at_call 93; exact Calls.quiet_of_same (HCR.out _)) | (go_at_call 171; exact Calls.quiet_of (HN5.out _)) | (fail))
        go_wp2_with fail
        go_ret2
        exact whole_ret H0.out hsz.out hwh.out hown1.out (hbl1.out.below (below_drewN (Below.refl _ _) _)) (below_drewN hbr1 _)
      have h4 : cr = s4 := Classical.not_not.1 h4
      subst h4
      have hFX := HE2.out rfl
      have d4 : ((cr : Int) != (cr : Int)) = false := by simp
      have hne : X ≠ [] := by intro h0; rw [h0] at hzX; simp at hzX; omega
      have hws2 := hws.out (by rw [hFX]; exact hne)
      rw [hFX, hzX] at hws2
      have HWH : Hid (whole l = ns ++ [X] ++ whole (l.drop (a + (8 + z)))) := by show _ = _; rw [hwh.out, hws2]; simp
      have HSZ : Hid (a + (8 + z) = (lrecs (ns ++ [X])).length) := by show _ = _; rw [lrecs_snoc, List.length_append, lrec_length, ← hsz.out, hzX]
      have HZX := Lib.hid hzX
      clear HD HE2 hws hws2 hFX hne hwh hsz hzX HF
      go_wp2_with fail
      go_quiet (first | (go_at_call 93; exact Calls.quiet_of_same (HCR.out _)) | (go_at_call 171; exact Calls.quiet_of (HN5.out _)) | (fail))
      obtain ⟨W2, hW2⟩ : ∃ W2, W2 = w1.drewN nq := ⟨_, rfl⟩
      have hbr2 : Below w.heap.size w W2 := by rw [hW2]; exact below_drewN hbr1 _
      have hown2 : W2.ownsRow w.heap.size 27 1 u4 ns.length vs := by rw [hW2]; exact hown1.out
      have hbl2 : Blk W2 w.heap.size vs ns := by rw [hW2]; exact hbl1.out.below (below_drewN (Below.refl _ _) _)
      have hx2 : At W2 W2.heap.size (some ⟨b, o + (a + 8), none⟩) (bv X) := by rw [hW2]; exact ((hbX.out nq).parts).2.2.1
      rw [← hW2]
      clear hW2 hown1 hbl1 hbX HCR HN5 hbr1 kc d4
      go_wp2_with (first
        | (at_builtin
           refine wpList_app rfl (.tmp 51) (.tmp 52) rfl rfl (Own.nil W2 W2.heap.size) rfl hx2 (HZX.out.trans (by omega)) (by simp; omega) (Nat.le_refl _) ?_
           intro v3 w3 hou hb3 _ _
           rw [List.nil_append] at hou
           obtain ⟨A2, c2, rfl, hl2, -, -, -, -⟩ := id hou.form
           have hown3 : w3.ownsRow w.heap.size 27 1 u4 ns.length vs := World.ownsRow.kept (row := none) hown2 ⟨hb3.os, hb3.tape, hb3.output, hb3.size, fun k hk _ => hb3.block k hk⟩ (by cases hv : Value.ownBlock _ <;> simp)
           have hbl3 := hbl2.below hb3
           have hbr3 := nxt hbr2 hb3
           have hou3 := hou.mono (base' := w.heap.size) hbr2.size
           have hat3 : At (w3.alloc (.cells #[.slice A2 X.length c2] 27)) (w3.heap.size + 1) (some ⟨w3.heap.size, 0, none⟩) [.slice A2 X.length c2] := At.made w3 #[.slice A2 X.length c2] 27)
        | (at_builtin
           refine wpList_append_at _ rfl (.tmp 50) (.tmp 54) 24 rfl w.heap.size 27 i0 _ 1 24 Try.underlying24 hi0 hz0 hz1 hz2 rfl (by omega) _ ns.length vs rfl (hown3.alloc _) (w3.heap.size + 1) _ 1 1 [.slice A2 X.length c2] rfl hat3 rfl (by intro u hu; simp at hu; rw [hu]; rfl) (by unfold maxLen; omega) (by omega) (by have := hbr3.size; simp; omega) ?_
           intro v4 w4 hown4 hg4 _)
        | (fail))
      have hb4 : Below w.heap.size w w4 := (hbr3.alloc hbr3.size _).trans ((Below.refl _ _).grown hg4 (by have := hbr3.size; simp; omega) (fun k hk => (World.ownsRow.lt hown3 k hk).1))
      have ha3 : Below w3.heap.size w3 (w3.alloc (.cells #[.slice A2 X.length c2] 27)) := (Below.refl _ _).alloc (Nat.le_refl _) _
      have hbl4 := ((hbl3.snoc hou3 hX8.out).below ha3).grown (hown3.alloc _) (by decide) hg4
      clear hown3 hg4 hat3 hbl3 hou3 hbr3 ha3
      go_roundw
      case rel => exact ⟨a + (8 + z), ns ++ [X], _, by go_num, by omega, by simp; omega, HSZ, HWH, Lib.hid (by simpa using hown4), Lib.hid hbl4, hb4⟩
      case measure => simp [intOf]; omega
end Go.Proofs.Ytjcefnlidophoaa
