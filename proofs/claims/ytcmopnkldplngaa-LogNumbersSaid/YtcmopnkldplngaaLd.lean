/- slices.Clone at bytes, drover/log.whole: the walks. -/
import Derived.Test.YtcmopnkldplngaaLc
import Derived.Test.YtcmopnkldplngaaBlk
import Derived.Lib.Slices
import Derived.Lib.SliceRun
namespace Go.Proofs.Ytcmopnkldplngaa
open Go.RowKit

theorem own_made (w : World) (l : List Nat) (n g : Nat) (arr : Array Value) (hn : l.length = n) (ha : arr.toList = bv l) (hs : arr.size = n) (hg : g = w.heap.size) (hm : l.length ≤ maxLen := by decide) : Own (w.alloc (.cells arr 5)) w.heap.size (.slice (some ⟨g, 0, none⟩) n n) l := by
  subst hg
  subst hn
  refine ⟨by simp [bv], .inr ⟨w.heap.size, l.length, arr, rfl, Nat.le_refl _, heap_alloc_new w _, Nat.le_refl _, hm, by omega, ?_⟩⟩
  rw [ha, Nat.mul_one]
  exact List.take_of_length_le (by simp [bv])
theorem blk_info : (Try.prog.info? 22).map (fun i => (i.zero, i.size, i.bytes)) = some (some (.slice none 0 0), 1, 24) := by kernel_rfl
set_option maxHeartbeats 400000 in
set_option maxRecDepth 100000 in
theorem clone_any (v : Value) (l : List Nat) (w : World) (h : Bs w v l) (hn : l.length ≤ 1099511627776) :
    Calls Try.prog 36 #[v] w fun e w' => ∃ u, e = .returned u ∧ Own w' w.heap.size u l ∧ Below w.heap.size w w' := by
  obtain ⟨⟨A, c, rfl, hc, ha⟩, h8⟩ := h
  cases A with
  | none =>
    have hl : l = [] := by
      cases l with
      | nil => rfl
      | cons x r => obtain ⟨b, o, e, _⟩ := ha (by simp [bv]); cases e
    subst hl
    have hnil := Lib.run_eql_slice_nil (P := Try.prog) w 22 5 none 0 c 0 0 Try.underlying22
    go_enter Try.func36, Try.ntmps36
    go_wp2_with fail
    go_ret
    exact ⟨_, rfl, Own.nil _ _, Below.refl _ _⟩
  | some a =>
    have hnil := Lib.run_eql_slice_nil (P := Try.prog) w 22 5 (some a) l.length c 0 0 Try.underlying22
    go_enter Try.func36, Try.ntmps36
    go_wp2_with (at_builtin
                 refine wpList_app rfl (.tmp 5) (.tmp 6) rfl rfl (own_made w [] 0 _ _ rfl rfl rfl rfl) rfl (ha.alloc (Nat.le_refl _) _) rfl (by simp; omega) (by simp) ?_
                 intro v2 w2 hown2 hb2 _ _)
    go_ret
    exact ⟨_, rfl, hown2, ((Below.refl _ _).alloc (Nat.le_refl _) _).trans hb2⟩
set_option maxRecDepth 100000 in
set_option maxHeartbeats 1600000 in
theorem whole_any (v : Value) (l : List Nat) (w : World) (hv : Bs w v l) (hn : l.length ≤ 67108864) :
    Calls Try.prog 24 #[v] w fun e w' => ∃ u vs, e = .returned (.tuple #[u, .int .i64 ((lrecs (whole l)).length : Int)]) ∧ w'.ownsRow w.heap.size 22 1 u (whole l).length vs ∧ Blk w' w.heap.size vs (whole l) ∧ Below w.heap.size w w' := by
  have hv0 := Lib.hid hv
  have h8 := Lib.hid hv.2
  obtain ⟨⟨A, c, rfl, hc, -⟩, -⟩ := hv
  obtain ⟨i0, hi0, hz0, hz1, hz2⟩ := info_parts blk_info
  go_enter Try.func24, Try.ntmps24
  go_wp2_with fail
  go_loopw [4, 5] (fun q i wr => ∃ (a : Nat) (ns : List (List Nat)) (vs : List Value), i = .int .i64 (a : Int) ∧ a ≤ l.length ∧ ns.length ≤ a ∧ Hid (a = (lrecs ns).length) ∧ Hid (whole l = ns ++ whole (l.drop a)) ∧ wr.ownsRow w.heap.size 22 1 q ns.length vs ∧ Blk wr w.heap.size vs ns ∧ Below w.heap.size w wr) (fun _ i _ => l.length - (intOf i).toNat)
  case atStart => exact ⟨0, [], [], rfl, Nat.zero_le _, Nat.le_refl _, Lib.hid rfl, Lib.hid rfl, World.ownsRow_nil _ _ _ _, Blk.nil _ _, Below.refl _ _⟩
  case round =>
    obtain ⟨a, ns, vs, rfl, hal, hna, hsz, hwh, hown, hbl, hbr⟩ := hrel
    have hvr := hv0.out.below hbr
    have hvd := hvr.drop a hal
    by_cases hca : c = a
    · rw [if_pos hca] at hvd
      have hf := Lib.hid (first_any _ _ wr hvd (by rw [List.length_drop]; omega))
      have he : l.drop a = [] := List.drop_eq_nil_of_le (by omega)
      rw [he, lfirst_nil] at hf
      rw [he, whole_end _ lfirst_nil, List.append_nil] at hwh
      clear he hvd hvr
      subst hca
      rw [Nat.sub_self, show l.length - c = 0 by omega] at hf
      go_wp2_with fail
      refine hf.out.mono ?_
      rintro e w1 ⟨u, rfl, hu, hb1⟩
      obtain ⟨⟨Au, cu, rfl, -, -⟩, -⟩ := id hu
      have hown1 : w1.ownsRow w.heap.size 22 1 u4 ns.length vs := World.ownsRow.kept (row := none) hown ⟨hb1.os, hb1.tape, hb1.output, hb1.size, fun k hk _ => hb1.block k hk⟩ (by cases hv : Value.ownBlock _ <;> simp)
      have hbl1 := hbl.below hb1
      have hbr1 := nxt hbr hb1
      rw [← hwh.out] at hown1 hbl1
      rw [hsz.out, ← hwh.out]
      clear hown hbl hbr hb1 hf hu
      go_wp2_with fail
      go_ret2
      exact ⟨_, vs, rfl, hown1, hbl1, hbr1⟩
    · rw [if_neg hca] at hvd
      have hf := Lib.hid (first_any _ _ wr hvd (by rw [List.length_drop]; omega))
      go_wp2_with fail
      refine hf.out.mono ?_
      rintro e w1 ⟨u, rfl, hu, hb1⟩
      obtain ⟨⟨Au, cu, rfl, hcu, -⟩, -⟩ := id hu
      have hown1 : w1.ownsRow w.heap.size 22 1 u4 ns.length vs := World.ownsRow.kept (row := none) hown ⟨hb1.os, hb1.tape, hb1.output, hb1.size, fun k hk _ => hb1.block k hk⟩ (by cases hv : Value.ownBlock _ <;> simp)
      have hbl1 := hbl.below hb1
      have hbr1 := nxt hbr hb1
      clear hown hbl hbr hb1 hf hvd hvr
      by_cases h0 : lfirst (l.drop a) = []
      · rw [h0] at hu ⊢
        rw [whole_end _ h0, List.append_nil] at hwh
        rw [← hwh.out] at hown1 hbl1
        rw [hsz.out, ← hwh.out]
        clear h0 hu
        go_wp2_with fail
        go_ret2
        exact ⟨_, vs, rfl, hown1, hbl1, hbr1⟩
      · have hlen := lfirst_len _ h0
        rw [List.length_drop] at hlen
        have hst := whole_step _ h0
        rw [List.drop_drop] at hst
        rw [hst] at hwh
        have hpos : 0 < (lfirst (l.drop a)).length := List.length_pos_iff.2 h0
        have hx8 := Lib.hid hu.2
        generalize lfirst (l.drop a) = x at *
        have hl0 : ((x.length : Int) == 0) = false := beq_eq_false_iff_ne.2 (by omega)
        have hx8' := hx8
        clear hst h0
        have s1 : IntKind.i64.wrap (8 + (x.length : Int)) = ((8 + x.length : Nat) : Int) := by rw [IntKind.wrap_i64]; omega
        have s2 : IntKind.i64.wrap ((a : Int) + ((8 + x.length : Nat) : Int)) = ((a + (8 + x.length) : Nat) : Int) := by rw [IntKind.wrap_i64]; omega
        have hcl := Lib.hid (clone_any _ x w1 hu (by omega))
        clear hu
        go_wp2_with fail
        refine hcl.out.mono ?_
        rintro e w2 ⟨uc, rfl, hou, hb2⟩
        have hown2 : w2.ownsRow w.heap.size 22 1 u4 ns.length vs := World.ownsRow.kept (row := none) hown1 ⟨hb2.os, hb2.tape, hb2.output, hb2.size, fun k hk _ => hb2.block k hk⟩ (by cases hv : Value.ownBlock _ <;> simp)
        have hbl2 := hbl1.below hb2
        have hbr2 := nxt hbr1 hb2
        have hou2 := hou.mono (base' := w.heap.size) hbr1.size
        clear hown1 hbl1 hbr1 hb2 hcl hou
        obtain ⟨A2, c2, rfl, hl2, -, -, -, -⟩ := id hou2.form
        have hat2 : At (w2.alloc (.cells #[.slice A2 x.length c2] 22)) (w2.heap.size + 1) (some ⟨w2.heap.size, 0, none⟩) [.slice A2 x.length c2] := At.made w2 #[.slice A2 x.length c2] 22
        go_wp2_with (first
          | (at_builtin
             refine wpList_append_at _ rfl (.tmp 16) (.tmp 19) 30 rfl w.heap.size 22 i0 _ 1 24 Try.underlying30 hi0 hz0 hz1 hz2 rfl (by omega) _ ns.length vs rfl (hown2.alloc _) (w2.heap.size + 1) _ 1 1 [.slice A2 x.length c2] rfl hat2 rfl (by intro u hu; simp at hu; rw [hu]; rfl) (by unfold maxLen; omega) (by omega) (by have := hbr2.size; simp; omega) ?_
             intro v3 w3 hown3 hg3 _)
          | (fail))
        have hb3 : Below w.heap.size w w3 := (hbr2.alloc hbr2.size _).trans ((Below.refl _ _).grown hg3 (by have := hbr2.size; simp; omega) (fun k hk => (World.ownsRow.lt hown2 k hk).1))
        have ha2 : Below w2.heap.size w2 (w2.alloc (.cells #[.slice A2 x.length c2] 22)) := (Below.refl _ _).alloc (Nat.le_refl _) _
        have hbl3 := ((hbl2.snoc hou2 hx8.out).below ha2).grown (hown2.alloc _) (by decide) hg3
        clear hown2 hg3 hat2 hbl2 hou2 hbr2 ha2
        go_roundw
        case rel => exact ⟨a + (8 + x.length), ns ++ [x], _, by go_num, by omega, by simp; omega, Lib.hid (by rw [lrecs_snoc, List.length_append, lrec_length, ← hsz.out]), Lib.hid (by rw [hwh.out]; simp), by simpa using hown3, hbl3, hb3⟩
        case measure => simp [intOf]; omega
end Go.Proofs.Ytcmopnkldplngaa
