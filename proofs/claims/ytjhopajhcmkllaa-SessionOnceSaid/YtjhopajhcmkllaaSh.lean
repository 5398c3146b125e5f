/- drover/session.Packets: the walk. -/
import Derived.Test.YtjhopajhcmkllaaSg
import Derived.RegionTactic
import Derived.BigRegion
namespace Go.Proofs.Ytjhopajhcmkllaa
open Go.RowKit
set_option linter.unusedVariables false

/-- What Packets tells. -/
def Se.packets (p : Se) : List (List Nat) := if p.ds = [] then [p.pk 0 []] else (p.ds.take 8).mapIdx fun i d => p.pk (p.first + 1 + i) d
def PacketsP (p : Se) (w : World) (e : Ending) (w' : World) : Prop := ∃ v, e = .returned v ∧ RB w' w.heap.size v p.packets ∧ Below w.heap.size w w'
theorem RB.one {w : World} {A : Option Addr} {c : Nat} {x : List Nat} (base : Nat) (hb : base ≤ w.heap.size) (hx : Bx w 0 (.slice A x.length c) x) : RB (w.alloc (.cells #[.slice A x.length c] 25)) base (.slice (some ⟨w.heap.size, 0, none⟩) 1 1) [x] := by
  refine ⟨[.slice A x.length c], ⟨rfl, .inr ⟨w.heap.size, 1, #[.slice A x.length c], rfl, hb, heap_new w _, by simp, by unfold maxLen; omega, rfl, rfl⟩⟩, fun i y hy => ?_, ?_⟩
  · cases i with
    | zero =>
      simp at hy
      subst hy
      exact ⟨A, c, rfl, hx.below ((Below.refl _ _).alloc (Nat.le_refl _) _)⟩
    | succ i => simp at hy
  · intro u hu
    simp at hu
    subst hu
    rfl
section
variable {w w' : World} {base q : Nat} {r r' : Option Nat} {p : Se}
set_option maxRecDepth 100000 in
set_option maxHeartbeats 1600000 in
theorem packets_any (h : SeAt w base q r p) : Calls Try.prog 18 #[.pointer (some ⟨q, 0, none⟩)] w fun e w' => PacketsP p w e w' := by
  have HM := Lib.hid (smade_any h)
  have HS := Lib.hid h
  have hok := h.ok
  obtain ⟨v, L, -, -, ho, hh, hi, -⟩ := h
  have hlen := hi.len
  obtain ⟨A, c, rfl, hc⟩ := irow_slice ho
  have hfew := hok.few
  have hlast := hok.last
  obtain ⟨c0, c1, c2, c3, c4, c5, c6, c7, c8⟩ := box9 hh
  clear c0 c1 c2 c3 c4 c6 c7 c8
  by_cases hds : p.ds = []
  · have hL : L.length = 0 := by rw [hlen, hds]; rfl
    have hP : p.packets = [p.pk 0 []] := by unfold Se.packets; rw [if_pos hds]
    have HP := Lib.hid hP
    have k1 : ((L.length : Int) == 0) = true := by rw [hL]; rfl
    have HC := Lib.hid (packet_any HS.out 0 [] none 0 (Bs.nil w) (by omega) (by simp) (.inr rfl))
    clear hP hL hds ho hh hi hlen
    go_enter Try.func18, Try.ntmps18
    go_wp2_with fail
    refine HM.out.mono ?_
    rintro e w1 ⟨rfl, rfl⟩
    go_wp2_with fail
    refine HC.out.mono ?_
    rintro e w1 ⟨A1, c1, rfl, ho1, hs1, hb1⟩
    have hx1 : Bx w1 0 (.slice A1 (p.pk 0 []).length c1) (p.pk 0 []) := Bx.of_own ho1 hs1.2
    go_wp2_with fail
    go_ret
    refine ⟨_, rfl, ?_, hb1.alloc hb1.size _⟩
    rw [HP.out]
    exact RB.one _ hb1.size hx1
  · have hL : 0 < L.length := by rw [hlen]; exact List.length_pos_iff.2 hds
    have k1 : ((L.length : Int) == 0) = false := beq_eq_false_iff_ne.2 (by omega)
    obtain ⟨m, hm⟩ : ∃ m, m = min L.length 8 := ⟨_, rfl⟩
    have hm1 : m ≤ L.length := by omega
    have hm8 : m ≤ 8 := by omega
    have k2 : min (L.length : Int) 8 = (m : Int) := by omega
    have HP : Hid (p.packets = (p.ds.take m).mapIdx fun i d => p.pk (p.first + 1 + i) d) := Lib.hid (by
      unfold Se.packets
      rw [if_neg hds]
      have : p.ds.take 8 = p.ds.take m := by
        rw [hm, hlen]
        by_cases h8 : 8 ≤ p.ds.length
        · rw [Nat.min_eq_right h8]
        · rw [Nat.min_eq_left (by omega), List.take_of_length_le (by omega), List.take_of_length_le (Nat.le_refl _)]
      rw [this])
    have hla := Lib.hid (LAt.of_row rfl ho)
    have HI := Lib.hid hi
    have HLEN := Lib.hid hlen
    have hK := Lib.hid hok
    have hf1 : p.first + p.ds.length = p.last := by unfold Se.first; omega
    have HF1 := Lib.hid hf1
    have hcm : m ≤ c := by omega
    have hcm2 : c ≤ 9223372036854775807 := by
      rcases ho.2 with ⟨h1, h2⟩ | ⟨g, cap, cur, he, _, _, h3, h4, _⟩
      · injection h1 with _ _ h1; omega
      · injection he with _ _ he; unfold maxLen at h4; omega
    clear hm hds ho hh hi hlen hok hf1 hL
    go_enter Try.func18, Try.ntmps18
    go_wp2_with fail
    refine HM.out.mono ?_
    rintro e w1 ⟨rfl, rfl⟩
    go_wp2_with fail
    go_region
    go_wp2_with fail
    obtain ⟨V, hV⟩ : ∃ V, V = w.drew := ⟨_, rfl⟩
    rw [← hV]
    have HSV : Hid (SeAt V base q r p) := Lib.hid (by rw [hV]; exact HS.out.drew)
    have HIV : Hid (Its V p.first p.ds L) := Lib.hid (by rw [hV]; exact HI.out.keep (Nat.le_refl _) (fun _ _ _ _ => rfl))
    have HLV : Hid (LAt V A L) := Lib.hid (by rw [hV]; exact hla.out.drew)
    have hbV : Below w.heap.size w V := by rw [hV]; exact (Below.refl _ _).drew
    have hsV : w.heap.size ≤ V.heap.size := hbV.size
    have HBV := Lib.hid hbV
    clear c5 k1 k2 HM HS HI hla hV hbV
    go_loopw [3, 34] (fun u i wr => ∃ j : Nat, j ≤ m ∧ i = .int .i64 (j : Int) ∧ Hid (RB wr V.heap.size u (p.packets.take j)) ∧ Below V.heap.size V wr) (fun _ i _ => m - (intOf i).toNat)
    case atStart => exact ⟨0, by omega, rfl, Lib.hid (by rw [List.take_zero]; exact RB.nil _ _), Below.refl _ _⟩
    case round =>
      obtain ⟨j, hj, rfl, HR, hbr⟩ := hrel
      by_cases hlt : j < m
      · have hjl : j < L.length := by omega
        obtain ⟨x, hx⟩ : ∃ x, Hid (L[j]? = some x) := ⟨L[j], Lib.hid (List.getElem?_eq_getElem hjl)⟩
        have hxm : x ∈ L := List.mem_of_getElem? hx.out
        have hxs := HIV.out.num j x hx.out
        obtain ⟨s, hs⟩ : ∃ s, Hid (s = p.first + 1 + j) := ⟨_, Lib.hid rfl⟩
        rw [← hs.out] at hxs
        have hxd := HIV.out.short hK.out.short x hxm
        have hxb := (HIV.out.below hbr).bs x hxm
        obtain ⟨g, hAg, hgl, hcell⟩ := (HLV.out.below hbr) (fun h => by rw [h] at hxm; simp at hxm)
        obtain ⟨x0, x1⟩ := hcell j x hx.out
        rw [hxs] at x0
        have hs1 : s ≤ 4611686018427387904 := by
          have := hs.out
          have := HF1.out
          have := HLEN.out
          omega
        have hs0 : s ≠ 0 := by have := hs.out; omega
        have HAG := Lib.hid hAg
        have hpk : Hid (p.packets[j]? = some (p.pk s x.d)) := Lib.hid (by
          rw [HP.out, List.getElem?_mapIdx, List.getElem?_take_of_lt hlt, ← HIV.out.ds, List.getElem?_map, hx.out, hs.out]
          rfl)
        clear hcell hxm hjl hxs hAg
        have hA := HAG.out
        subst hA
        clear HAG
        have q2 := heap_new wr (.cells #[.int .i64 (s : Int), .slice x.A x.d.length x.c] 27)
        have hb2 := (Below.refl wr.heap.size wr).alloc (Nat.le_refl _) (.cells #[.int .i64 (s : Int), .slice x.A x.d.length x.c] 27)
        have HC := Lib.hid (packet_any ((HSV.out.below hbr).below hb2) s x.d x.A x.c (hxb.below hb2) hs1 hxd (.inl hs0))
        clear hs0 hs1 hxb
        go_wp2_with fail
        refine HC.out.mono ?_
        rintro e w1 ⟨A1, c1, rfl, ho1, hs1', hb1⟩
        have hx1 : Bx w1 0 (.slice A1 (p.pk s x.d).length c1) (p.pk s x.d) := Bx.of_own ho1 hs1'.2
        have hbx := nxt hb2 hb1
        have hl1 : (p.packets.take j).length ≤ 8 := by rw [List.length_take]; omega
        clear x0 x1 q2 ho1 hs1' HC
        go_wp2_with (first
          | (at_builtin
             refine wpList_bapp rfl (.tmp 38) (.tmp 42) rfl rfl ((HR.out.below hbx).below ((Below.refl _ _).alloc (Nat.le_refl _) _)) rfl (At.made _ #[.slice A1 (p.pk s x.d).length c1] _) (hx1.below ((Below.refl _ _).alloc (Nat.le_refl _) _)) (by omega) (by have := hbr.size; have := hbx.size; simp; omega) ?_
             intro v' w2 HR2 hb3 hg hv)
          | (fail))
        go_roundw
        case rel =>
          refine ⟨j + 1, by omega, by go_num, Lib.hid ?_, (hbr.trans ((hbx.alloc hbx.size _).mono hbr.size)).trans hb3⟩
          have hjl : j < p.packets.length := (List.getElem?_eq_some_iff.1 hpk.out).1
          rw [List.take_succ_eq_append_getElem hjl, (List.getElem?_eq_some_iff.1 hpk.out).2]
          exact HR2
        case measure => simp [intOf]; omega
      · obtain rfl : j = m := by omega
        go_wp2_with fail
        go_ret
        refine ⟨_, rfl, ?_, nxt HBV.out hbr⟩
        have := HR.out
        rw [List.take_of_length_le (by rw [HP.out, List.length_mapIdx, List.length_take]; omega)] at this
        exact this.mono hsV
end
end Go.Proofs.Ytjhopajhcmkllaa
